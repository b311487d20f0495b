/- Contracts of chapter 11: what is read under the cursor; the program's methods that move it. -/
import Derived.Test.YtefhhigcplemaaaDoorC11c
import Derived.Test.YtefhhigcplemaaaDoorC11f
namespace Go.Proofs.YtefhhigcplemaaaDoor
open Go.RowKit
set_option linter.unusedVariables false
set_option linter.unusedSimpArgs false

/-- The cells of a machine. -/
abbrev mcs (L : Int) (A B : Option Addr) (n c m d : Nat) (a q : Int) : Array Value := #[.int .i64 L, .slice A n c, .slice B m d, .int .i64 a, .int .i64 q]
def pmet (b : Bool) : Value := if b = true then .func (.func 78) #[] #[] else .func (.func 76) #[] #[]
theorem pmet_t : pmet true = .func (.func 78) #[] #[] := rfl
theorem pmet_f : pmet false = .func (.func 76) #[] #[] := rfl

theorem mcode_any (g : Nat) (L : Int) (A B : Option Addr) (n c m d : Nat) (a q : Int) (w : World) (h : Blk w g 104 (mcs L A B n c m d a q)) :
    Calls Tryd.prog 114 #[.pointer (some ⟨g, 0, none⟩)] w fun e w' => e = .returned (.int .i64 (if sgB a q = true then 0 else 5)) ∧ Gr w w' := by
  obtain ⟨c0, c1, c2, c3, c4, -⟩ := h.five
  have gl := h.lt
  have HS := Lib.hid (fun W => setting_impl a q W)
  clear h
  generalize sgB a q = x at *
  cases x
  all_goals
    go_enter Tryd.func114, Tryd.ntmps114
    go_wp2_with (go_at_call 108; (with_reducible refine (HS.out _).mono ?_); rintro e w' ⟨rfl, k, os, rfl⟩)
    go_ret
    exact ⟨rfl, (by repeat (first | with_reducible exact Gr.refl _ | with_reducible refine Gr.alloc ?_ _ | with_reducible refine Gr.gr ?_ _ _ | with_reducible refine Gr.drew ?_ | with_reducible refine Gr.drewN ?_ _))⟩
/-- The program's table is no machine. -/
theorem dcs_mach {w : World} {g : Nat} {L : Int} {A B : Option Addr} {n c m d : Nat} {a q : Int} (hD : Dcs w) (h : Blk w g 104 (mcs L A B n c m d a q)) : 1 ≠ g := by
  intro e
  have h1 := hD 1 (by omega)
  have h2 := h.five.2.1
  rw [← e] at h2
  rw [h2] at h1
  cases h1
theorem Dcs.gx {w w' : World} {g : Nat} (h : Dcs w) (hg : Gx g w w') (hne : 1 ≠ g) : Dcs w' := fun i hi => hg.cell (h i hi) hne
/-- A machine whose setting was written: the rest of the world has grown. -/
def Moved (g : Nat) (cs : Array Value) (k : Int) (w : World) (e : Ending) (w' : World) : Prop := e = .returned (.int .i64 k) ∧ Blk w' g 104 cs ∧ Gx g w w'
theorem wpart (b : Bool) (g : Nat) (L : Int) (A B : Option Addr) (n c m d : Nat) (a q : Int) (w : World) (h : Blk w g 104 (mcs L A B n c m d a q)) :
    Calls Tryd.prog (if b = true then 78 else 76) #[.pointer (some ⟨g, 0, none⟩)] w fun e w' => e = .returned (.agg #[if b = true then .slice B m d else .slice A n c, .int .i64 (stP b a)]) ∧ Gr w w' := by
  cases b
  · exact stock_any g L A B n c m d a q w h
  · exact slide_any g L A B n c m d a q w h
set_option maxRecDepth 100000 in
set_option maxHeartbeats 2000000 in
theorem setSlide_any (g : Nat) (a q s u t : Int) (L : Int) (A B : Option Addr) (n c m d : Nat) (xs ys : List Int) (w : World) (hD : Dcs w) (hy : ys.length = m) (hm : m ≤ 16777216) (hY : Reads w w.heap.size B (ys.map vi)) (h : Blk w g 104 (mcs L A B n c m d a q)) (hf : fg u t = true) (hq : 0 ≤ q ∧ q ≤ 1048576) (hl : hasI ys s = true → lsc s = true) :
    Calls Tryd.prog 80 #[.pointer (some ⟨g, 0, none⟩), .int .i64 s, .agg #[.int .i64 u, .int .i64 t]] w fun e w' => if hasI ys s = true then Moved g (mcs L A B n c m d (q - pnt s u t) q) (if sgB (q - pnt s u t) q = true then 0 else 5) w e w' else (e = .returned (.int .i64 2) ∧ Gr w w') := by
  have HB := Lib.hid (fun st W h => partHas_any B m d ys st s W hy hm h)
  have RY := Lib.hid hY
  have HBk := Lib.hid h
  have HD := Lib.hid hD
  clear hy hY h hD
  rcases hasI_tf ys s with hs | hs
  · rw [hs] at HB
    simp only [hs, if_true]
    have hls := hl hs
    have HP := Lib.hid (fun W h => pointOn_any s u t W h hf hls)
    have bp := pnt_bd s u t hf
    generalize pnt s u t = x at *
    have HC := Lib.hid (fun W h => mcode_any g L A B n c m d (q - x) q W h)
    generalize hk : (if sgB (q - x) q = true then (0 : Int) else 5) = k at *
    clear hs hl hls hf hk
    obtain ⟨q1, q2⟩ := hq
    obtain ⟨x1, x2⟩ := bp
    go_enter Tryd.func80, Tryd.ntmps80
    go_wp2_with (first
      | (go_at_call 78; (with_reducible refine (slide_any g _ _ _ _ _ _ _ _ _ _ (HBk.out.alloc _)).mono ?_); rintro e w1 ⟨rfl, hg1⟩)
      | (go_at_call 112; (with_reducible refine (HB.out _ w1 ((RY.out.gr (show Gr w _ from (by repeat (first | with_reducible exact Gr.refl _ | with_reducible refine Gr.alloc ?_ _ | with_reducible refine Gr.gr ?_ _ _ | with_reducible refine Gr.drew ?_ | with_reducible refine Gr.drewN ?_ _)))).gr hg1)).mono ?_); rintro e w2 ⟨rfl, hg2⟩))
    have G2 := ((show Gr w _ from (by repeat (first | with_reducible exact Gr.refl _ | with_reducible refine Gr.alloc ?_ _ | with_reducible refine Gr.gr ?_ _ _ | with_reducible refine Gr.drew ?_ | with_reducible refine Gr.drewN ?_ _))).trans hg1).trans hg2
    have F2 := ((Blk.new w 45 #[.int .i64 u, .int .i64 t]).gr hg1).gr hg2
    have B2 := HBk.out.gr G2
    have D2 := HD.out.gr G2
    have hne := dcs_mach D2 B2
    have hfg : w.heap.size ≠ g := by have := HBk.out.lt; omega
    have HG2 := Lib.hid G2
    have HF := Lib.hid (fun wz (hz : CW g (fun wz => ∃ y, Blk wz g 104 (mcs L A B n c m d y q)) w2 wz) => (hz.gx.keeps F2 hfg).two)
    have HDz := Lib.hid (fun wz (hz : CW g (fun wz => ∃ y, Blk wz g 104 (mcs L A B n c m d y q)) w2 wz) => D2.gx hz.gx hne)
    have hw : IntKind.i64.wrap (q - x) = q - x := IntWalk.i64_in _ (by omega)
    have hp : ∀ a b, Gr a b → (∃ y, Blk a g 104 (mcs L A B n c m d y q)) → (∃ y, Blk b g 104 (mcs L A B n c m d y q)) := fun a b hg ⟨y, h⟩ => ⟨y, h.gr hg⟩
    clear RY HBk HD HB hg1 hg2 G2 F2 D2 hne hfg
    refine region_writes 13 g 104 (mcs L A B n c m d (q - x) q) [(8, .int .i64 x)] (fun wz => ∃ y, Blk wz g 104 (mcs L A B n c m d y q)) ⟨a, B2⟩ (by kernel_rfl) (by kernel_rfl) ?_
    (refine lz_one rfl (fun K hK => ?_); refine ⟨rfl, ?_⟩; apply Exists.intro; refine ⟨fun wz hz => ?_, ?_⟩; (focus (skip; go_simp; (first | done | exact ⟨rfl, rfl⟩ | trivial))); (go_simp; refine hK _ _ ?_; clear hK K))
    (refine lz_one rfl (fun K hK => ?_); refine ⟨rfl, ?_⟩; apply Exists.intro; refine ⟨fun wz hz => ?_, ?_⟩; (focus (skip; go_simp; (first | done | exact ⟨rfl, rfl⟩ | trivial))); (go_simp; refine hK _ _ ?_; clear hK K))
    (refine lz_one rfl (fun K hK => ?_); refine ⟨rfl, ?_⟩; apply Exists.intro; refine ⟨fun wz hz => ?_, ?_⟩; (focus (skip; go_simp; (first | done | exact ⟨rfl, rfl⟩ | trivial))); (go_simp; refine hK _ _ ?_; clear hK K))
    (refine lz_one rfl (fun K hK => ?_); refine ⟨rfl, ?_⟩; apply Exists.intro; refine ⟨fun wz hz => ?_, ?_⟩; (focus (skip; go_simp; (first | done | exact ⟨rfl, rfl⟩ | trivial))); (go_simp; refine hK _ _ ?_; clear hK K))
    (refine lz_one rfl (fun K hK => ?_); refine ⟨rfl, ?_⟩; apply Exists.intro; refine ⟨fun wz hz => ?_, ?_⟩; (focus (skip; go_simp; (first | done | exact ⟨rfl, rfl⟩ | trivial))); (go_simp; refine hK _ _ ?_; clear hK K))
    (refine lz_one rfl (fun K hK => ?_); refine ⟨rfl, ?_⟩; apply Exists.intro; refine ⟨fun wz hz => ?_, ?_⟩; (focus (obtain ⟨y, hB⟩ := hz.at'; obtain ⟨b0, b1, b2, b3, b4, -⟩ := hB.five; go_simp; (first | done | exact ⟨rfl, rfl⟩ | trivial))); (go_simp; refine hK _ _ ?_; clear hK K))
    (refine lz_one rfl (fun K hK => ?_); refine ⟨rfl, ?_⟩; apply Exists.intro; refine ⟨fun wz hz => ?_, ?_⟩; (focus (skip; go_simp; (first | done | exact ⟨rfl, rfl⟩ | trivial))); (go_simp; refine hK _ _ ?_; clear hK K))
    (refine lz_one rfl (fun K hK => ?_); refine ⟨rfl, ?_⟩; apply Exists.intro; refine ⟨fun wz hz => ?_, ?_⟩; (focus (obtain ⟨f0, f1, -⟩ := HF.out wz hz; go_simp; (first | done | exact ⟨rfl, rfl⟩ | trivial))); (go_simp; refine hK _ _ ?_; clear hK K))
    (refine lz_many _ rfl (fun K hK => ?_); refine ⟨rfl, fun wz hz ha => ?_, fun vz wz hz hf => ?_⟩; (focus (go_simp; exact lw_call (by decide) hp hz (HP.out _ (HDz.out wz hz)))); (obtain rfl := hf; clear hz wz; go_simp; refine hK _ _ ?_; clear hK K))
    (refine lz_one rfl (fun K hK => ?_); refine ⟨rfl, ?_⟩; apply Exists.intro; refine ⟨fun wz hz => ?_, ?_⟩; (focus (skip; go_simp; (first | done | exact ⟨rfl, rfl⟩ | trivial))); (go_simp; refine hK _ _ ?_; clear hK K))
    (refine lz_one rfl (fun K hK => ?_); refine ⟨rfl, ?_⟩; apply Exists.intro; refine ⟨fun wz hz => ?_, ?_⟩; (focus (skip; go_simp; (first | done | exact ⟨rfl, rfl⟩ | trivial))); (go_simp; refine hK _ _ ?_; clear hK K))
    (refine lz_one rfl (fun K hK => ?_); refine ⟨rfl, ?_⟩; apply Exists.intro; refine ⟨fun wz hz => ?_, ?_⟩; (focus (skip; go_simp; (first | done | exact ⟨rfl, rfl⟩ | trivial))); (go_simp; refine hK _ _ ?_; clear hK K))
    (refine lz_one rfl (fun K hK => ?_); refine ⟨rfl, ?_⟩; apply Exists.intro; refine ⟨fun wz hz => ?_, ?_⟩; (focus (skip; go_simp; (first | done | exact ⟨rfl, rfl⟩ | trivial))); (go_simp; refine hK _ _ ?_; clear hK K))
    (refine lz_many _ rfl (fun K hK => ?_); refine ⟨rfl, fun wz hz ha => ?_, fun vz wz hz hf => ?_⟩; (focus (obtain ⟨y, hB⟩ := hz.at'; obtain ⟨b0, b1, b2, b3, b4, bf⟩ := hB.five; have bl := hB.lt; go_simp; exact lw_store hz (by simp) ((Gx.of (Gr.refl _)).set 3 _) ⟨_, hB.set 3 _⟩ (hB.set 3 _))); (obtain - := hf; clear hz wz; go_simp; refine hK _ _ ?_; clear hK K))
    refine lz_nil ?_
    intro w3 hz hg
    have B3 : Blk w3 g 104 (mcs L A B n c m d (q - x) q) := hg 13
    have hX := Lib.hid ((Gx.of HG2.out).trans hz.gx)
    have HB3 := Lib.hid B3
    clear hg hz
    go_wp2_with (go_at_call 114; (with_reducible refine (HC.out _ HB3.out).mono ?_); rintro e w4 ⟨rfl, hg4⟩)
    go_ret
    exact ⟨rfl, HB3.out.gr hg4, hX.out.trans (Gx.of hg4)⟩
  · rw [hs] at HB
    simp only [hs, Bool.false_eq_true, if_false]
    clear hs hl hf
    go_enter Tryd.func80, Tryd.ntmps80
    go_wp2_with (first
      | (go_at_call 78; (with_reducible refine (slide_any g _ _ _ _ _ _ _ _ _ _ (HBk.out.alloc _)).mono ?_); rintro e w' ⟨rfl, k, os, rfl⟩)
      | (go_at_call 112; (with_reducible refine (HB.out _ _ (RY.out.gr (by repeat (first | with_reducible exact Gr.refl _ | with_reducible refine Gr.alloc ?_ _ | with_reducible refine Gr.gr ?_ _ _ | with_reducible refine Gr.drew ?_ | with_reducible refine Gr.drewN ?_ _)))).mono ?_); rintro e w' ⟨rfl, k2, os2, rfl⟩))
    go_ret
    exact ⟨rfl, (by repeat (first | with_reducible exact Gr.refl _ | with_reducible refine Gr.alloc ?_ _ | with_reducible refine Gr.gr ?_ _ _ | with_reducible refine Gr.drew ?_ | with_reducible refine Gr.drewN ?_ _))⟩

set_option maxRecDepth 100000 in
set_option maxHeartbeats 2000000 in
theorem setCursor_any (b : Bool) (zs : List Int) (k : Nat) (C : Option Addr) (r : Nat) (g : Nat) (a q s u t : Int) (L : Int) (A B : Option Addr) (n c m d : Nat) (w : World) (hD : Dcs w) (hz : zs.length = k) (hk : k ≤ 16777216) (hC : (if b = true then Value.slice B m d else .slice A n c) = .slice C k r) (hZ : Reads w w.heap.size C (zs.map vi)) (h : Blk w g 104 (mcs L A B n c m d a q)) (hf : fg u t = true) (ha : -1048576 ≤ a ∧ a ≤ 1048576) (hl : hasI zs s = true → lsc s = true) :
    Calls Tryd.prog 75 #[.pointer (some ⟨g, 0, none⟩), pmet b, .int .i64 s, .agg #[.int .i64 u, .int .i64 t]] w fun e w' => if hasI zs s = true then Moved g (mcs L A B n c m d a (stP b a + pnt s u t)) (if sgB a (stP b a + pnt s u t) = true then 0 else 5) w e w' else (e = .returned (.int .i64 2) ∧ Gr w w') := by
  have HB := Lib.hid (fun st W h => partHas_any C k r zs st s W hz hk h)
  have HPt := Lib.hid (fun W h => wpart b g L A B n c m d a q W h)
  rw [hC] at HPt
  have hsb : -1048576 ≤ stP b a ∧ stP b a ≤ 1048576 := by cases b <;> simp [stP] <;> omega
  have HM := Lib.hid (show pmet b = .func (.func (if b = true then 78 else 76)) #[] #[] by cases b <;> rfl)
  have hcf : ∀ args w, (callFunc (if b = true then 78 else 76) args).run Tryd.prog w = .ok (.enter (if b = true then 78 else 76) args) w := by cases b <;> exact fun _ _ => by kernel_rfl
  have RZ := Lib.hid hZ
  have HBk := Lib.hid h
  have HD := Lib.hid hD
  rw [HM.out]
  clear hz hZ h hD HM hC
  generalize (if b = true then 78 else 76) = gf at *
  generalize stP b a = st at *
  rcases hasI_tf zs s with hs | hs
  · rw [hs] at HB
    simp only [hs, if_true]
    have hls := hl hs
    have HP := Lib.hid (fun W h => pointOn_any s u t W h hf hls)
    have bp := pnt_bd s u t hf
    generalize pnt s u t = x at *
    have HC := Lib.hid (fun W h => mcode_any g L A B n c m d a (st + x) W h)
    generalize hk : (if sgB a (st + x) = true then (0 : Int) else 5) = kk at *
    clear hs hl hls hf hk
    obtain ⟨s1, s2⟩ := hsb
    obtain ⟨x1, x2⟩ := bp
    go_enter Tryd.func75, Tryd.ntmps75
    go_wp2_with (first
      | (go_at_fn gf; refine (HPt.out _ (HBk.out.alloc _)).mono ?_; rintro e w1 ⟨rfl, hg1⟩)
      | (go_at_call 112; (with_reducible refine (HB.out _ (w1.alloc _) (((RZ.out.gr (show Gr w _ from (by repeat (first | with_reducible exact Gr.refl _ | with_reducible refine Gr.alloc ?_ _ | with_reducible refine Gr.gr ?_ _ _ | with_reducible refine Gr.drew ?_ | with_reducible refine Gr.drewN ?_ _)))).gr hg1).gr (show Gr w1 _ from (by repeat (first | with_reducible exact Gr.refl _ | with_reducible refine Gr.alloc ?_ _ | with_reducible refine Gr.gr ?_ _ _ | with_reducible refine Gr.drew ?_ | with_reducible refine Gr.drewN ?_ _))))).mono ?_); rintro e w2 ⟨rfl, hg2⟩))
    have G1 := (show Gr w _ from (by repeat (first | with_reducible exact Gr.refl _ | with_reducible refine Gr.alloc ?_ _ | with_reducible refine Gr.gr ?_ _ _ | with_reducible refine Gr.drew ?_ | with_reducible refine Gr.drewN ?_ _))).trans hg1
    have F1 := (Blk.new w 45 #[.int .i64 u, .int .i64 t]).gr hg1
    have G2 := (G1.alloc (.cells #[.slice C k r, .int .i64 st] 141)).trans hg2
    have F2 := (F1.alloc (.cells #[.slice C k r, .int .i64 st] 141)).gr hg2
    have P2 := (Blk.new w1 141 #[.slice C k r, .int .i64 st]).gr hg2
    have B2 := HBk.out.gr G2
    have D2 := HD.out.gr G2
    have hne := dcs_mach D2 B2
    have hfg : w.heap.size ≠ g := by have := HBk.out.lt; omega
    have hpg : w1.heap.size ≠ g := by have := HBk.out.lt; have := G1.below.size; omega
    have HG2 := Lib.hid G2
    have HF := Lib.hid (fun wz (hz : CW g (fun wz => ∃ y, Blk wz g 104 (mcs L A B n c m d a y)) w2 wz) => And.intro (hz.gx.keeps F2 hfg).two (hz.gx.keeps P2 hpg).two)
    have HDz := Lib.hid (fun wz (hz : CW g (fun wz => ∃ y, Blk wz g 104 (mcs L A B n c m d a y)) w2 wz) => D2.gx hz.gx hne)
    have hw : IntKind.i64.wrap (st + x) = st + x := IntWalk.i64_in _ (by omega)
    have hp : ∀ a' b', Gr a' b' → (∃ y, Blk a' g 104 (mcs L A B n c m d a y)) → (∃ y, Blk b' g 104 (mcs L A B n c m d a y)) := fun a' b' hg ⟨y, h⟩ => ⟨y, h.gr hg⟩
    clear RZ HBk HD HB HPt hg1 hg2 G1 G2 F1 F2 P2 D2 hne hfg hpg
    refine region_writes 10 g 104 (mcs L A B n c m d a (st + x)) [(5, .int .i64 x)] (fun wz => ∃ y, Blk wz g 104 (mcs L A B n c m d a y)) ⟨q, B2⟩ (by kernel_rfl) (by kernel_rfl) ?_
    (refine lz_one rfl (fun K hK => ?_); refine ⟨rfl, ?_⟩; apply Exists.intro; refine ⟨fun wz hz => ?_, ?_⟩; (focus (skip; go_simp; (first | done | exact ⟨rfl, rfl⟩ | trivial))); (go_simp; refine hK _ _ ?_; clear hK K))
    (refine lz_one rfl (fun K hK => ?_); refine ⟨rfl, ?_⟩; apply Exists.intro; refine ⟨fun wz hz => ?_, ?_⟩; (focus (skip; go_simp; (first | done | exact ⟨rfl, rfl⟩ | trivial))); (go_simp; refine hK _ _ ?_; clear hK K))
    (refine lz_one rfl (fun K hK => ?_); refine ⟨rfl, ?_⟩; apply Exists.intro; refine ⟨fun wz hz => ?_, ?_⟩; (focus (obtain ⟨-, ⟨p0, p1, -⟩⟩ := HF.out wz hz; go_simp; (first | done | exact ⟨rfl, rfl⟩ | trivial))); (go_simp; refine hK _ _ ?_; clear hK K))
    (refine lz_one rfl (fun K hK => ?_); refine ⟨rfl, ?_⟩; apply Exists.intro; refine ⟨fun wz hz => ?_, ?_⟩; (focus (skip; go_simp; (first | done | exact ⟨rfl, rfl⟩ | trivial))); (go_simp; refine hK _ _ ?_; clear hK K))
    (refine lz_one rfl (fun K hK => ?_); refine ⟨rfl, ?_⟩; apply Exists.intro; refine ⟨fun wz hz => ?_, ?_⟩; (focus (obtain ⟨⟨f0, f1, -⟩, -⟩ := HF.out wz hz; go_simp; (first | done | exact ⟨rfl, rfl⟩ | trivial))); (go_simp; refine hK _ _ ?_; clear hK K))
    (refine lz_many _ rfl (fun K hK => ?_); refine ⟨rfl, fun wz hz ha => ?_, fun vz wz hz hf => ?_⟩; (focus (go_simp; exact lw_call (by decide) hp hz (HP.out _ (HDz.out wz hz)))); (obtain rfl := hf; clear hz wz; go_simp; refine hK _ _ ?_; clear hK K))
    (refine lz_one rfl (fun K hK => ?_); refine ⟨rfl, ?_⟩; apply Exists.intro; refine ⟨fun wz hz => ?_, ?_⟩; (focus (skip; go_simp; (first | done | exact ⟨rfl, rfl⟩ | trivial))); (go_simp; refine hK _ _ ?_; clear hK K))
    (refine lz_one rfl (fun K hK => ?_); refine ⟨rfl, ?_⟩; apply Exists.intro; refine ⟨fun wz hz => ?_, ?_⟩; (focus (skip; go_simp; (first | done | exact ⟨rfl, rfl⟩ | trivial))); (go_simp; refine hK _ _ ?_; clear hK K))
    (refine lz_one rfl (fun K hK => ?_); refine ⟨rfl, ?_⟩; apply Exists.intro; refine ⟨fun wz hz => ?_, ?_⟩; (focus (skip; go_simp; (first | done | exact ⟨rfl, rfl⟩ | trivial))); (go_simp; refine hK _ _ ?_; clear hK K))
    (refine lz_one rfl (fun K hK => ?_); refine ⟨rfl, ?_⟩; apply Exists.intro; refine ⟨fun wz hz => ?_, ?_⟩; (focus (skip; go_simp; (first | done | exact ⟨rfl, rfl⟩ | trivial))); (go_simp; refine hK _ _ ?_; clear hK K))
    (refine lz_many _ rfl (fun K hK => ?_); refine ⟨rfl, fun wz hz ha => ?_, fun vz wz hz hf => ?_⟩; (focus (obtain ⟨y, hB⟩ := hz.at'; obtain ⟨b0, b1, b2, b3, b4, bf⟩ := hB.five; have bl := hB.lt; go_simp; exact lw_store hz (by simp) ((Gx.of (Gr.refl _)).set 4 _) ⟨_, hB.set 4 _⟩ (hB.set 4 _))); (obtain - := hf; clear hz wz; go_simp; refine hK _ _ ?_; clear hK K))
    refine lz_nil ?_
    intro w3 hz hg
    have B3 : Blk w3 g 104 (mcs L A B n c m d a (st + x)) := hg 10
    have hX := Lib.hid ((Gx.of HG2.out).trans hz.gx)
    have HB3 := Lib.hid B3
    clear hg hz
    go_wp2_with (go_at_call 114; (with_reducible refine (HC.out _ HB3.out).mono ?_); rintro e w4 ⟨rfl, hg4⟩)
    go_ret
    exact ⟨rfl, HB3.out.gr hg4, hX.out.trans (Gx.of hg4)⟩
  · rw [hs] at HB
    simp only [hs, Bool.false_eq_true, if_false]
    clear hs hl hf
    go_enter Tryd.func75, Tryd.ntmps75
    go_wp2_with (first
      | (go_at_fn gf; refine (HPt.out _ (HBk.out.alloc _)).mono ?_; rintro e w1 ⟨rfl, hg1⟩)
      | (go_at_call 112; (with_reducible refine (HB.out _ (w1.alloc _) (((RZ.out.gr (show Gr w _ from (by repeat (first | with_reducible exact Gr.refl _ | with_reducible refine Gr.alloc ?_ _ | with_reducible refine Gr.gr ?_ _ _ | with_reducible refine Gr.drew ?_ | with_reducible refine Gr.drewN ?_ _)))).gr hg1).gr (show Gr w1 _ from (by repeat (first | with_reducible exact Gr.refl _ | with_reducible refine Gr.alloc ?_ _ | with_reducible refine Gr.gr ?_ _ _ | with_reducible refine Gr.drew ?_ | with_reducible refine Gr.drewN ?_ _))))).mono ?_); rintro e w2 ⟨rfl, hg2⟩))
    go_ret
    exact ⟨rfl, (((show Gr w _ from (by repeat (first | with_reducible exact Gr.refl _ | with_reducible refine Gr.alloc ?_ _ | with_reducible refine Gr.gr ?_ _ _ | with_reducible refine Gr.drew ?_ | with_reducible refine Gr.drewN ?_ _))).trans hg1).alloc _).trans hg2⟩
end Go.Proofs.YtefhhigcplemaaaDoor
