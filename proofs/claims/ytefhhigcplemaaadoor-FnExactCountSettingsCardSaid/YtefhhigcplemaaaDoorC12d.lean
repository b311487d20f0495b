/- Contracts of chapter 12: moves one after the other, in the model. -/
import Derived.Test.YtefhhigcplemaaaDoorC12c
namespace Go.Proofs.YtefhhigcplemaaaDoor
open Go.RowKit
set_option linter.unusedVariables false
set_option linter.unusedSimpArgs false

theorem boxes3 (w : World) (T U X : TypeId) (a b d : Array Value) : Blk (((w.alloc (.cells a T)).alloc (.cells b U)).alloc (.cells d X)) w.heap.size T a ∧ Blk (((w.alloc (.cells a T)).alloc (.cells b U)).alloc (.cells d X)) (w.heap.size + 1) U b ∧
    Blk (((w.alloc (.cells a T)).alloc (.cells b U)).alloc (.cells d X)) (w.heap.size + 1 + 1) X d ∧ Gr w (((w.alloc (.cells a T)).alloc (.cells b U)).alloc (.cells d X)) := by
  have B0 := ((Blk.new w T a).alloc (.cells b U)).alloc (.cells d X)
  have B1 := (Blk.new (w.alloc (.cells a T)) U b).alloc (.cells d X)
  have B2 := Blk.new ((w.alloc (.cells a T)).alloc (.cells b U)) X d
  rw [World.size_alloc] at B1
  rw [World.size_alloc, World.size_alloc] at B2
  exact ⟨B0, B1, B2, (by repeat (first | with_reducible exact Gr.refl _ | with_reducible refine Gr.alloc ?_ _ | with_reducible refine Gr.gr ?_ _ _ | with_reducible refine Gr.drew ?_ | with_reducible refine Gr.drewN ?_ _))⟩
theorem start12_spec (a q : Int) (L : Int) (A B : Option Addr) (n c m d : Nat) (xs ys : List Int) (M : Option Addr) (p cp : Nat) (ms : List Mv) (w : World) (hx : xs.length = n) (hy : ys.length = m) (hn : n ≤ 16777216) (hm : m ≤ 16777216) (hnc : n ≤ c) (hmd : m ≤ d) (hX : Reads w w.heap.size A (xs.map vi)) (hY : Reads w w.heap.size B (ys.map vi)) (hml : ms.length = p) (hp : p ≤ 16777216) (hM : Reads w w.heap.size M (mcells ms)) :
    Calls Tryd.prog 45 #[.agg #[.int .i64 L, .slice A n c, .slice B m d], .agg #[.int .i64 (a), .int .i64 (q)], .slice M p cp] w fun e w' => e = .returned (.int .i64 (mvS L xs ys a q ms)) ∧ Gr w w' := by
  have HR := Lib.hid (fun W h h' => rule_spec L A B n c m d xs ys W hx hy hn hm hnc hmd h h')
  have HS := Lib.hid (fun W => setting_spec a q W)
  have HC := Lib.hid (fun W h => mcode_spec M p cp ms W hml hp h)
  have RX := Lib.hid hX
  have RY := Lib.hid hY
  have RM := Lib.hid hM
  clear hx hy hX hY hM hml
  rcases mvS_cases L xs ys a q ms with ⟨h, e⟩ | ⟨h, h2, e⟩ | ⟨h, h2, e⟩
  · rw [e]
    rw [h] at HR
    clear h e
    go_enter Tryd.func45, Tryd.ntmps45
    go_wp2_with (go_at_call 57; (with_reducible refine (HR.out _ (RX.out.gr (by repeat (first | with_reducible exact Gr.refl _ | with_reducible refine Gr.alloc ?_ _ | with_reducible refine Gr.gr ?_ _ _ | with_reducible refine Gr.drew ?_ | with_reducible refine Gr.drewN ?_ _))) (RY.out.gr (by repeat (first | with_reducible exact Gr.refl _ | with_reducible refine Gr.alloc ?_ _ | with_reducible refine Gr.gr ?_ _ _ | with_reducible refine Gr.drew ?_ | with_reducible refine Gr.drewN ?_ _)))).mono ?_); rintro e w' ⟨rfl, k, os, rfl⟩)
    go_ret
    exact ⟨rfl, (by repeat (first | with_reducible exact Gr.refl _ | with_reducible refine Gr.alloc ?_ _ | with_reducible refine Gr.gr ?_ _ _ | with_reducible refine Gr.drew ?_ | with_reducible refine Gr.drewN ?_ _))⟩
  · rw [e]
    rw [h] at HR
    rw [h2] at HS
    clear h h2 e
    go_enter Tryd.func45, Tryd.ntmps45
    go_wp2_with (first | (go_at_call 57; (with_reducible refine (HR.out _ (RX.out.gr (by repeat (first | with_reducible exact Gr.refl _ | with_reducible refine Gr.alloc ?_ _ | with_reducible refine Gr.gr ?_ _ _ | with_reducible refine Gr.drew ?_ | with_reducible refine Gr.drewN ?_ _))) (RY.out.gr (by repeat (first | with_reducible exact Gr.refl _ | with_reducible refine Gr.alloc ?_ _ | with_reducible refine Gr.gr ?_ _ _ | with_reducible refine Gr.drew ?_ | with_reducible refine Gr.drewN ?_ _)))).mono ?_); rintro e w' ⟨rfl, k, os, rfl⟩) | (go_at_call 67; (with_reducible refine (HS.out _).mono ?_); rintro e w' ⟨rfl, k2, os2, rfl⟩))
    go_ret
    exact ⟨rfl, (by repeat (first | with_reducible exact Gr.refl _ | with_reducible refine Gr.alloc ?_ _ | with_reducible refine Gr.gr ?_ _ _ | with_reducible refine Gr.drew ?_ | with_reducible refine Gr.drewN ?_ _))⟩
  · rw [e]
    rw [h] at HR
    rw [h2] at HS
    generalize mvC ms = z at *
    clear h h2 e
    go_enter Tryd.func45, Tryd.ntmps45
    go_wp2_with (first | (go_at_call 57; (with_reducible refine (HR.out _ (RX.out.gr (by repeat (first | with_reducible exact Gr.refl _ | with_reducible refine Gr.alloc ?_ _ | with_reducible refine Gr.gr ?_ _ _ | with_reducible refine Gr.drew ?_ | with_reducible refine Gr.drewN ?_ _))) (RY.out.gr (by repeat (first | with_reducible exact Gr.refl _ | with_reducible refine Gr.alloc ?_ _ | with_reducible refine Gr.gr ?_ _ _ | with_reducible refine Gr.drew ?_ | with_reducible refine Gr.drewN ?_ _)))).mono ?_); rintro e w' ⟨rfl, k, os, rfl⟩) | (go_at_call 67; (with_reducible refine (HS.out _).mono ?_); rintro e w' ⟨rfl, k2, os2, rfl⟩) | (go_at_call 38; (with_reducible refine (HC.out _ (RM.out.gr (by repeat (first | with_reducible exact Gr.refl _ | with_reducible refine Gr.alloc ?_ _ | with_reducible refine Gr.gr ?_ _ _ | with_reducible refine Gr.drew ?_ | with_reducible refine Gr.drewN ?_ _)))).mono ?_); rintro e w' ⟨rfl, k3, os3, rfl⟩))
    go_ret
    exact ⟨rfl, (by repeat (first | with_reducible exact Gr.refl _ | with_reducible refine Gr.alloc ?_ _ | with_reducible refine Gr.gr ?_ _ _ | with_reducible refine Gr.drew ?_ | with_reducible refine Gr.drewN ?_ _))⟩

/-- What l12Run answers. -/
def rnV (R : Jy × Bool) : Value := .tuple #[.agg #[.int .i64 (R.1.a), .int .i64 (R.1.c)], .int .i64 (if R.2 = true then -1 else R.1.n)]
theorem rnV_t (J : Jy) : rnV (J, true) = .tuple #[.agg #[.int .i64 (J.a), .int .i64 (J.c)], .int .i64 (-1)] := rfl
theorem rnV_f (J : Jy) : rnV (J, false) = .tuple #[.agg #[.int .i64 (J.a), .int .i64 (J.c)], .int .i64 J.n] := rfl
set_option maxRecDepth 100000 in
set_option maxHeartbeats 8000000 in
theorem run12_spec (a q : Int) (L : Int) (A B : Option Addr) (n c m d : Nat) (xs ys : List Int) (M : Option Addr) (p cp : Nat) (ms : List Mv) (w : World) (hx : xs.length = n) (hy : ys.length = m) (hn : n ≤ 16777216) (hm : m ≤ 16777216) (hnc : n ≤ c) (hmd : m ≤ d) (hX : Reads w w.heap.size A (xs.map vi)) (hY : Reads w w.heap.size B (ys.map vi)) (hml : ms.length = p) (hp : p ≤ 16777216) (hM : Reads w w.heap.size M (mcells ms)) (hv : ms.all mvB = true) (hq : sgB a q = true) :
    Calls Tryd.prog 46 #[.agg #[.int .i64 L, .slice A n c, .slice B m d], .agg #[.int .i64 (a), .int .i64 (q)], .slice M p cp] w fun e w' => e = .returned (rnV (jyRun xs ys (jy0 a q) ms)) ∧ Gr w w' := by
  have HAp := Lib.hid (fun k s u t a' q' W h h' hb hs => apply_spec k a' q' s u t L A B n c m d xs ys W hx hy hn hm hnc hmd h h' hb hs)
  have RX := Lib.hid hX
  have RY := Lib.hid hY
  have RM := Lib.hid hM
  have HL := Lib.hid hml
  have HV := Lib.hid hv
  obtain ⟨B0, B1, B2, G0⟩ := boxes3 w 42 39 39 #[.int .i64 L, .slice A n c, .slice B m d] #[.int .i64 a, .int .i64 q] #[.int .i64 0, .int .i64 0]
  have HJ := Lib.hid (show jyRun xs ys (jy0 a q) ms = jyRun xs ys (jy0 a q) (ms.drop 0) from rfl)
  have HB0 := Lib.hid (JyB.zero hq)
  generalize jyRun xs ys (jy0 a q) ms = R at *
  clear hx hy hX hY hM hml hv hq
  go_enter Tryd.func46, Tryd.ntmps46
  go_wp2_with fail
  generalize ((w.alloc (.cells #[.int .i64 L, .slice A n c, .slice B m d] 42)).alloc (.cells #[.int .i64 a, .int .i64 q] 39)).alloc (.cells #[.int .i64 0, .int .i64 0] 39) = v at *
  have hvs := B2.lt
  go_loopw [8] (fun i wr => ∃ (k : Nat) (J : Jy), k ≤ p ∧ i = .int .i64 k ∧ Hid (R = jyRun xs ys J (ms.drop k)) ∧ JyB J k ∧ Blk wr w.heap.size 42 #[.int .i64 L, .slice A n c, .slice B m d] ∧ Blk wr (w.heap.size + 1) 39 #[.int .i64 J.a, .int .i64 J.c] ∧ Blk wr (w.heap.size + 1 + 1) 39 #[.int .i64 0, .int .i64 0] ∧ Below w.heap.size w wr) (fun i _ => p - (intOf i).toNat)
  case atStart => exact ⟨0, jy0 a q, by omega, rfl, HJ, HB0.out, B0, B1, B2, G0.below⟩
  case round =>
    clear B0 B1 B2 G0 HJ HB0 hvs
    obtain ⟨k, J, hk, rfl, HR, hJ, b0, b1, b2, hW⟩ := hrel
    by_cases hlt : k < p
    · obtain ⟨mv, hmv⟩ := some_at (l := ms) (k := k) (by rw [HL.out]; exact hlt)
      obtain ⟨g, o, rfl, hg, x0, x1, x2, x3⟩ := (RM.out.below hW).at4 hmv
      have hval := all_at HV.out hmv
      have HD := Lib.hid (HR.out.trans (by rw [drop_at hmv]))
      obtain ⟨mk, s, u, t⟩ := mv
      simp only at x0 x1 x2 x3
      have HApk := Lib.hid (fun W h h' => HAp.out mk s u t J.a J.c W h h' hval hJ.1)
      have hon := apR_snd xs ys (mk, s, u, t) J.a J.c
      have hye := fun h => apR_yes (xs := xs) (ys := ys) (m := (mk, s, u, t)) (a := J.a) (c := J.c) h
      have HC := Lib.hid (fun wz (hz : Gr wr wz) => And.intro (And.intro (cell_up hz x0) (World.block_lt_of_cell? wz _ (cell_up hz x0))) (And.intro (cell_up hz x1) (And.intro (cell_up hz x2) (cell_up hz x3))))
      have hJn := hJ.2.1
      have hXY := And.intro (RX.out.below hW) (RY.out.below hW)
      have lt0 := b0.lt
      have lt1 := b1.lt
      clear hmv HR
      go_wp2_with fail
      rcases mvO_tf xs ys (mk, s, u, t) J.a J.c with ho | ho
      · have HN := Lib.hid (HD.out.trans (jyRun_yes ho))
        have hJ2 := Lib.hid (hJ.on ho)
        have e1 := hye ho
        rw [ho] at hon
        clear hye ho HD
        generalize hnx : mvN (mk, s, u, t) J.a J.c = nx at *
        obtain ⟨x, y⟩ := nx
        generalize hap : apR xs ys (mk, s, u, t) J.a J.c = ap at *
        obtain ⟨⟨z1, z2⟩, z3⟩ := ap
        injection e1 with e11 e12
        simp only at hon
        subst hon e11 e12
        clear hnx hap
        refine region_mix 11 39 #[.int .i64 z1, .int .i64 z2] [(6, .is (.tuple #[.agg #[.int .i64 (z1), .int .i64 (z2)], .bool true])), (10, .made wr.heap.size 2)] (by kernel_rfl) (by kernel_rfl) ?_
        (refine lz_one rfl (fun K hK => ?_); refine ⟨rfl, ?_⟩; apply Exists.intro; refine ⟨fun wz hz => ?_, ?_⟩; (focus (obtain ⟨c0, c1, c2, -⟩ := (b0.gr hz).trio; go_simp; (first | done | exact ⟨rfl, rfl⟩ | trivial))); (go_simp; refine hK _ _ ?_; clear hK K))
        (refine lz_one rfl (fun K hK => ?_); refine ⟨rfl, ?_⟩; apply Exists.intro; refine ⟨fun wz hz => ?_, ?_⟩; (focus (obtain ⟨c0, c1, -⟩ := (b1.gr hz).two; go_simp; (first | done | exact ⟨rfl, rfl⟩ | trivial))); (go_simp; refine hK _ _ ?_; clear hK K))
        (refine lz_one rfl (fun K hK => ?_); refine ⟨rfl, ?_⟩; apply Exists.intro; refine ⟨fun wz hz => ?_, ?_⟩; (focus (skip; go_simp; (first | done | exact ⟨rfl, rfl⟩ | trivial))); (go_simp; refine hK _ _ ?_; clear hK K))
        (refine lz_one rfl (fun K hK => ?_); refine ⟨rfl, ?_⟩; apply Exists.intro; refine ⟨fun wz hz => ?_, ?_⟩; (focus (skip; go_simp; (first | done | exact ⟨rfl, rfl⟩ | trivial))); (go_simp; refine hK _ _ ?_; clear hK K))
        (refine lz_one rfl (fun K hK => ?_); refine ⟨rfl, ?_⟩; apply Exists.intro; refine ⟨fun wz hz => ?_, ?_⟩; (focus (skip; go_simp; (first | done | exact ⟨rfl, rfl⟩ | trivial))); (go_simp; refine hK _ _ ?_; clear hK K))
        (refine lz_one rfl (fun K hK => ?_); refine ⟨rfl, ?_⟩; apply Exists.intro; refine ⟨fun wz hz => ?_, ?_⟩; (focus (obtain ⟨⟨y0, yl⟩, y1, y2, y3⟩ := HC.out wz hz; go_simp; (first | done | exact ⟨rfl, rfl⟩ | trivial))); (go_simp; refine hK _ _ ?_; clear hK K))
        (refine lz_many _ rfl (fun K hK => ?_); refine ⟨rfl, fun wz hz ha => ?_, fun vz wz hz hf => ?_⟩; (focus (go_simp; exact lm_call (by decide) hz (HApk.out _ (hXY.1.gr hz) (hXY.2.gr hz)))); (obtain rfl := hf; clear hz wz; go_simp; refine hK _ _ ?_; clear hK K))
        (refine lz_one rfl (fun K hK => ?_); refine ⟨rfl, ?_⟩; apply Exists.intro; refine ⟨fun wz hz => ?_, ?_⟩; (focus (skip; go_simp; (first | done | exact ⟨rfl, rfl⟩ | trivial))); (go_simp; refine hK _ _ ?_; clear hK K))
        (refine lz_one rfl (fun K hK => ?_); refine ⟨rfl, ?_⟩; apply Exists.intro; refine ⟨fun wz hz => ?_, ?_⟩; (focus (skip; go_simp; (first | done | exact ⟨rfl, rfl⟩ | trivial))); (go_simp; refine hK _ _ ?_; clear hK K))
        (refine lz_one rfl (fun K hK => ?_); refine ⟨rfl, ?_⟩; apply Exists.intro; refine ⟨fun wz hz => ?_, ?_⟩; (focus (skip; go_simp; (first | done | exact ⟨rfl, rfl⟩ | trivial))); (go_simp; refine hK _ _ ?_; clear hK K))
        (refine lz_many _ rfl (fun K hK => ?_); refine ⟨rfl, fun wz hz ha => ?_, fun vz wz hz hf => ?_⟩; (focus (go_simp; exact lm_made (by decide) hz (Nat.le_refl _) rfl)); (obtain ⟨gg, rfl, -, -⟩ := hf; clear hz wz; go_simp; refine hK _ _ ?_; clear hK K))
        (refine lz_many _ rfl (fun K hK => ?_); refine ⟨rfl, fun wz hz ha => ?_, fun vz wz hz hf => ?_⟩; (focus (obtain ⟨g', e', hb', ds, h1, h2⟩ := ha ⟨10, .data⟩ (by simp) rfl; cases e'; obtain ⟨y0, y1, rfl⟩ := two_of h1; obtain ⟨c0, c1, cf⟩ := h2.two; have cl := h2.lt; go_simp; exact lm_two hz hb' h2 rfl)); (obtain - := hf; clear hz wz; go_simp; refine hK _ _ ?_; clear hK K))
        (refine lz_one rfl (fun K hK => ?_); refine ⟨rfl, ?_⟩; apply Exists.intro; refine ⟨fun wz hz => ?_, ?_⟩; (focus (skip; go_simp; (first | done | exact ⟨rfl, rfl⟩ | trivial))); (go_simp; refine hK _ _ ?_; clear hK K))
        refine lz_nil ?_
        intro w2 hz hg
        obtain ⟨g0, e2, hA0⟩ := hg 11
        obtain ⟨gm, em, hgm, -, -, hAm⟩ := hg 10
        cases e2
        cases em
        clear hg
        have hW2 := hW.trans (hz.below.mono hW.size)
        have q0 := b0.gr hz
        have q1 := b1.gr hz
        have q2 := b2.gr hz
        have ql := q1.lt
        obtain ⟨c0, c1, cf⟩ := q1.two
        obtain ⟨d0, d1, -⟩ := hA0.two
        clear HC hXY
        go_wp2_with fail
        go_roundw
        case rel => exact ⟨k + 1, _, by omega, by go_num, HN, hJ2.out, (q0.far (a := ⟨w.heap.size + 1, 0, none⟩) (by show w.heap.size + 1 ≠ _; omega) _).far (a := ⟨w.heap.size + 1, 1, none⟩) (by show w.heap.size + 1 ≠ _; omega) _, (q1.set 0 _).set 1 _, (q2.far (a := ⟨w.heap.size + 1, 0, none⟩) (by show w.heap.size + 1 ≠ _; omega) _).far (a := ⟨w.heap.size + 1, 1, none⟩) (by show w.heap.size + 1 ≠ _; omega) _, (hW2.setCell (p := ⟨w.heap.size + 1, 0, none⟩) (by show w.heap.size ≤ w.heap.size + 1; omega) _).setCell (p := ⟨w.heap.size + 1, 1, none⟩) (by show w.heap.size ≤ w.heap.size + 1; omega) _⟩
        case measure => simp [intOf]; omega
      · have HN := Lib.hid (HD.out.trans (jyRun_no ho))
        rw [ho] at hon
        clear hye ho HD
        generalize hap : apR xs ys (mk, s, u, t) J.a J.c = ap at *
        obtain ⟨⟨z1, z2⟩, z3⟩ := ap
        simp only at hon
        subst hon
        clear hap
        refine region_mix 11 39 #[.int .i64 z1, .int .i64 z2] [(6, .is (.tuple #[.agg #[.int .i64 (z1), .int .i64 (z2)], .bool false])), (10, .made wr.heap.size 2)] (by kernel_rfl) (by kernel_rfl) ?_
        (refine lz_one rfl (fun K hK => ?_); refine ⟨rfl, ?_⟩; apply Exists.intro; refine ⟨fun wz hz => ?_, ?_⟩; (focus (obtain ⟨c0, c1, c2, -⟩ := (b0.gr hz).trio; go_simp; (first | done | exact ⟨rfl, rfl⟩ | trivial))); (go_simp; refine hK _ _ ?_; clear hK K))
        (refine lz_one rfl (fun K hK => ?_); refine ⟨rfl, ?_⟩; apply Exists.intro; refine ⟨fun wz hz => ?_, ?_⟩; (focus (obtain ⟨c0, c1, -⟩ := (b1.gr hz).two; go_simp; (first | done | exact ⟨rfl, rfl⟩ | trivial))); (go_simp; refine hK _ _ ?_; clear hK K))
        (refine lz_one rfl (fun K hK => ?_); refine ⟨rfl, ?_⟩; apply Exists.intro; refine ⟨fun wz hz => ?_, ?_⟩; (focus (skip; go_simp; (first | done | exact ⟨rfl, rfl⟩ | trivial))); (go_simp; refine hK _ _ ?_; clear hK K))
        (refine lz_one rfl (fun K hK => ?_); refine ⟨rfl, ?_⟩; apply Exists.intro; refine ⟨fun wz hz => ?_, ?_⟩; (focus (skip; go_simp; (first | done | exact ⟨rfl, rfl⟩ | trivial))); (go_simp; refine hK _ _ ?_; clear hK K))
        (refine lz_one rfl (fun K hK => ?_); refine ⟨rfl, ?_⟩; apply Exists.intro; refine ⟨fun wz hz => ?_, ?_⟩; (focus (skip; go_simp; (first | done | exact ⟨rfl, rfl⟩ | trivial))); (go_simp; refine hK _ _ ?_; clear hK K))
        (refine lz_one rfl (fun K hK => ?_); refine ⟨rfl, ?_⟩; apply Exists.intro; refine ⟨fun wz hz => ?_, ?_⟩; (focus (obtain ⟨⟨y0, yl⟩, y1, y2, y3⟩ := HC.out wz hz; go_simp; (first | done | exact ⟨rfl, rfl⟩ | trivial))); (go_simp; refine hK _ _ ?_; clear hK K))
        (refine lz_many _ rfl (fun K hK => ?_); refine ⟨rfl, fun wz hz ha => ?_, fun vz wz hz hf => ?_⟩; (focus (go_simp; exact lm_call (by decide) hz (HApk.out _ (hXY.1.gr hz) (hXY.2.gr hz)))); (obtain rfl := hf; clear hz wz; go_simp; refine hK _ _ ?_; clear hK K))
        (refine lz_one rfl (fun K hK => ?_); refine ⟨rfl, ?_⟩; apply Exists.intro; refine ⟨fun wz hz => ?_, ?_⟩; (focus (skip; go_simp; (first | done | exact ⟨rfl, rfl⟩ | trivial))); (go_simp; refine hK _ _ ?_; clear hK K))
        (refine lz_one rfl (fun K hK => ?_); refine ⟨rfl, ?_⟩; apply Exists.intro; refine ⟨fun wz hz => ?_, ?_⟩; (focus (skip; go_simp; (first | done | exact ⟨rfl, rfl⟩ | trivial))); (go_simp; refine hK _ _ ?_; clear hK K))
        (refine lz_one rfl (fun K hK => ?_); refine ⟨rfl, ?_⟩; apply Exists.intro; refine ⟨fun wz hz => ?_, ?_⟩; (focus (skip; go_simp; (first | done | exact ⟨rfl, rfl⟩ | trivial))); (go_simp; refine hK _ _ ?_; clear hK K))
        (refine lz_many _ rfl (fun K hK => ?_); refine ⟨rfl, fun wz hz ha => ?_, fun vz wz hz hf => ?_⟩; (focus (go_simp; exact lm_made (by decide) hz (Nat.le_refl _) rfl)); (obtain ⟨gg, rfl, -, -⟩ := hf; clear hz wz; go_simp; refine hK _ _ ?_; clear hK K))
        (refine lz_many _ rfl (fun K hK => ?_); refine ⟨rfl, fun wz hz ha => ?_, fun vz wz hz hf => ?_⟩; (focus (obtain ⟨g', e', hb', ds, h1, h2⟩ := ha ⟨10, .data⟩ (by simp) rfl; cases e'; obtain ⟨y0, y1, rfl⟩ := two_of h1; obtain ⟨c0, c1, cf⟩ := h2.two; have cl := h2.lt; go_simp; exact lm_two hz hb' h2 rfl)); (obtain - := hf; clear hz wz; go_simp; refine hK _ _ ?_; clear hK K))
        (refine lz_one rfl (fun K hK => ?_); refine ⟨rfl, ?_⟩; apply Exists.intro; refine ⟨fun wz hz => ?_, ?_⟩; (focus (skip; go_simp; (first | done | exact ⟨rfl, rfl⟩ | trivial))); (go_simp; refine hK _ _ ?_; clear hK K))
        refine lz_nil ?_
        intro w2 hz hg
        clear hg
        have hW2 := hW.trans (hz.below.mono hW.size)
        have q1 := b1.gr hz
        have q2 := b2.gr hz
        have ql := q2.lt
        obtain ⟨c0, c1, cf⟩ := q1.two
        obtain ⟨r0, r1, rf⟩ := q2.two
        clear HC hXY
        go_wp2_with fail
        ((try simp only [Exit.inBlock, Exit.then]); refine bodyPost_ret (v := .tuple #[.agg #[.int .i64 (J.a), .int .i64 (J.c)], .int .i64 k]) (by simp [results, Tryd.results46, go_sem, r0, r1, World.cell?_setCell_same']) rfl ?_)
        rw [HN.out, rnV_f, hJn]
        exact ⟨rfl, Gr.of_below ((hW2.setCell (p := ⟨w.heap.size + 1 + 1, 0, none⟩) (by show w.heap.size ≤ w.heap.size + 1 + 1; omega) _).setCell (p := ⟨w.heap.size + 1 + 1, 1, none⟩) (by show w.heap.size ≤ w.heap.size + 1 + 1; omega) _)⟩
    · obtain rfl : k = p := by omega
      have HN := Lib.hid (HR.out.trans (by rw [List.drop_of_length_le (by rw [HL.out]; omega), jyRun_nil]))
      have ql := b2.lt
      have q1l := b1.lt
      obtain ⟨c0, c1, cf⟩ := b1.two
      obtain ⟨r0, r1, rf⟩ := b2.two
      clear HR
      go_wp2_with fail
      ((try simp only [Exit.inBlock, Exit.then]); refine bodyPost_ret (v := .tuple #[.agg #[.int .i64 (J.a), .int .i64 (J.c)], .int .i64 (-1)]) (by simp [results, Tryd.results46, go_sem, r0, r1, World.cell?_setCell_same']) rfl ?_)
      rw [HN.out, rnV_t]
      exact ⟨rfl, Gr.of_below ((hW.setCell (p := ⟨w.heap.size + 1 + 1, 0, none⟩) (by show w.heap.size ≤ w.heap.size + 1 + 1; omega) _).setCell (p := ⟨w.heap.size + 1 + 1, 1, none⟩) (by show w.heap.size ≤ w.heap.size + 1 + 1; omega) _)⟩
end Go.Proofs.YtefhhigcplemaaaDoor
