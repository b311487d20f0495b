/- Contracts of chapter 12: what a move does, in the model. (Written by laws/gen_C12c.py.) -/
import Derived.Test.YtefhhigcplemaaaDoorC12b
import Derived.Test.YtefhhigcplemaaaDoorC11l
import Derived.Test.YtefhhigcplemaaaDoorLm
namespace Go.Proofs.YtefhhigcplemaaaDoor
open Go.RowKit
set_option linter.unusedVariables false
set_option linter.unusedSimpArgs false

/-- What the model's l12Apply answers. -/
def apR (xs ys : List Int) (m : Mv) (a c : Int) : (Int × Int) × Bool := if mvH xs ys m = true then (mvN m a c, sgB (mvN m a c).1 (mvN m a c).2) else ((0, 0), false)
theorem apR_snd (xs ys : List Int) (m : Mv) (a c : Int) : (apR xs ys m a c).2 = mvO xs ys m a c := by
  unfold apR mvO
  cases mvH xs ys m <;> simp
theorem apR_yes {xs ys : List Int} {m : Mv} {a c : Int} (h : mvO xs ys m a c = true) : (apR xs ys m a c).1 = mvN m a c := by
  unfold mvO at h
  rw [Bool.and_eq_true] at h
  unfold apR
  rw [if_pos h.1]
theorem apR_has {xs ys : List Int} {m : Mv} {a c x y : Int} (h : mvH xs ys m = true) (e : mvN m a c = (x, y)) : apR xs ys m a c = ((x, y), sgB x y) := by unfold apR; rw [if_pos h, e]
theorem apR_not {xs ys : List Int} {m : Mv} {a c : Int} (h : mvH xs ys m = false) : apR xs ys m a c = ((0, 0), false) := by unfold apR; rw [if_neg (by rw [h]; simp)]
theorem boxes4 (w : World) (T U V X : TypeId) (a b c d : Array Value) : Blk ((((w.alloc (.cells a T)).alloc (.cells b U)).alloc (.cells c V)).alloc (.cells d X)) w.heap.size T a ∧ Blk ((((w.alloc (.cells a T)).alloc (.cells b U)).alloc (.cells c V)).alloc (.cells d X)) (w.heap.size + 1) U b ∧
    Blk ((((w.alloc (.cells a T)).alloc (.cells b U)).alloc (.cells c V)).alloc (.cells d X)) (w.heap.size + 1 + 1) V c ∧ Blk ((((w.alloc (.cells a T)).alloc (.cells b U)).alloc (.cells c V)).alloc (.cells d X)) (w.heap.size + 1 + 1 + 1) X d ∧ Gr w ((((w.alloc (.cells a T)).alloc (.cells b U)).alloc (.cells c V)).alloc (.cells d X)) := by
  have B0 := (((Blk.new w T a).alloc (.cells b U)).alloc (.cells c V)).alloc (.cells d X)
  have B1 := ((Blk.new (w.alloc (.cells a T)) U b).alloc (.cells c V)).alloc (.cells d X)
  have B2 := (Blk.new ((w.alloc (.cells a T)).alloc (.cells b U)) V c).alloc (.cells d X)
  have B3 := Blk.new (((w.alloc (.cells a T)).alloc (.cells b U)).alloc (.cells c V)) X d
  rw [World.size_alloc] at B1
  rw [World.size_alloc, World.size_alloc] at B2
  rw [World.size_alloc, World.size_alloc, World.size_alloc] at B3
  exact ⟨B0, B1, B2, B3, (by repeat (first | with_reducible exact Gr.refl _ | with_reducible refine Gr.alloc ?_ _ | with_reducible refine Gr.gr ?_ _ _ | with_reducible refine Gr.drew ?_ | with_reducible refine Gr.drewN ?_ _))⟩
theorem sg_bd {a c : Int} (h : sgB a c = true) : -1048576 ≤ a ∧ a ≤ 1048576 ∧ 0 ≤ c ∧ c ≤ 1048576 := by
  have := (sgB_iff a c).1 h; omega
/-- What l12Apply leaves. -/
def ApW (v : (Int × Int) × Bool) (w : World) (e : Ending) (w' : World) : Prop := e = .returned (.tuple #[.agg #[.int .i64 (v.1.1), .int .i64 (v.1.2)], .bool v.2]) ∧ Gr w w'

set_option maxRecDepth 100000 in
set_option maxHeartbeats 8000000 in
theorem apply_0 (a q s u t : Int) (L : Int) (A B : Option Addr) (n c m d : Nat) (xs ys : List Int) (w : World) (hx : xs.length = n) (hy : ys.length = m) (hn : n ≤ 16777216) (hm : m ≤ 16777216) (hnc : n ≤ c) (hmd : m ≤ d) (hX : Reads w w.heap.size A (xs.map vi)) (hY : Reads w w.heap.size B (ys.map vi)) (hv : lsc s = true ∧ fg u t = true) (hq : sgB a q = true) :
    Calls Tryd.prog 48 #[.agg #[.int .i64 L, .slice A n c, .slice B m d], .agg #[.int .i64 (a), .int .i64 (q)], .agg #[.int .i64 (0), .int .i64 (s), .int .i64 (u), .int .i64 (t)]] w (ApW (apR xs ys (0, s, u, t) a q) w) := by
  obtain ⟨a1, a2, q1, q2⟩ := sg_bd hq
  have HO := Lib.hid (fun W => on_spec false L A B n c m d xs ys W)
  have HA := Lib.hid (fun W h => has_spec A n c xs s W hx hn h)
  have RX := Lib.hid hX
  have HCu := Lib.hid (fun W => cursor11_spec a q false s u t W hv.2 (lsc_sc s hv.1) ⟨a1, a2⟩)
  rw [stP_f, Int.zero_add] at HCu
  have hpb := pnt_bd s u t hv.2
  have HRy := Lib.hid (fun h => apR_has (xs := xs) (ys := ys) (a := a) (c := q) h (mvN_0 s u t a q))
  have HRn := Lib.hid (fun h => apR_not (xs := xs) (ys := ys) (m := (0, s, u, t)) (a := a) (c := q) h)
  rw [mvH_0] at HRy HRn
  generalize pnt s u t = pn at *
  have HSt := Lib.hid (fun W => setting_spec a pn W)
  obtain ⟨B0, B1, B2, B3, G0⟩ := boxes4 w 42 39 47 39 #[.int .i64 L, .slice A n c, .slice B m d] #[.int .i64 a, .int .i64 q] #[.int .i64 0, .int .i64 s, .int .i64 u, .int .i64 t] #[.int .i64 0, .int .i64 0]
  generalize apR xs ys (0, s, u, t) a q = R at *
  clear hx hy hX hY hq hv
  rcases hasI_tf xs s with hs | hs
  · have HR := Lib.hid (HRy.out hs)
    rw [hs] at HA
    generalize sgB a pn = sb at *
    clear HRy HRn hs
    go_enter Tryd.func48, Tryd.ntmps48
    go_wp2_with fail
    generalize (((w.alloc (.cells #[.int .i64 L, .slice A n c, .slice B m d] 42)).alloc (.cells #[.int .i64 a, .int .i64 q] 39)).alloc (.cells #[.int .i64 0, .int .i64 s, .int .i64 u, .int .i64 t] 47)).alloc (.cells #[.int .i64 0, .int .i64 0] 39) = v at *
    have hRv := RX.out.gr G0
    refine region_grows [(8, .is (.slice A n c)), (11, .is (.bool true))] (by kernel_rfl) (by kernel_rfl) ?_
    (refine lz_one rfl (fun K hK => ?_); refine ⟨rfl, ?_⟩; apply Exists.intro; refine ⟨fun wz hz => ?_, ?_⟩; (focus (skip; go_simp; (first | done | exact ⟨rfl, rfl⟩ | trivial))); (go_simp; refine hK _ _ ?_; clear hK K))
    (refine lz_one rfl (fun K hK => ?_); refine ⟨rfl, ?_⟩; apply Exists.intro; refine ⟨fun wz hz => ?_, ?_⟩; (focus (obtain ⟨b0, b1, b2, b3, -⟩ := (B2.gr hz).four; go_simp; (first | done | exact ⟨rfl, rfl⟩ | trivial))); (go_simp; refine hK _ _ ?_; clear hK K))
    (refine lz_one rfl (fun K hK => ?_); refine ⟨rfl, ?_⟩; apply Exists.intro; refine ⟨fun wz hz => ?_, ?_⟩; (focus (skip; go_simp; (first | done | exact ⟨rfl, rfl⟩ | trivial))); (go_simp; refine hK _ _ ?_; clear hK K))
    (refine lz_one rfl (fun K hK => ?_); refine ⟨rfl, ?_⟩; apply Exists.intro; refine ⟨fun wz hz => ?_, ?_⟩; (focus (skip; go_simp; (first | done | exact ⟨rfl, rfl⟩ | trivial))); (go_simp; refine hK _ _ ?_; clear hK K))
    (refine lz_one rfl (fun K hK => ?_); refine ⟨rfl, ?_⟩; apply Exists.intro; refine ⟨fun wz hz => ?_, ?_⟩; (focus (obtain ⟨b0, b1, b2, -⟩ := (B0.gr hz).trio; go_simp; (first | done | exact ⟨rfl, rfl⟩ | trivial))); (go_simp; refine hK _ _ ?_; clear hK K))
    (refine lz_one rfl (fun K hK => ?_); refine ⟨rfl, ?_⟩; apply Exists.intro; refine ⟨fun wz hz => ?_, ?_⟩; (focus (skip; go_simp; (first | done | exact ⟨rfl, rfl⟩ | trivial))); (go_simp; refine hK _ _ ?_; clear hK K))
    (refine lz_one rfl (fun K hK => ?_); refine ⟨rfl, ?_⟩; apply Exists.intro; refine ⟨fun wz hz => ?_, ?_⟩; (focus (obtain ⟨b0, b1, b2, b3, -⟩ := (B2.gr hz).four; go_simp; (first | done | exact ⟨rfl, rfl⟩ | trivial))); (go_simp; refine hK _ _ ?_; clear hK K))
    (refine lz_one rfl (fun K hK => ?_); refine ⟨rfl, ?_⟩; apply Exists.intro; refine ⟨fun wz hz => ?_, ?_⟩; (focus (skip; go_simp; (first | done | exact ⟨rfl, rfl⟩ | trivial))); (go_simp; refine hK _ _ ?_; clear hK K))
    (refine lz_many _ rfl (fun K hK => ?_); refine ⟨rfl, fun wz hz ha => ?_, fun vz wz hz hf => ?_⟩; (focus (go_simp; exact lg_call hz (HO.out _))); (obtain rfl := hf; clear hz wz; go_simp; refine hK _ _ ?_; clear hK K))
    (refine lz_one rfl (fun K hK => ?_); refine ⟨rfl, ?_⟩; apply Exists.intro; refine ⟨fun wz hz => ?_, ?_⟩; (focus (skip; go_simp; (first | done | exact ⟨rfl, rfl⟩ | trivial))); (go_simp; refine hK _ _ ?_; clear hK K))
    (refine lz_one rfl (fun K hK => ?_); refine ⟨rfl, ?_⟩; apply Exists.intro; refine ⟨fun wz hz => ?_, ?_⟩; (focus (obtain ⟨b0, b1, b2, b3, -⟩ := (B2.gr hz).four; go_simp; (first | done | exact ⟨rfl, rfl⟩ | trivial))); (go_simp; refine hK _ _ ?_; clear hK K))
    (refine lz_many _ rfl (fun K hK => ?_); refine ⟨rfl, fun wz hz ha => ?_, fun vz wz hz hf => ?_⟩; (focus (go_simp; exact lg_call hz ((HA.out _ (hRv.gr hz)).mono fun _ _ h => ⟨h.1, h.2 ▸ Gr.refl _⟩))); (obtain rfl := hf; clear hz wz; go_simp; refine hK _ _ ?_; clear hK K))
    (refine lz_one rfl (fun K hK => ?_); refine ⟨rfl, ?_⟩; apply Exists.intro; refine ⟨fun wz hz => ?_, ?_⟩; (focus (skip; go_simp; (first | done | exact ⟨rfl, rfl⟩ | trivial))); (go_simp; refine hK _ _ ?_; clear hK K))
    (refine lz_one rfl (fun K hK => ?_); refine ⟨rfl, ?_⟩; apply Exists.intro; refine ⟨fun wz hz => ?_, ?_⟩; (focus (skip; go_simp; (first | done | exact ⟨rfl, rfl⟩ | trivial))); (go_simp; refine hK _ _ ?_; clear hK K))
    refine lz_nil ?_
    intro w2 hz hgg
    clear hgg
    clear HA HO hRv RX
    have G2 := G0.trans hz
    have hvs := hz.below.size
    replace B1 := B1.gr hz
    replace B2 := B2.gr hz
    replace B3 := B3.gr hz
    obtain ⟨s0, s1, -⟩ := B1.two
    obtain ⟨m0, m1, m2, m3, -⟩ := B2.four
    have lt3 := B3.lt
    have lt2 := B2.lt
    have lt1 := B1.lt
    have hvw := G0.below.size
    clear hz
    go_wp2_with (go_at_call 72; refine (HCu.out _).mono ?_; rintro e w3 ⟨rfl, hg3⟩; have O3 := (Blk.new w2 39 #[.int .i64 a, .int .i64 q]).gr hg3; obtain ⟨o0, o1, of⟩ := O3.two; have ol := O3.lt)
    have R3 := (B3.alloc (.cells #[.int .i64 a, .int .i64 q] 39)).gr hg3
    have O4 := (O3.set 0 (.int .i64 a)).set 1 (.int .i64 pn)
    have R4 := (R3.far (a := ⟨w2.heap.size, 0, none⟩) (by show w2.heap.size ≠ _; omega) (.int .i64 a)).far (a := ⟨w2.heap.size, 1, none⟩) (by show w2.heap.size ≠ _; omega) (.int .i64 pn)
    have h24 : Below w2.heap.size w2 ((w3.setCell ⟨w2.heap.size, 0, none⟩ (.int .i64 a)).setCell ⟨w2.heap.size, 1, none⟩ (.int .i64 pn)) := (((Below.refl _ _).alloc (Nat.le_refl _) _).trans (hg3.below.mono (by simp))).setCell (Nat.le_refl _) _ |>.setCell (Nat.le_refl _) _
    clear s0 s1 m0 m1 m2 m3 o0 o1 of ol O3 R3 B1 B2 B3 hg3
    generalize (w3.setCell ⟨w2.heap.size, 0, none⟩ (.int .i64 a)).setCell ⟨w2.heap.size, 1, none⟩ (.int .i64 pn) = w4 at *
    have h4 := G2.below.trans (h24.mono G2.below.size)
    have hws := G2.below.size
    have hw4 := h4.size
    have HX := Lib.hid (fun wz (hz : CW (w.heap.size + 1 + 1 + 1) (fun wz => ∃ y z, Blk wz (w.heap.size + 1 + 1 + 1) 39 #[y, z]) w4 wz) => (hz.gx.keeps O4 (by omega)).two)
    have hp : ∀ a' b', Gr a' b' → (∃ y z, Blk a' (w.heap.size + 1 + 1 + 1) 39 #[y, z]) → (∃ y z, Blk b' (w.heap.size + 1 + 1 + 1) 39 #[y, z]) := fun a' b' hg ⟨y, z, h⟩ => ⟨y, z, h.gr hg⟩
    refine region_writes 3 (w.heap.size + 1 + 1 + 1) 39 #[.int .i64 a, .int .i64 pn] [(2, .bool sb)] (fun wz => ∃ y z, Blk wz (w.heap.size + 1 + 1 + 1) 39 #[y, z]) ⟨_, _, R4⟩ (by kernel_rfl) (by kernel_rfl) ?_
    (refine lz_one rfl (fun K hK => ?_); refine ⟨rfl, ?_⟩; apply Exists.intro; refine ⟨fun wz hz => ?_, ?_⟩; (focus (obtain ⟨o0, o1, -⟩ := HX.out wz hz; go_simp; (first | done | exact ⟨rfl, rfl⟩ | trivial))); (go_simp; refine hK _ _ ?_; clear hK K))
    (refine lz_one rfl (fun K hK => ?_); refine ⟨rfl, ?_⟩; apply Exists.intro; refine ⟨fun wz hz => ?_, ?_⟩; (focus (obtain ⟨o0, o1, -⟩ := HX.out wz hz; go_simp; (first | done | exact ⟨rfl, rfl⟩ | trivial))); (go_simp; refine hK _ _ ?_; clear hK K))
    (refine lz_many _ rfl (fun K hK => ?_); refine ⟨rfl, fun wz hz ha => ?_, fun vz wz hz hf => ?_⟩; (focus (go_simp; exact lw_call (by decide) hp hz (HSt.out _))); (obtain rfl := hf; clear hz wz; go_simp; refine hK _ _ ?_; clear hK K))
    (refine lz_many _ rfl (fun K hK => ?_); refine ⟨rfl, fun wz hz ha => ?_, fun vz wz hz hf => ?_⟩; (focus (obtain ⟨y, z, hB⟩ := hz.at'; obtain ⟨b0, b1, bf⟩ := hB.two; have bl := hB.lt; go_simp; exact lw_store hz (by simp) (((Gx.of (Gr.refl _)).set 0 _).set 1 _) ⟨_, _, (hB.set 0 _).set 1 _⟩ ((hB.set 0 _).set 1 _))); (obtain - := hf; clear hz wz; go_simp; refine hK _ _ ?_; clear hK K))
    (refine lz_one rfl (fun K hK => ?_); refine ⟨rfl, ?_⟩; apply Exists.intro; refine ⟨fun wz hz => ?_, ?_⟩; (focus (skip; go_simp; (first | done | exact ⟨rfl, rfl⟩ | trivial))); (go_simp; refine hK _ _ ?_; clear hK K))
    refine lz_nil ?_
    intro w5 hz hg
    have R5 : Blk w5 (w.heap.size + 1 + 1 + 1) 39 #[.int .i64 a, .int .i64 pn] := hg 3
    have h5 := h4.trans (hz.gx.below (B := w.heap.size) (by omega) (by omega))
    obtain ⟨r0, r1, -⟩ := R5.two
    clear hg hz
    go_wp2_with fail
    ((try simp only [Exit.inBlock, Exit.then]); refine bodyPost_ret (v := .tuple #[.agg #[.int .i64 (a), .int .i64 (pn)], .bool sb]) (by simp [results, Tryd.results48, go_sem, r0, r1, World.cell?_setCell_same']) rfl ?_)
    rw [HR.out]
    exact ⟨rfl, Gr.of_below h5⟩
  · have HR := Lib.hid (HRn.out hs)
    rw [hs] at HA
    clear HRy HRn hs
    go_enter Tryd.func48, Tryd.ntmps48
    go_wp2_with fail
    generalize (((w.alloc (.cells #[.int .i64 L, .slice A n c, .slice B m d] 42)).alloc (.cells #[.int .i64 a, .int .i64 q] 39)).alloc (.cells #[.int .i64 0, .int .i64 s, .int .i64 u, .int .i64 t] 47)).alloc (.cells #[.int .i64 0, .int .i64 0] 39) = v at *
    have hRv := RX.out.gr G0
    refine region_grows [(8, .is (.slice A n c)), (11, .is (.bool false))] (by kernel_rfl) (by kernel_rfl) ?_
    (refine lz_one rfl (fun K hK => ?_); refine ⟨rfl, ?_⟩; apply Exists.intro; refine ⟨fun wz hz => ?_, ?_⟩; (focus (skip; go_simp; (first | done | exact ⟨rfl, rfl⟩ | trivial))); (go_simp; refine hK _ _ ?_; clear hK K))
    (refine lz_one rfl (fun K hK => ?_); refine ⟨rfl, ?_⟩; apply Exists.intro; refine ⟨fun wz hz => ?_, ?_⟩; (focus (obtain ⟨b0, b1, b2, b3, -⟩ := (B2.gr hz).four; go_simp; (first | done | exact ⟨rfl, rfl⟩ | trivial))); (go_simp; refine hK _ _ ?_; clear hK K))
    (refine lz_one rfl (fun K hK => ?_); refine ⟨rfl, ?_⟩; apply Exists.intro; refine ⟨fun wz hz => ?_, ?_⟩; (focus (skip; go_simp; (first | done | exact ⟨rfl, rfl⟩ | trivial))); (go_simp; refine hK _ _ ?_; clear hK K))
    (refine lz_one rfl (fun K hK => ?_); refine ⟨rfl, ?_⟩; apply Exists.intro; refine ⟨fun wz hz => ?_, ?_⟩; (focus (skip; go_simp; (first | done | exact ⟨rfl, rfl⟩ | trivial))); (go_simp; refine hK _ _ ?_; clear hK K))
    (refine lz_one rfl (fun K hK => ?_); refine ⟨rfl, ?_⟩; apply Exists.intro; refine ⟨fun wz hz => ?_, ?_⟩; (focus (obtain ⟨b0, b1, b2, -⟩ := (B0.gr hz).trio; go_simp; (first | done | exact ⟨rfl, rfl⟩ | trivial))); (go_simp; refine hK _ _ ?_; clear hK K))
    (refine lz_one rfl (fun K hK => ?_); refine ⟨rfl, ?_⟩; apply Exists.intro; refine ⟨fun wz hz => ?_, ?_⟩; (focus (skip; go_simp; (first | done | exact ⟨rfl, rfl⟩ | trivial))); (go_simp; refine hK _ _ ?_; clear hK K))
    (refine lz_one rfl (fun K hK => ?_); refine ⟨rfl, ?_⟩; apply Exists.intro; refine ⟨fun wz hz => ?_, ?_⟩; (focus (obtain ⟨b0, b1, b2, b3, -⟩ := (B2.gr hz).four; go_simp; (first | done | exact ⟨rfl, rfl⟩ | trivial))); (go_simp; refine hK _ _ ?_; clear hK K))
    (refine lz_one rfl (fun K hK => ?_); refine ⟨rfl, ?_⟩; apply Exists.intro; refine ⟨fun wz hz => ?_, ?_⟩; (focus (skip; go_simp; (first | done | exact ⟨rfl, rfl⟩ | trivial))); (go_simp; refine hK _ _ ?_; clear hK K))
    (refine lz_many _ rfl (fun K hK => ?_); refine ⟨rfl, fun wz hz ha => ?_, fun vz wz hz hf => ?_⟩; (focus (go_simp; exact lg_call hz (HO.out _))); (obtain rfl := hf; clear hz wz; go_simp; refine hK _ _ ?_; clear hK K))
    (refine lz_one rfl (fun K hK => ?_); refine ⟨rfl, ?_⟩; apply Exists.intro; refine ⟨fun wz hz => ?_, ?_⟩; (focus (skip; go_simp; (first | done | exact ⟨rfl, rfl⟩ | trivial))); (go_simp; refine hK _ _ ?_; clear hK K))
    (refine lz_one rfl (fun K hK => ?_); refine ⟨rfl, ?_⟩; apply Exists.intro; refine ⟨fun wz hz => ?_, ?_⟩; (focus (obtain ⟨b0, b1, b2, b3, -⟩ := (B2.gr hz).four; go_simp; (first | done | exact ⟨rfl, rfl⟩ | trivial))); (go_simp; refine hK _ _ ?_; clear hK K))
    (refine lz_many _ rfl (fun K hK => ?_); refine ⟨rfl, fun wz hz ha => ?_, fun vz wz hz hf => ?_⟩; (focus (go_simp; exact lg_call hz ((HA.out _ (hRv.gr hz)).mono fun _ _ h => ⟨h.1, h.2 ▸ Gr.refl _⟩))); (obtain rfl := hf; clear hz wz; go_simp; refine hK _ _ ?_; clear hK K))
    (refine lz_one rfl (fun K hK => ?_); refine ⟨rfl, ?_⟩; apply Exists.intro; refine ⟨fun wz hz => ?_, ?_⟩; (focus (skip; go_simp; (first | done | exact ⟨rfl, rfl⟩ | trivial))); (go_simp; refine hK _ _ ?_; clear hK K))
    (refine lz_one rfl (fun K hK => ?_); refine ⟨rfl, ?_⟩; apply Exists.intro; refine ⟨fun wz hz => ?_, ?_⟩; (focus (skip; go_simp; (first | done | exact ⟨rfl, rfl⟩ | trivial))); (go_simp; refine hK _ _ ?_; clear hK K))
    refine lz_nil ?_
    intro w2 hz hgg
    clear hgg
    clear HA HO hRv
    have G2 := G0.trans hz
    obtain ⟨r0, r1, rf⟩ := (B3.gr hz).two
    have rl := (B3.gr hz).lt
    go_wp2_with fail
    ((try simp only [Exit.inBlock, Exit.then]); refine bodyPost_ret (v := .tuple #[.agg #[.int .i64 (0), .int .i64 (0)], .bool false]) (by simp [results, Tryd.results48, go_sem, r0, r1, World.cell?_setCell_same']) rfl ?_)
    rw [HR.out]
    exact ⟨rfl, Gr.of_below ((G2.below.setCell (by show w.heap.size ≤ w.heap.size + 1 + 1 + 1; omega) _).setCell (by show w.heap.size ≤ w.heap.size + 1 + 1 + 1; omega) _)⟩
set_option maxRecDepth 100000 in
set_option maxHeartbeats 8000000 in
theorem apply_1 (a q s u t : Int) (L : Int) (A B : Option Addr) (n c m d : Nat) (xs ys : List Int) (w : World) (hx : xs.length = n) (hy : ys.length = m) (hn : n ≤ 16777216) (hm : m ≤ 16777216) (hnc : n ≤ c) (hmd : m ≤ d) (hX : Reads w w.heap.size A (xs.map vi)) (hY : Reads w w.heap.size B (ys.map vi)) (hv : lsc s = true ∧ fg u t = true) (hq : sgB a q = true) :
    Calls Tryd.prog 48 #[.agg #[.int .i64 L, .slice A n c, .slice B m d], .agg #[.int .i64 (a), .int .i64 (q)], .agg #[.int .i64 (1), .int .i64 (s), .int .i64 (u), .int .i64 (t)]] w (ApW (apR xs ys (1, s, u, t) a q) w) := by
  obtain ⟨a1, a2, q1, q2⟩ := sg_bd hq
  have HO := Lib.hid (fun W => on_spec true L A B n c m d xs ys W)
  have HB := Lib.hid (fun W h => has_spec B m d ys s W hy hm h)
  have RX := Lib.hid hY
  have HCu := Lib.hid (fun W => cursor11_spec a q true s u t W hv.2 (lsc_sc s hv.1) ⟨a1, a2⟩)
  rw [stP_t] at HCu
  have hpb := pnt_bd s u t hv.2
  have HRy := Lib.hid (fun h => apR_has (xs := xs) (ys := ys) (a := a) (c := q) h (mvN_1 s u t a q))
  have HRn := Lib.hid (fun h => apR_not (xs := xs) (ys := ys) (m := (1, s, u, t)) (a := a) (c := q) h)
  rw [mvH_1] at HRy HRn
  generalize pnt s u t = pn at *
  have HSt := Lib.hid (fun W => setting_spec a (a + pn) W)
  obtain ⟨B0, B1, B2, B3, G0⟩ := boxes4 w 42 39 47 39 #[.int .i64 L, .slice A n c, .slice B m d] #[.int .i64 a, .int .i64 q] #[.int .i64 1, .int .i64 s, .int .i64 u, .int .i64 t] #[.int .i64 0, .int .i64 0]
  generalize apR xs ys (1, s, u, t) a q = R at *
  clear hx hy hX hY hq hv
  rcases hasI_tf ys s with hs | hs
  · have HR := Lib.hid (HRy.out hs)
    rw [hs] at HB
    generalize sgB a (a + pn) = sb at *
    clear HRy HRn hs
    go_enter Tryd.func48, Tryd.ntmps48
    go_wp2_with fail
    generalize (((w.alloc (.cells #[.int .i64 L, .slice A n c, .slice B m d] 42)).alloc (.cells #[.int .i64 a, .int .i64 q] 39)).alloc (.cells #[.int .i64 1, .int .i64 s, .int .i64 u, .int .i64 t] 47)).alloc (.cells #[.int .i64 0, .int .i64 0] 39) = v at *
    have hRv := RX.out.gr G0
    refine region_grows [(8, .is (.slice B m d)), (11, .is (.bool true))] (by kernel_rfl) (by kernel_rfl) ?_
    (refine lz_one rfl (fun K hK => ?_); refine ⟨rfl, ?_⟩; apply Exists.intro; refine ⟨fun wz hz => ?_, ?_⟩; (focus (skip; go_simp; (first | done | exact ⟨rfl, rfl⟩ | trivial))); (go_simp; refine hK _ _ ?_; clear hK K))
    (refine lz_one rfl (fun K hK => ?_); refine ⟨rfl, ?_⟩; apply Exists.intro; refine ⟨fun wz hz => ?_, ?_⟩; (focus (obtain ⟨b0, b1, b2, b3, -⟩ := (B2.gr hz).four; go_simp; (first | done | exact ⟨rfl, rfl⟩ | trivial))); (go_simp; refine hK _ _ ?_; clear hK K))
    (refine lz_one rfl (fun K hK => ?_); refine ⟨rfl, ?_⟩; apply Exists.intro; refine ⟨fun wz hz => ?_, ?_⟩; (focus (skip; go_simp; (first | done | exact ⟨rfl, rfl⟩ | trivial))); (go_simp; refine hK _ _ ?_; clear hK K))
    (refine lz_one rfl (fun K hK => ?_); refine ⟨rfl, ?_⟩; apply Exists.intro; refine ⟨fun wz hz => ?_, ?_⟩; (focus (skip; go_simp; (first | done | exact ⟨rfl, rfl⟩ | trivial))); (go_simp; refine hK _ _ ?_; clear hK K))
    (refine lz_one rfl (fun K hK => ?_); refine ⟨rfl, ?_⟩; apply Exists.intro; refine ⟨fun wz hz => ?_, ?_⟩; (focus (obtain ⟨b0, b1, b2, -⟩ := (B0.gr hz).trio; go_simp; (first | done | exact ⟨rfl, rfl⟩ | trivial))); (go_simp; refine hK _ _ ?_; clear hK K))
    (refine lz_one rfl (fun K hK => ?_); refine ⟨rfl, ?_⟩; apply Exists.intro; refine ⟨fun wz hz => ?_, ?_⟩; (focus (skip; go_simp; (first | done | exact ⟨rfl, rfl⟩ | trivial))); (go_simp; refine hK _ _ ?_; clear hK K))
    (refine lz_one rfl (fun K hK => ?_); refine ⟨rfl, ?_⟩; apply Exists.intro; refine ⟨fun wz hz => ?_, ?_⟩; (focus (obtain ⟨b0, b1, b2, b3, -⟩ := (B2.gr hz).four; go_simp; (first | done | exact ⟨rfl, rfl⟩ | trivial))); (go_simp; refine hK _ _ ?_; clear hK K))
    (refine lz_one rfl (fun K hK => ?_); refine ⟨rfl, ?_⟩; apply Exists.intro; refine ⟨fun wz hz => ?_, ?_⟩; (focus (skip; go_simp; (first | done | exact ⟨rfl, rfl⟩ | trivial))); (go_simp; refine hK _ _ ?_; clear hK K))
    (refine lz_many _ rfl (fun K hK => ?_); refine ⟨rfl, fun wz hz ha => ?_, fun vz wz hz hf => ?_⟩; (focus (go_simp; exact lg_call hz (HO.out _))); (obtain rfl := hf; clear hz wz; go_simp; refine hK _ _ ?_; clear hK K))
    (refine lz_one rfl (fun K hK => ?_); refine ⟨rfl, ?_⟩; apply Exists.intro; refine ⟨fun wz hz => ?_, ?_⟩; (focus (skip; go_simp; (first | done | exact ⟨rfl, rfl⟩ | trivial))); (go_simp; refine hK _ _ ?_; clear hK K))
    (refine lz_one rfl (fun K hK => ?_); refine ⟨rfl, ?_⟩; apply Exists.intro; refine ⟨fun wz hz => ?_, ?_⟩; (focus (obtain ⟨b0, b1, b2, b3, -⟩ := (B2.gr hz).four; go_simp; (first | done | exact ⟨rfl, rfl⟩ | trivial))); (go_simp; refine hK _ _ ?_; clear hK K))
    (refine lz_many _ rfl (fun K hK => ?_); refine ⟨rfl, fun wz hz ha => ?_, fun vz wz hz hf => ?_⟩; (focus (go_simp; exact lg_call hz ((HB.out _ (hRv.gr hz)).mono fun _ _ h => ⟨h.1, h.2 ▸ Gr.refl _⟩))); (obtain rfl := hf; clear hz wz; go_simp; refine hK _ _ ?_; clear hK K))
    (refine lz_one rfl (fun K hK => ?_); refine ⟨rfl, ?_⟩; apply Exists.intro; refine ⟨fun wz hz => ?_, ?_⟩; (focus (skip; go_simp; (first | done | exact ⟨rfl, rfl⟩ | trivial))); (go_simp; refine hK _ _ ?_; clear hK K))
    (refine lz_one rfl (fun K hK => ?_); refine ⟨rfl, ?_⟩; apply Exists.intro; refine ⟨fun wz hz => ?_, ?_⟩; (focus (skip; go_simp; (first | done | exact ⟨rfl, rfl⟩ | trivial))); (go_simp; refine hK _ _ ?_; clear hK K))
    refine lz_nil ?_
    intro w2 hz hgg
    clear hgg
    clear HB HO hRv RX
    have G2 := G0.trans hz
    have hvs := hz.below.size
    replace B1 := B1.gr hz
    replace B2 := B2.gr hz
    replace B3 := B3.gr hz
    obtain ⟨s0, s1, -⟩ := B1.two
    obtain ⟨m0, m1, m2, m3, -⟩ := B2.four
    have lt3 := B3.lt
    have lt2 := B2.lt
    have lt1 := B1.lt
    have hvw := G0.below.size
    clear hz
    go_wp2_with (go_at_call 72; refine (HCu.out _).mono ?_; rintro e w3 ⟨rfl, hg3⟩; have O3 := (Blk.new w2 39 #[.int .i64 a, .int .i64 q]).gr hg3; obtain ⟨o0, o1, of⟩ := O3.two; have ol := O3.lt)
    have R3 := (B3.alloc (.cells #[.int .i64 a, .int .i64 q] 39)).gr hg3
    have O4 := (O3.set 0 (.int .i64 a)).set 1 (.int .i64 (a + pn))
    have R4 := (R3.far (a := ⟨w2.heap.size, 0, none⟩) (by show w2.heap.size ≠ _; omega) (.int .i64 a)).far (a := ⟨w2.heap.size, 1, none⟩) (by show w2.heap.size ≠ _; omega) (.int .i64 (a + pn))
    have h24 : Below w2.heap.size w2 ((w3.setCell ⟨w2.heap.size, 0, none⟩ (.int .i64 a)).setCell ⟨w2.heap.size, 1, none⟩ (.int .i64 (a + pn))) := (((Below.refl _ _).alloc (Nat.le_refl _) _).trans (hg3.below.mono (by simp))).setCell (Nat.le_refl _) _ |>.setCell (Nat.le_refl _) _
    clear s0 s1 m0 m1 m2 m3 o0 o1 of ol O3 R3 B1 B2 B3 hg3
    generalize (w3.setCell ⟨w2.heap.size, 0, none⟩ (.int .i64 a)).setCell ⟨w2.heap.size, 1, none⟩ (.int .i64 (a + pn)) = w4 at *
    have h4 := G2.below.trans (h24.mono G2.below.size)
    have hws := G2.below.size
    have hw4 := h4.size
    have HX := Lib.hid (fun wz (hz : CW (w.heap.size + 1 + 1 + 1) (fun wz => ∃ y z, Blk wz (w.heap.size + 1 + 1 + 1) 39 #[y, z]) w4 wz) => (hz.gx.keeps O4 (by omega)).two)
    have hp : ∀ a' b', Gr a' b' → (∃ y z, Blk a' (w.heap.size + 1 + 1 + 1) 39 #[y, z]) → (∃ y z, Blk b' (w.heap.size + 1 + 1 + 1) 39 #[y, z]) := fun a' b' hg ⟨y, z, h⟩ => ⟨y, z, h.gr hg⟩
    refine region_writes 3 (w.heap.size + 1 + 1 + 1) 39 #[.int .i64 a, .int .i64 (a + pn)] [(2, .bool sb)] (fun wz => ∃ y z, Blk wz (w.heap.size + 1 + 1 + 1) 39 #[y, z]) ⟨_, _, R4⟩ (by kernel_rfl) (by kernel_rfl) ?_
    (refine lz_one rfl (fun K hK => ?_); refine ⟨rfl, ?_⟩; apply Exists.intro; refine ⟨fun wz hz => ?_, ?_⟩; (focus (obtain ⟨o0, o1, -⟩ := HX.out wz hz; go_simp; (first | done | exact ⟨rfl, rfl⟩ | trivial))); (go_simp; refine hK _ _ ?_; clear hK K))
    (refine lz_one rfl (fun K hK => ?_); refine ⟨rfl, ?_⟩; apply Exists.intro; refine ⟨fun wz hz => ?_, ?_⟩; (focus (obtain ⟨o0, o1, -⟩ := HX.out wz hz; go_simp; (first | done | exact ⟨rfl, rfl⟩ | trivial))); (go_simp; refine hK _ _ ?_; clear hK K))
    (refine lz_many _ rfl (fun K hK => ?_); refine ⟨rfl, fun wz hz ha => ?_, fun vz wz hz hf => ?_⟩; (focus (go_simp; exact lw_call (by decide) hp hz (HSt.out _))); (obtain rfl := hf; clear hz wz; go_simp; refine hK _ _ ?_; clear hK K))
    (refine lz_many _ rfl (fun K hK => ?_); refine ⟨rfl, fun wz hz ha => ?_, fun vz wz hz hf => ?_⟩; (focus (obtain ⟨y, z, hB⟩ := hz.at'; obtain ⟨b0, b1, bf⟩ := hB.two; have bl := hB.lt; go_simp; exact lw_store hz (by simp) (((Gx.of (Gr.refl _)).set 0 _).set 1 _) ⟨_, _, (hB.set 0 _).set 1 _⟩ ((hB.set 0 _).set 1 _))); (obtain - := hf; clear hz wz; go_simp; refine hK _ _ ?_; clear hK K))
    (refine lz_one rfl (fun K hK => ?_); refine ⟨rfl, ?_⟩; apply Exists.intro; refine ⟨fun wz hz => ?_, ?_⟩; (focus (skip; go_simp; (first | done | exact ⟨rfl, rfl⟩ | trivial))); (go_simp; refine hK _ _ ?_; clear hK K))
    refine lz_nil ?_
    intro w5 hz hg
    have R5 : Blk w5 (w.heap.size + 1 + 1 + 1) 39 #[.int .i64 a, .int .i64 (a + pn)] := hg 3
    have h5 := h4.trans (hz.gx.below (B := w.heap.size) (by omega) (by omega))
    obtain ⟨r0, r1, -⟩ := R5.two
    clear hg hz
    go_wp2_with fail
    ((try simp only [Exit.inBlock, Exit.then]); refine bodyPost_ret (v := .tuple #[.agg #[.int .i64 (a), .int .i64 ((a + pn))], .bool sb]) (by simp [results, Tryd.results48, go_sem, r0, r1, World.cell?_setCell_same']) rfl ?_)
    rw [HR.out]
    exact ⟨rfl, Gr.of_below h5⟩
  · have HR := Lib.hid (HRn.out hs)
    rw [hs] at HB
    clear HRy HRn hs
    go_enter Tryd.func48, Tryd.ntmps48
    go_wp2_with fail
    generalize (((w.alloc (.cells #[.int .i64 L, .slice A n c, .slice B m d] 42)).alloc (.cells #[.int .i64 a, .int .i64 q] 39)).alloc (.cells #[.int .i64 1, .int .i64 s, .int .i64 u, .int .i64 t] 47)).alloc (.cells #[.int .i64 0, .int .i64 0] 39) = v at *
    have hRv := RX.out.gr G0
    refine region_grows [(8, .is (.slice B m d)), (11, .is (.bool false))] (by kernel_rfl) (by kernel_rfl) ?_
    (refine lz_one rfl (fun K hK => ?_); refine ⟨rfl, ?_⟩; apply Exists.intro; refine ⟨fun wz hz => ?_, ?_⟩; (focus (skip; go_simp; (first | done | exact ⟨rfl, rfl⟩ | trivial))); (go_simp; refine hK _ _ ?_; clear hK K))
    (refine lz_one rfl (fun K hK => ?_); refine ⟨rfl, ?_⟩; apply Exists.intro; refine ⟨fun wz hz => ?_, ?_⟩; (focus (obtain ⟨b0, b1, b2, b3, -⟩ := (B2.gr hz).four; go_simp; (first | done | exact ⟨rfl, rfl⟩ | trivial))); (go_simp; refine hK _ _ ?_; clear hK K))
    (refine lz_one rfl (fun K hK => ?_); refine ⟨rfl, ?_⟩; apply Exists.intro; refine ⟨fun wz hz => ?_, ?_⟩; (focus (skip; go_simp; (first | done | exact ⟨rfl, rfl⟩ | trivial))); (go_simp; refine hK _ _ ?_; clear hK K))
    (refine lz_one rfl (fun K hK => ?_); refine ⟨rfl, ?_⟩; apply Exists.intro; refine ⟨fun wz hz => ?_, ?_⟩; (focus (skip; go_simp; (first | done | exact ⟨rfl, rfl⟩ | trivial))); (go_simp; refine hK _ _ ?_; clear hK K))
    (refine lz_one rfl (fun K hK => ?_); refine ⟨rfl, ?_⟩; apply Exists.intro; refine ⟨fun wz hz => ?_, ?_⟩; (focus (obtain ⟨b0, b1, b2, -⟩ := (B0.gr hz).trio; go_simp; (first | done | exact ⟨rfl, rfl⟩ | trivial))); (go_simp; refine hK _ _ ?_; clear hK K))
    (refine lz_one rfl (fun K hK => ?_); refine ⟨rfl, ?_⟩; apply Exists.intro; refine ⟨fun wz hz => ?_, ?_⟩; (focus (skip; go_simp; (first | done | exact ⟨rfl, rfl⟩ | trivial))); (go_simp; refine hK _ _ ?_; clear hK K))
    (refine lz_one rfl (fun K hK => ?_); refine ⟨rfl, ?_⟩; apply Exists.intro; refine ⟨fun wz hz => ?_, ?_⟩; (focus (obtain ⟨b0, b1, b2, b3, -⟩ := (B2.gr hz).four; go_simp; (first | done | exact ⟨rfl, rfl⟩ | trivial))); (go_simp; refine hK _ _ ?_; clear hK K))
    (refine lz_one rfl (fun K hK => ?_); refine ⟨rfl, ?_⟩; apply Exists.intro; refine ⟨fun wz hz => ?_, ?_⟩; (focus (skip; go_simp; (first | done | exact ⟨rfl, rfl⟩ | trivial))); (go_simp; refine hK _ _ ?_; clear hK K))
    (refine lz_many _ rfl (fun K hK => ?_); refine ⟨rfl, fun wz hz ha => ?_, fun vz wz hz hf => ?_⟩; (focus (go_simp; exact lg_call hz (HO.out _))); (obtain rfl := hf; clear hz wz; go_simp; refine hK _ _ ?_; clear hK K))
    (refine lz_one rfl (fun K hK => ?_); refine ⟨rfl, ?_⟩; apply Exists.intro; refine ⟨fun wz hz => ?_, ?_⟩; (focus (skip; go_simp; (first | done | exact ⟨rfl, rfl⟩ | trivial))); (go_simp; refine hK _ _ ?_; clear hK K))
    (refine lz_one rfl (fun K hK => ?_); refine ⟨rfl, ?_⟩; apply Exists.intro; refine ⟨fun wz hz => ?_, ?_⟩; (focus (obtain ⟨b0, b1, b2, b3, -⟩ := (B2.gr hz).four; go_simp; (first | done | exact ⟨rfl, rfl⟩ | trivial))); (go_simp; refine hK _ _ ?_; clear hK K))
    (refine lz_many _ rfl (fun K hK => ?_); refine ⟨rfl, fun wz hz ha => ?_, fun vz wz hz hf => ?_⟩; (focus (go_simp; exact lg_call hz ((HB.out _ (hRv.gr hz)).mono fun _ _ h => ⟨h.1, h.2 ▸ Gr.refl _⟩))); (obtain rfl := hf; clear hz wz; go_simp; refine hK _ _ ?_; clear hK K))
    (refine lz_one rfl (fun K hK => ?_); refine ⟨rfl, ?_⟩; apply Exists.intro; refine ⟨fun wz hz => ?_, ?_⟩; (focus (skip; go_simp; (first | done | exact ⟨rfl, rfl⟩ | trivial))); (go_simp; refine hK _ _ ?_; clear hK K))
    (refine lz_one rfl (fun K hK => ?_); refine ⟨rfl, ?_⟩; apply Exists.intro; refine ⟨fun wz hz => ?_, ?_⟩; (focus (skip; go_simp; (first | done | exact ⟨rfl, rfl⟩ | trivial))); (go_simp; refine hK _ _ ?_; clear hK K))
    refine lz_nil ?_
    intro w2 hz hgg
    clear hgg
    clear HB HO hRv
    have G2 := G0.trans hz
    obtain ⟨r0, r1, rf⟩ := (B3.gr hz).two
    have rl := (B3.gr hz).lt
    go_wp2_with fail
    ((try simp only [Exit.inBlock, Exit.then]); refine bodyPost_ret (v := .tuple #[.agg #[.int .i64 (0), .int .i64 (0)], .bool false]) (by simp [results, Tryd.results48, go_sem, r0, r1, World.cell?_setCell_same']) rfl ?_)
    rw [HR.out]
    exact ⟨rfl, Gr.of_below ((G2.below.setCell (by show w.heap.size ≤ w.heap.size + 1 + 1 + 1; omega) _).setCell (by show w.heap.size ≤ w.heap.size + 1 + 1 + 1; omega) _)⟩
set_option maxRecDepth 100000 in
set_option maxHeartbeats 8000000 in
theorem apply_2 (a q s u t : Int) (L : Int) (A B : Option Addr) (n c m d : Nat) (xs ys : List Int) (w : World) (hx : xs.length = n) (hy : ys.length = m) (hn : n ≤ 16777216) (hm : m ≤ 16777216) (hnc : n ≤ c) (hmd : m ≤ d) (hX : Reads w w.heap.size A (xs.map vi)) (hY : Reads w w.heap.size B (ys.map vi)) (hv : lsc s = true ∧ fg u t = true) (hq : sgB a q = true) :
    Calls Tryd.prog 48 #[.agg #[.int .i64 L, .slice A n c, .slice B m d], .agg #[.int .i64 (a), .int .i64 (q)], .agg #[.int .i64 (2), .int .i64 (s), .int .i64 (u), .int .i64 (t)]] w (ApW (apR xs ys (2, s, u, t) a q) w) := by
  obtain ⟨a1, a2, q1, q2⟩ := sg_bd hq
  have HO := Lib.hid (fun W => on_spec true L A B n c m d xs ys W)
  have HB := Lib.hid (fun W h => has_spec B m d ys s W hy hm h)
  have RX := Lib.hid hY
  have HPt := Lib.hid (fun W => point_spec s u t W hv.2 (lsc_sc s hv.1))
  have hpb := pnt_bd s u t hv.2
  have HRy := Lib.hid (fun h => apR_has (xs := xs) (ys := ys) (a := a) (c := q) h (mvN_2 s u t a q))
  have HRn := Lib.hid (fun h => apR_not (xs := xs) (ys := ys) (m := (2, s, u, t)) (a := a) (c := q) h)
  rw [mvH_2] at HRy HRn
  generalize pnt s u t = pn at *
  have HSt := Lib.hid (fun W => setting_spec (q - pn) q W)
  obtain ⟨B0, B1, B2, B3, G0⟩ := boxes4 w 42 39 47 39 #[.int .i64 L, .slice A n c, .slice B m d] #[.int .i64 a, .int .i64 q] #[.int .i64 2, .int .i64 s, .int .i64 u, .int .i64 t] #[.int .i64 0, .int .i64 0]
  generalize apR xs ys (2, s, u, t) a q = R at *
  clear hx hy hX hY hq hv
  rcases hasI_tf ys s with hs | hs
  · have HR := Lib.hid (HRy.out hs)
    rw [hs] at HB
    generalize sgB (q - pn) q = sb at *
    clear HRy HRn hs
    go_enter Tryd.func48, Tryd.ntmps48
    go_wp2_with fail
    generalize (((w.alloc (.cells #[.int .i64 L, .slice A n c, .slice B m d] 42)).alloc (.cells #[.int .i64 a, .int .i64 q] 39)).alloc (.cells #[.int .i64 2, .int .i64 s, .int .i64 u, .int .i64 t] 47)).alloc (.cells #[.int .i64 0, .int .i64 0] 39) = v at *
    have hRv := RX.out.gr G0
    refine region_grows [(8, .is (.slice B m d)), (11, .is (.bool true))] (by kernel_rfl) (by kernel_rfl) ?_
    (refine lz_one rfl (fun K hK => ?_); refine ⟨rfl, ?_⟩; apply Exists.intro; refine ⟨fun wz hz => ?_, ?_⟩; (focus (skip; go_simp; (first | done | exact ⟨rfl, rfl⟩ | trivial))); (go_simp; refine hK _ _ ?_; clear hK K))
    (refine lz_one rfl (fun K hK => ?_); refine ⟨rfl, ?_⟩; apply Exists.intro; refine ⟨fun wz hz => ?_, ?_⟩; (focus (obtain ⟨b0, b1, b2, b3, -⟩ := (B2.gr hz).four; go_simp; (first | done | exact ⟨rfl, rfl⟩ | trivial))); (go_simp; refine hK _ _ ?_; clear hK K))
    (refine lz_one rfl (fun K hK => ?_); refine ⟨rfl, ?_⟩; apply Exists.intro; refine ⟨fun wz hz => ?_, ?_⟩; (focus (skip; go_simp; (first | done | exact ⟨rfl, rfl⟩ | trivial))); (go_simp; refine hK _ _ ?_; clear hK K))
    (refine lz_one rfl (fun K hK => ?_); refine ⟨rfl, ?_⟩; apply Exists.intro; refine ⟨fun wz hz => ?_, ?_⟩; (focus (skip; go_simp; (first | done | exact ⟨rfl, rfl⟩ | trivial))); (go_simp; refine hK _ _ ?_; clear hK K))
    (refine lz_one rfl (fun K hK => ?_); refine ⟨rfl, ?_⟩; apply Exists.intro; refine ⟨fun wz hz => ?_, ?_⟩; (focus (obtain ⟨b0, b1, b2, -⟩ := (B0.gr hz).trio; go_simp; (first | done | exact ⟨rfl, rfl⟩ | trivial))); (go_simp; refine hK _ _ ?_; clear hK K))
    (refine lz_one rfl (fun K hK => ?_); refine ⟨rfl, ?_⟩; apply Exists.intro; refine ⟨fun wz hz => ?_, ?_⟩; (focus (skip; go_simp; (first | done | exact ⟨rfl, rfl⟩ | trivial))); (go_simp; refine hK _ _ ?_; clear hK K))
    (refine lz_one rfl (fun K hK => ?_); refine ⟨rfl, ?_⟩; apply Exists.intro; refine ⟨fun wz hz => ?_, ?_⟩; (focus (obtain ⟨b0, b1, b2, b3, -⟩ := (B2.gr hz).four; go_simp; (first | done | exact ⟨rfl, rfl⟩ | trivial))); (go_simp; refine hK _ _ ?_; clear hK K))
    (refine lz_one rfl (fun K hK => ?_); refine ⟨rfl, ?_⟩; apply Exists.intro; refine ⟨fun wz hz => ?_, ?_⟩; (focus (skip; go_simp; (first | done | exact ⟨rfl, rfl⟩ | trivial))); (go_simp; refine hK _ _ ?_; clear hK K))
    (refine lz_many _ rfl (fun K hK => ?_); refine ⟨rfl, fun wz hz ha => ?_, fun vz wz hz hf => ?_⟩; (focus (go_simp; exact lg_call hz (HO.out _))); (obtain rfl := hf; clear hz wz; go_simp; refine hK _ _ ?_; clear hK K))
    (refine lz_one rfl (fun K hK => ?_); refine ⟨rfl, ?_⟩; apply Exists.intro; refine ⟨fun wz hz => ?_, ?_⟩; (focus (skip; go_simp; (first | done | exact ⟨rfl, rfl⟩ | trivial))); (go_simp; refine hK _ _ ?_; clear hK K))
    (refine lz_one rfl (fun K hK => ?_); refine ⟨rfl, ?_⟩; apply Exists.intro; refine ⟨fun wz hz => ?_, ?_⟩; (focus (obtain ⟨b0, b1, b2, b3, -⟩ := (B2.gr hz).four; go_simp; (first | done | exact ⟨rfl, rfl⟩ | trivial))); (go_simp; refine hK _ _ ?_; clear hK K))
    (refine lz_many _ rfl (fun K hK => ?_); refine ⟨rfl, fun wz hz ha => ?_, fun vz wz hz hf => ?_⟩; (focus (go_simp; exact lg_call hz ((HB.out _ (hRv.gr hz)).mono fun _ _ h => ⟨h.1, h.2 ▸ Gr.refl _⟩))); (obtain rfl := hf; clear hz wz; go_simp; refine hK _ _ ?_; clear hK K))
    (refine lz_one rfl (fun K hK => ?_); refine ⟨rfl, ?_⟩; apply Exists.intro; refine ⟨fun wz hz => ?_, ?_⟩; (focus (skip; go_simp; (first | done | exact ⟨rfl, rfl⟩ | trivial))); (go_simp; refine hK _ _ ?_; clear hK K))
    (refine lz_one rfl (fun K hK => ?_); refine ⟨rfl, ?_⟩; apply Exists.intro; refine ⟨fun wz hz => ?_, ?_⟩; (focus (skip; go_simp; (first | done | exact ⟨rfl, rfl⟩ | trivial))); (go_simp; refine hK _ _ ?_; clear hK K))
    refine lz_nil ?_
    intro w2 hz hgg
    clear hgg
    clear HB HO hRv RX
    have G2 := G0.trans hz
    have hvs := hz.below.size
    replace B1 := B1.gr hz
    replace B2 := B2.gr hz
    replace B3 := B3.gr hz
    obtain ⟨s0, s1, -⟩ := B1.two
    obtain ⟨m0, m1, m2, m3, -⟩ := B2.four
    have lt3 := B3.lt
    have lt2 := B2.lt
    have lt1 := B1.lt
    have hvw := G0.below.size
    clear hz
    go_wp2_with fail
    have O3 := Blk.new w2 39 #[.int .i64 a, .int .i64 q]
    have hg3 : Gr w2 (w2.alloc (.cells #[.int .i64 a, .int .i64 q] 39)) := (by repeat (first | with_reducible exact Gr.refl _ | with_reducible refine Gr.alloc ?_ _ | with_reducible refine Gr.gr ?_ _ _ | with_reducible refine Gr.drew ?_ | with_reducible refine Gr.drewN ?_ _))
    have h3 := Lib.hid ((Below.refl w2.heap.size w2).alloc (Nat.le_refl _) (.cells #[.int .i64 a, .int .i64 q] 39))
    have hz3 : (w2.alloc (.cells #[.int .i64 a, .int .i64 q] 39)).heap.size = w2.heap.size + 1 := World.size_alloc ..
    generalize w2.alloc (.cells #[.int .i64 a, .int .i64 q] 39) = w3 at *
    replace B1 := B1.gr hg3
    replace B2 := B2.gr hg3
    have R3 := B3.gr hg3
    clear s0 s1 m0 m1 m2 m3
    have hw : IntKind.i64.wrap (q - pn) = q - pn := IntWalk.i64_in _ (by omega)
    have HX := Lib.hid (fun wz (hz : CW w2.heap.size (fun wz => ∃ y, Blk wz w2.heap.size 39 #[y, .int .i64 q]) w3 wz) => And.intro (hz.gx.keeps B1 (by omega)).two (hz.gx.keeps B2 (by omega)).four)
    have hp : ∀ a' b', Gr a' b' → (∃ y, Blk a' w2.heap.size 39 #[y, .int .i64 q]) → (∃ y, Blk b' w2.heap.size 39 #[y, .int .i64 q]) := fun a' b' hg ⟨y, h⟩ => ⟨y, h.gr hg⟩
    refine region_writes 9 w2.heap.size 39 #[.int .i64 (q - pn), .int .i64 q] [(6, .int .i64 pn)] (fun wz => ∃ y, Blk wz w2.heap.size 39 #[y, .int .i64 q]) ⟨_, O3⟩ (by kernel_rfl) (by kernel_rfl) ?_
    (refine lz_one rfl (fun K hK => ?_); refine ⟨rfl, ?_⟩; apply Exists.intro; refine ⟨fun wz hz => ?_, ?_⟩; (focus (skip; go_simp; (first | done | exact ⟨rfl, rfl⟩ | trivial))); (go_simp; refine hK _ _ ?_; clear hK K))
    (refine lz_one rfl (fun K hK => ?_); refine ⟨rfl, ?_⟩; apply Exists.intro; refine ⟨fun wz hz => ?_, ?_⟩; (focus (obtain ⟨⟨s0, s1, -⟩, -⟩ := HX.out wz hz; go_simp; (first | done | exact ⟨rfl, rfl⟩ | trivial))); (go_simp; refine hK _ _ ?_; clear hK K))
    (refine lz_one rfl (fun K hK => ?_); refine ⟨rfl, ?_⟩; apply Exists.intro; refine ⟨fun wz hz => ?_, ?_⟩; (focus (skip; go_simp; (first | done | exact ⟨rfl, rfl⟩ | trivial))); (go_simp; refine hK _ _ ?_; clear hK K))
    (refine lz_one rfl (fun K hK => ?_); refine ⟨rfl, ?_⟩; apply Exists.intro; refine ⟨fun wz hz => ?_, ?_⟩; (focus (obtain ⟨-, ⟨m0, m1, m2, m3, -⟩⟩ := HX.out wz hz; go_simp; (first | done | exact ⟨rfl, rfl⟩ | trivial))); (go_simp; refine hK _ _ ?_; clear hK K))
    (refine lz_one rfl (fun K hK => ?_); refine ⟨rfl, ?_⟩; apply Exists.intro; refine ⟨fun wz hz => ?_, ?_⟩; (focus (skip; go_simp; (first | done | exact ⟨rfl, rfl⟩ | trivial))); (go_simp; refine hK _ _ ?_; clear hK K))
    (refine lz_one rfl (fun K hK => ?_); refine ⟨rfl, ?_⟩; apply Exists.intro; refine ⟨fun wz hz => ?_, ?_⟩; (focus (obtain ⟨-, ⟨m0, m1, m2, m3, -⟩⟩ := HX.out wz hz; go_simp; (first | done | exact ⟨rfl, rfl⟩ | trivial))); (go_simp; refine hK _ _ ?_; clear hK K))
    (refine lz_many _ rfl (fun K hK => ?_); refine ⟨rfl, fun wz hz ha => ?_, fun vz wz hz hf => ?_⟩; (focus (go_simp; exact lw_call (by decide) hp hz (HPt.out _))); (obtain rfl := hf; clear hz wz; go_simp; refine hK _ _ ?_; clear hK K))
    (refine lz_one rfl (fun K hK => ?_); refine ⟨rfl, ?_⟩; apply Exists.intro; refine ⟨fun wz hz => ?_, ?_⟩; (focus (skip; go_simp; (first | done | exact ⟨rfl, rfl⟩ | trivial))); (go_simp; refine hK _ _ ?_; clear hK K))
    (refine lz_one rfl (fun K hK => ?_); refine ⟨rfl, ?_⟩; apply Exists.intro; refine ⟨fun wz hz => ?_, ?_⟩; (focus (skip; go_simp; (first | done | exact ⟨rfl, rfl⟩ | trivial))); (go_simp; refine hK _ _ ?_; clear hK K))
    (refine lz_many _ rfl (fun K hK => ?_); refine ⟨rfl, fun wz hz ha => ?_, fun vz wz hz hf => ?_⟩; (focus (obtain ⟨y, hB⟩ := hz.at'; obtain ⟨b0, b1, bf⟩ := hB.two; have bl := hB.lt; go_simp; exact lw_store hz (by simp) ((Gx.of (Gr.refl _)).set 0 _) ⟨_, hB.set 0 _⟩ (hB.set 0 _))); (obtain - := hf; clear hz wz; go_simp; refine hK _ _ ?_; clear hK K))
    refine lz_nil ?_
    intro w4 hz hg
    have O4 : Blk w4 w2.heap.size 39 #[.int .i64 (q - pn), .int .i64 q] := hg 9
    have R4 := hz.gx.keeps R3 (by omega)
    have h24 := h3.out.trans (hz.gx.below (B := w2.heap.size) (Nat.le_refl _) (by omega))
    clear hg hz hp HX R3 B1 B2 B3 hg3 h3 O3 hw
    go_wp2_with fail
    have h4 := G2.below.trans (h24.mono G2.below.size)
    have hws := G2.below.size
    have hw4 := h4.size
    have HX := Lib.hid (fun wz (hz : CW (w.heap.size + 1 + 1 + 1) (fun wz => ∃ y z, Blk wz (w.heap.size + 1 + 1 + 1) 39 #[y, z]) w4 wz) => (hz.gx.keeps O4 (by omega)).two)
    have hp : ∀ a' b', Gr a' b' → (∃ y z, Blk a' (w.heap.size + 1 + 1 + 1) 39 #[y, z]) → (∃ y z, Blk b' (w.heap.size + 1 + 1 + 1) 39 #[y, z]) := fun a' b' hg ⟨y, z, h⟩ => ⟨y, z, h.gr hg⟩
    refine region_writes 3 (w.heap.size + 1 + 1 + 1) 39 #[.int .i64 (q - pn), .int .i64 q] [(2, .bool sb)] (fun wz => ∃ y z, Blk wz (w.heap.size + 1 + 1 + 1) 39 #[y, z]) ⟨_, _, R4⟩ (by kernel_rfl) (by kernel_rfl) ?_
    (refine lz_one rfl (fun K hK => ?_); refine ⟨rfl, ?_⟩; apply Exists.intro; refine ⟨fun wz hz => ?_, ?_⟩; (focus (obtain ⟨o0, o1, -⟩ := HX.out wz hz; go_simp; (first | done | exact ⟨rfl, rfl⟩ | trivial))); (go_simp; refine hK _ _ ?_; clear hK K))
    (refine lz_one rfl (fun K hK => ?_); refine ⟨rfl, ?_⟩; apply Exists.intro; refine ⟨fun wz hz => ?_, ?_⟩; (focus (obtain ⟨o0, o1, -⟩ := HX.out wz hz; go_simp; (first | done | exact ⟨rfl, rfl⟩ | trivial))); (go_simp; refine hK _ _ ?_; clear hK K))
    (refine lz_many _ rfl (fun K hK => ?_); refine ⟨rfl, fun wz hz ha => ?_, fun vz wz hz hf => ?_⟩; (focus (go_simp; exact lw_call (by decide) hp hz (HSt.out _))); (obtain rfl := hf; clear hz wz; go_simp; refine hK _ _ ?_; clear hK K))
    (refine lz_many _ rfl (fun K hK => ?_); refine ⟨rfl, fun wz hz ha => ?_, fun vz wz hz hf => ?_⟩; (focus (obtain ⟨y, z, hB⟩ := hz.at'; obtain ⟨b0, b1, bf⟩ := hB.two; have bl := hB.lt; go_simp; exact lw_store hz (by simp) (((Gx.of (Gr.refl _)).set 0 _).set 1 _) ⟨_, _, (hB.set 0 _).set 1 _⟩ ((hB.set 0 _).set 1 _))); (obtain - := hf; clear hz wz; go_simp; refine hK _ _ ?_; clear hK K))
    (refine lz_one rfl (fun K hK => ?_); refine ⟨rfl, ?_⟩; apply Exists.intro; refine ⟨fun wz hz => ?_, ?_⟩; (focus (skip; go_simp; (first | done | exact ⟨rfl, rfl⟩ | trivial))); (go_simp; refine hK _ _ ?_; clear hK K))
    refine lz_nil ?_
    intro w5 hz hg
    have R5 : Blk w5 (w.heap.size + 1 + 1 + 1) 39 #[.int .i64 (q - pn), .int .i64 q] := hg 3
    have h5 := h4.trans (hz.gx.below (B := w.heap.size) (by omega) (by omega))
    obtain ⟨r0, r1, -⟩ := R5.two
    clear hg hz
    go_wp2_with fail
    ((try simp only [Exit.inBlock, Exit.then]); refine bodyPost_ret (v := .tuple #[.agg #[.int .i64 ((q - pn)), .int .i64 (q)], .bool sb]) (by simp [results, Tryd.results48, go_sem, r0, r1, World.cell?_setCell_same']) rfl ?_)
    rw [HR.out]
    exact ⟨rfl, Gr.of_below h5⟩
  · have HR := Lib.hid (HRn.out hs)
    rw [hs] at HB
    clear HRy HRn hs
    go_enter Tryd.func48, Tryd.ntmps48
    go_wp2_with fail
    generalize (((w.alloc (.cells #[.int .i64 L, .slice A n c, .slice B m d] 42)).alloc (.cells #[.int .i64 a, .int .i64 q] 39)).alloc (.cells #[.int .i64 2, .int .i64 s, .int .i64 u, .int .i64 t] 47)).alloc (.cells #[.int .i64 0, .int .i64 0] 39) = v at *
    have hRv := RX.out.gr G0
    refine region_grows [(8, .is (.slice B m d)), (11, .is (.bool false))] (by kernel_rfl) (by kernel_rfl) ?_
    (refine lz_one rfl (fun K hK => ?_); refine ⟨rfl, ?_⟩; apply Exists.intro; refine ⟨fun wz hz => ?_, ?_⟩; (focus (skip; go_simp; (first | done | exact ⟨rfl, rfl⟩ | trivial))); (go_simp; refine hK _ _ ?_; clear hK K))
    (refine lz_one rfl (fun K hK => ?_); refine ⟨rfl, ?_⟩; apply Exists.intro; refine ⟨fun wz hz => ?_, ?_⟩; (focus (obtain ⟨b0, b1, b2, b3, -⟩ := (B2.gr hz).four; go_simp; (first | done | exact ⟨rfl, rfl⟩ | trivial))); (go_simp; refine hK _ _ ?_; clear hK K))
    (refine lz_one rfl (fun K hK => ?_); refine ⟨rfl, ?_⟩; apply Exists.intro; refine ⟨fun wz hz => ?_, ?_⟩; (focus (skip; go_simp; (first | done | exact ⟨rfl, rfl⟩ | trivial))); (go_simp; refine hK _ _ ?_; clear hK K))
    (refine lz_one rfl (fun K hK => ?_); refine ⟨rfl, ?_⟩; apply Exists.intro; refine ⟨fun wz hz => ?_, ?_⟩; (focus (skip; go_simp; (first | done | exact ⟨rfl, rfl⟩ | trivial))); (go_simp; refine hK _ _ ?_; clear hK K))
    (refine lz_one rfl (fun K hK => ?_); refine ⟨rfl, ?_⟩; apply Exists.intro; refine ⟨fun wz hz => ?_, ?_⟩; (focus (obtain ⟨b0, b1, b2, -⟩ := (B0.gr hz).trio; go_simp; (first | done | exact ⟨rfl, rfl⟩ | trivial))); (go_simp; refine hK _ _ ?_; clear hK K))
    (refine lz_one rfl (fun K hK => ?_); refine ⟨rfl, ?_⟩; apply Exists.intro; refine ⟨fun wz hz => ?_, ?_⟩; (focus (skip; go_simp; (first | done | exact ⟨rfl, rfl⟩ | trivial))); (go_simp; refine hK _ _ ?_; clear hK K))
    (refine lz_one rfl (fun K hK => ?_); refine ⟨rfl, ?_⟩; apply Exists.intro; refine ⟨fun wz hz => ?_, ?_⟩; (focus (obtain ⟨b0, b1, b2, b3, -⟩ := (B2.gr hz).four; go_simp; (first | done | exact ⟨rfl, rfl⟩ | trivial))); (go_simp; refine hK _ _ ?_; clear hK K))
    (refine lz_one rfl (fun K hK => ?_); refine ⟨rfl, ?_⟩; apply Exists.intro; refine ⟨fun wz hz => ?_, ?_⟩; (focus (skip; go_simp; (first | done | exact ⟨rfl, rfl⟩ | trivial))); (go_simp; refine hK _ _ ?_; clear hK K))
    (refine lz_many _ rfl (fun K hK => ?_); refine ⟨rfl, fun wz hz ha => ?_, fun vz wz hz hf => ?_⟩; (focus (go_simp; exact lg_call hz (HO.out _))); (obtain rfl := hf; clear hz wz; go_simp; refine hK _ _ ?_; clear hK K))
    (refine lz_one rfl (fun K hK => ?_); refine ⟨rfl, ?_⟩; apply Exists.intro; refine ⟨fun wz hz => ?_, ?_⟩; (focus (skip; go_simp; (first | done | exact ⟨rfl, rfl⟩ | trivial))); (go_simp; refine hK _ _ ?_; clear hK K))
    (refine lz_one rfl (fun K hK => ?_); refine ⟨rfl, ?_⟩; apply Exists.intro; refine ⟨fun wz hz => ?_, ?_⟩; (focus (obtain ⟨b0, b1, b2, b3, -⟩ := (B2.gr hz).four; go_simp; (first | done | exact ⟨rfl, rfl⟩ | trivial))); (go_simp; refine hK _ _ ?_; clear hK K))
    (refine lz_many _ rfl (fun K hK => ?_); refine ⟨rfl, fun wz hz ha => ?_, fun vz wz hz hf => ?_⟩; (focus (go_simp; exact lg_call hz ((HB.out _ (hRv.gr hz)).mono fun _ _ h => ⟨h.1, h.2 ▸ Gr.refl _⟩))); (obtain rfl := hf; clear hz wz; go_simp; refine hK _ _ ?_; clear hK K))
    (refine lz_one rfl (fun K hK => ?_); refine ⟨rfl, ?_⟩; apply Exists.intro; refine ⟨fun wz hz => ?_, ?_⟩; (focus (skip; go_simp; (first | done | exact ⟨rfl, rfl⟩ | trivial))); (go_simp; refine hK _ _ ?_; clear hK K))
    (refine lz_one rfl (fun K hK => ?_); refine ⟨rfl, ?_⟩; apply Exists.intro; refine ⟨fun wz hz => ?_, ?_⟩; (focus (skip; go_simp; (first | done | exact ⟨rfl, rfl⟩ | trivial))); (go_simp; refine hK _ _ ?_; clear hK K))
    refine lz_nil ?_
    intro w2 hz hgg
    clear hgg
    clear HB HO hRv
    have G2 := G0.trans hz
    obtain ⟨r0, r1, rf⟩ := (B3.gr hz).two
    have rl := (B3.gr hz).lt
    go_wp2_with fail
    ((try simp only [Exit.inBlock, Exit.then]); refine bodyPost_ret (v := .tuple #[.agg #[.int .i64 (0), .int .i64 (0)], .bool false]) (by simp [results, Tryd.results48, go_sem, r0, r1, World.cell?_setCell_same']) rfl ?_)
    rw [HR.out]
    exact ⟨rfl, Gr.of_below ((G2.below.setCell (by show w.heap.size ≤ w.heap.size + 1 + 1 + 1; omega) _).setCell (by show w.heap.size ≤ w.heap.size + 1 + 1 + 1; omega) _)⟩
set_option maxRecDepth 100000 in
set_option maxHeartbeats 8000000 in
theorem apply_3 (a q s u t : Int) (L : Int) (A B : Option Addr) (n c m d : Nat) (xs ys : List Int) (w : World) (hx : xs.length = n) (hy : ys.length = m) (hn : n ≤ 16777216) (hm : m ≤ 16777216) (hnc : n ≤ c) (hmd : m ≤ d) (hX : Reads w w.heap.size A (xs.map vi)) (hY : Reads w w.heap.size B (ys.map vi)) (hq : sgB a q = true) :
    Calls Tryd.prog 48 #[.agg #[.int .i64 L, .slice A n c, .slice B m d], .agg #[.int .i64 (a), .int .i64 (q)], .agg #[.int .i64 (3), .int .i64 (s), .int .i64 (u), .int .i64 (t)]] w (ApW (apR xs ys (3, s, u, t) a q) w) := by
  obtain ⟨a1, a2, q1, q2⟩ := sg_bd hq
  have HR := Lib.hid (apR_has (xs := xs) (ys := ys) (a := a) (c := q) (mvH_p xs ys 3 s u t (by omega)) (mvN_3 s u t a q))
  have HSt := Lib.hid (fun W => setting_spec q q W)
  obtain ⟨B0, B1, B2, B3, G0⟩ := boxes4 w 42 39 47 39 #[.int .i64 L, .slice A n c, .slice B m d] #[.int .i64 a, .int .i64 q] #[.int .i64 3, .int .i64 s, .int .i64 u, .int .i64 t] #[.int .i64 0, .int .i64 0]
  generalize sgB q q = sb at *
  generalize apR xs ys (3, s, u, t) a q = R at *
  clear hx hy hX hY hq
  go_enter Tryd.func48, Tryd.ntmps48
  go_wp2_with fail
  generalize (((w.alloc (.cells #[.int .i64 L, .slice A n c, .slice B m d] 42)).alloc (.cells #[.int .i64 a, .int .i64 q] 39)).alloc (.cells #[.int .i64 3, .int .i64 s, .int .i64 u, .int .i64 t] 47)).alloc (.cells #[.int .i64 0, .int .i64 0] 39) = v at *
  refine region_grows [] (by kernel_rfl) (by kernel_rfl) ?_
  (refine lz_one rfl (fun K hK => ?_); refine ⟨rfl, ?_⟩; apply Exists.intro; refine ⟨fun wz hz => ?_, ?_⟩; (focus (skip; go_simp; (first | done | exact ⟨rfl, rfl⟩ | trivial))); (go_simp; refine hK _ _ ?_; clear hK K))
  (refine lz_one rfl (fun K hK => ?_); refine ⟨rfl, ?_⟩; apply Exists.intro; refine ⟨fun wz hz => ?_, ?_⟩; (focus (obtain ⟨b0, b1, b2, b3, -⟩ := (B2.gr hz).four; go_simp; (first | done | exact ⟨rfl, rfl⟩ | trivial))); (go_simp; refine hK _ _ ?_; clear hK K))
  (refine lz_one rfl (fun K hK => ?_); refine ⟨rfl, ?_⟩; apply Exists.intro; refine ⟨fun wz hz => ?_, ?_⟩; (focus (skip; go_simp; (first | done | exact ⟨rfl, rfl⟩ | trivial))); (go_simp; refine hK _ _ ?_; clear hK K))
  (refine lz_one rfl (fun K hK => ?_); refine ⟨rfl, ?_⟩; apply Exists.intro; refine ⟨fun wz hz => ?_, ?_⟩; (focus (skip; go_simp; (first | done | exact ⟨rfl, rfl⟩ | trivial))); (go_simp; refine hK _ _ ?_; clear hK K))
  (refine lz_skip (fun K hK => ?_); refine ⟨rfl, ?_⟩; go_simp; refine hK _ _ ?_; clear hK K)
  (refine lz_skip (fun K hK => ?_); refine ⟨rfl, ?_⟩; go_simp; refine hK _ _ ?_; clear hK K)
  (refine lz_skip (fun K hK => ?_); refine ⟨rfl, ?_⟩; go_simp; refine hK _ _ ?_; clear hK K)
  (refine lz_skip (fun K hK => ?_); refine ⟨rfl, ?_⟩; go_simp; refine hK _ _ ?_; clear hK K)
  (refine lz_skip (fun K hK => ?_); refine ⟨rfl, ?_⟩; go_simp; refine hK _ _ ?_; clear hK K)
  (refine lz_skip (fun K hK => ?_); refine ⟨rfl, ?_⟩; go_simp; refine hK _ _ ?_; clear hK K)
  (refine lz_skip (fun K hK => ?_); refine ⟨rfl, ?_⟩; go_simp; refine hK _ _ ?_; clear hK K)
  (refine lz_skip (fun K hK => ?_); refine ⟨rfl, ?_⟩; go_simp; refine hK _ _ ?_; clear hK K)
  (refine lz_skip (fun K hK => ?_); refine ⟨rfl, ?_⟩; go_simp; refine hK _ _ ?_; clear hK K)
  (refine lz_one rfl (fun K hK => ?_); refine ⟨rfl, ?_⟩; apply Exists.intro; refine ⟨fun wz hz => ?_, ?_⟩; (focus (skip; go_simp; (first | done | exact ⟨rfl, rfl⟩ | trivial))); (go_simp; refine hK _ _ ?_; clear hK K))
  refine lz_nil ?_
  intro w2 hz hgg
  clear hgg
  have G2 := G0.trans hz
  have hvs := hz.below.size
  replace B1 := B1.gr hz
  replace B2 := B2.gr hz
  replace B3 := B3.gr hz
  obtain ⟨s0, s1, -⟩ := B1.two
  obtain ⟨m0, m1, m2, m3, -⟩ := B2.four
  have lt3 := B3.lt
  have lt2 := B2.lt
  have lt1 := B1.lt
  have hvw := G0.below.size
  clear hz
  clear B0
  go_wp2_with fail
  have O4 := (Blk.new w2 39 #[.int .i64 q, .int .i64 q])
  have R4 := B3.alloc (.cells #[.int .i64 q, .int .i64 q] 39)
  have h24 : Below w2.heap.size w2 (w2.alloc (.cells #[.int .i64 q, .int .i64 q] 39)) := (Below.refl _ _).alloc (Nat.le_refl _) _
  clear s0 s1 m0 m1 m2 m3 B1 B2 B3
  generalize w2.alloc (.cells #[.int .i64 q, .int .i64 q] 39) = w4 at *
  have h4 := G2.below.trans (h24.mono G2.below.size)
  have hws := G2.below.size
  have hw4 := h4.size
  have HX := Lib.hid (fun wz (hz : CW (w.heap.size + 1 + 1 + 1) (fun wz => ∃ y z, Blk wz (w.heap.size + 1 + 1 + 1) 39 #[y, z]) w4 wz) => (hz.gx.keeps O4 (by omega)).two)
  have hp : ∀ a' b', Gr a' b' → (∃ y z, Blk a' (w.heap.size + 1 + 1 + 1) 39 #[y, z]) → (∃ y z, Blk b' (w.heap.size + 1 + 1 + 1) 39 #[y, z]) := fun a' b' hg ⟨y, z, h⟩ => ⟨y, z, h.gr hg⟩
  refine region_writes 3 (w.heap.size + 1 + 1 + 1) 39 #[.int .i64 q, .int .i64 q] [(2, .bool sb)] (fun wz => ∃ y z, Blk wz (w.heap.size + 1 + 1 + 1) 39 #[y, z]) ⟨_, _, R4⟩ (by kernel_rfl) (by kernel_rfl) ?_
  (refine lz_one rfl (fun K hK => ?_); refine ⟨rfl, ?_⟩; apply Exists.intro; refine ⟨fun wz hz => ?_, ?_⟩; (focus (obtain ⟨o0, o1, -⟩ := HX.out wz hz; go_simp; (first | done | exact ⟨rfl, rfl⟩ | trivial))); (go_simp; refine hK _ _ ?_; clear hK K))
  (refine lz_one rfl (fun K hK => ?_); refine ⟨rfl, ?_⟩; apply Exists.intro; refine ⟨fun wz hz => ?_, ?_⟩; (focus (obtain ⟨o0, o1, -⟩ := HX.out wz hz; go_simp; (first | done | exact ⟨rfl, rfl⟩ | trivial))); (go_simp; refine hK _ _ ?_; clear hK K))
  (refine lz_many _ rfl (fun K hK => ?_); refine ⟨rfl, fun wz hz ha => ?_, fun vz wz hz hf => ?_⟩; (focus (go_simp; exact lw_call (by decide) hp hz (HSt.out _))); (obtain rfl := hf; clear hz wz; go_simp; refine hK _ _ ?_; clear hK K))
  (refine lz_many _ rfl (fun K hK => ?_); refine ⟨rfl, fun wz hz ha => ?_, fun vz wz hz hf => ?_⟩; (focus (obtain ⟨y, z, hB⟩ := hz.at'; obtain ⟨b0, b1, bf⟩ := hB.two; have bl := hB.lt; go_simp; exact lw_store hz (by simp) (((Gx.of (Gr.refl _)).set 0 _).set 1 _) ⟨_, _, (hB.set 0 _).set 1 _⟩ ((hB.set 0 _).set 1 _))); (obtain - := hf; clear hz wz; go_simp; refine hK _ _ ?_; clear hK K))
  (refine lz_one rfl (fun K hK => ?_); refine ⟨rfl, ?_⟩; apply Exists.intro; refine ⟨fun wz hz => ?_, ?_⟩; (focus (skip; go_simp; (first | done | exact ⟨rfl, rfl⟩ | trivial))); (go_simp; refine hK _ _ ?_; clear hK K))
  refine lz_nil ?_
  intro w5 hz hg
  have R5 : Blk w5 (w.heap.size + 1 + 1 + 1) 39 #[.int .i64 q, .int .i64 q] := hg 3
  have h5 := h4.trans (hz.gx.below (B := w.heap.size) (by omega) (by omega))
  obtain ⟨r0, r1, -⟩ := R5.two
  clear hg hz
  go_wp2_with fail
  ((try simp only [Exit.inBlock, Exit.then]); refine bodyPost_ret (v := .tuple #[.agg #[.int .i64 (q), .int .i64 (q)], .bool sb]) (by simp [results, Tryd.results48, go_sem, r0, r1, World.cell?_setCell_same']) rfl ?_)
  rw [HR.out]
  exact ⟨rfl, Gr.of_below h5⟩
set_option maxRecDepth 100000 in
set_option maxHeartbeats 8000000 in
theorem apply_4 (a q s u t : Int) (L : Int) (A B : Option Addr) (n c m d : Nat) (xs ys : List Int) (w : World) (hx : xs.length = n) (hy : ys.length = m) (hn : n ≤ 16777216) (hm : m ≤ 16777216) (hnc : n ≤ c) (hmd : m ≤ d) (hX : Reads w w.heap.size A (xs.map vi)) (hY : Reads w w.heap.size B (ys.map vi)) (hq : sgB a q = true) :
    Calls Tryd.prog 48 #[.agg #[.int .i64 L, .slice A n c, .slice B m d], .agg #[.int .i64 (a), .int .i64 (q)], .agg #[.int .i64 (4), .int .i64 (s), .int .i64 (u), .int .i64 (t)]] w (ApW (apR xs ys (4, s, u, t) a q) w) := by
  obtain ⟨a1, a2, q1, q2⟩ := sg_bd hq
  have HR := Lib.hid (apR_has (xs := xs) (ys := ys) (a := a) (c := q) (mvH_p xs ys 4 s u t (by omega)) (mvN_4 s u t a q))
  have HSt := Lib.hid (fun W => setting_spec (q - 1048576) q W)
  obtain ⟨B0, B1, B2, B3, G0⟩ := boxes4 w 42 39 47 39 #[.int .i64 L, .slice A n c, .slice B m d] #[.int .i64 a, .int .i64 q] #[.int .i64 4, .int .i64 s, .int .i64 u, .int .i64 t] #[.int .i64 0, .int .i64 0]
  generalize sgB (q - 1048576) q = sb at *
  generalize apR xs ys (4, s, u, t) a q = R at *
  clear hx hy hX hY hq
  go_enter Tryd.func48, Tryd.ntmps48
  go_wp2_with fail
  generalize (((w.alloc (.cells #[.int .i64 L, .slice A n c, .slice B m d] 42)).alloc (.cells #[.int .i64 a, .int .i64 q] 39)).alloc (.cells #[.int .i64 4, .int .i64 s, .int .i64 u, .int .i64 t] 47)).alloc (.cells #[.int .i64 0, .int .i64 0] 39) = v at *
  refine region_grows [] (by kernel_rfl) (by kernel_rfl) ?_
  (refine lz_one rfl (fun K hK => ?_); refine ⟨rfl, ?_⟩; apply Exists.intro; refine ⟨fun wz hz => ?_, ?_⟩; (focus (skip; go_simp; (first | done | exact ⟨rfl, rfl⟩ | trivial))); (go_simp; refine hK _ _ ?_; clear hK K))
  (refine lz_one rfl (fun K hK => ?_); refine ⟨rfl, ?_⟩; apply Exists.intro; refine ⟨fun wz hz => ?_, ?_⟩; (focus (obtain ⟨b0, b1, b2, b3, -⟩ := (B2.gr hz).four; go_simp; (first | done | exact ⟨rfl, rfl⟩ | trivial))); (go_simp; refine hK _ _ ?_; clear hK K))
  (refine lz_one rfl (fun K hK => ?_); refine ⟨rfl, ?_⟩; apply Exists.intro; refine ⟨fun wz hz => ?_, ?_⟩; (focus (skip; go_simp; (first | done | exact ⟨rfl, rfl⟩ | trivial))); (go_simp; refine hK _ _ ?_; clear hK K))
  (refine lz_one rfl (fun K hK => ?_); refine ⟨rfl, ?_⟩; apply Exists.intro; refine ⟨fun wz hz => ?_, ?_⟩; (focus (skip; go_simp; (first | done | exact ⟨rfl, rfl⟩ | trivial))); (go_simp; refine hK _ _ ?_; clear hK K))
  (refine lz_skip (fun K hK => ?_); refine ⟨rfl, ?_⟩; go_simp; refine hK _ _ ?_; clear hK K)
  (refine lz_skip (fun K hK => ?_); refine ⟨rfl, ?_⟩; go_simp; refine hK _ _ ?_; clear hK K)
  (refine lz_skip (fun K hK => ?_); refine ⟨rfl, ?_⟩; go_simp; refine hK _ _ ?_; clear hK K)
  (refine lz_skip (fun K hK => ?_); refine ⟨rfl, ?_⟩; go_simp; refine hK _ _ ?_; clear hK K)
  (refine lz_skip (fun K hK => ?_); refine ⟨rfl, ?_⟩; go_simp; refine hK _ _ ?_; clear hK K)
  (refine lz_skip (fun K hK => ?_); refine ⟨rfl, ?_⟩; go_simp; refine hK _ _ ?_; clear hK K)
  (refine lz_skip (fun K hK => ?_); refine ⟨rfl, ?_⟩; go_simp; refine hK _ _ ?_; clear hK K)
  (refine lz_skip (fun K hK => ?_); refine ⟨rfl, ?_⟩; go_simp; refine hK _ _ ?_; clear hK K)
  (refine lz_skip (fun K hK => ?_); refine ⟨rfl, ?_⟩; go_simp; refine hK _ _ ?_; clear hK K)
  (refine lz_one rfl (fun K hK => ?_); refine ⟨rfl, ?_⟩; apply Exists.intro; refine ⟨fun wz hz => ?_, ?_⟩; (focus (skip; go_simp; (first | done | exact ⟨rfl, rfl⟩ | trivial))); (go_simp; refine hK _ _ ?_; clear hK K))
  refine lz_nil ?_
  intro w2 hz hgg
  clear hgg
  have G2 := G0.trans hz
  have hvs := hz.below.size
  replace B1 := B1.gr hz
  replace B2 := B2.gr hz
  replace B3 := B3.gr hz
  obtain ⟨s0, s1, -⟩ := B1.two
  obtain ⟨m0, m1, m2, m3, -⟩ := B2.four
  have lt3 := B3.lt
  have lt2 := B2.lt
  have lt1 := B1.lt
  have hvw := G0.below.size
  clear hz
  clear B0
  go_wp2_with fail
  have O4 := (Blk.new w2 39 #[.int .i64 (q - 1048576), .int .i64 q])
  have R4 := B3.alloc (.cells #[.int .i64 (q - 1048576), .int .i64 q] 39)
  have h24 : Below w2.heap.size w2 (w2.alloc (.cells #[.int .i64 (q - 1048576), .int .i64 q] 39)) := (Below.refl _ _).alloc (Nat.le_refl _) _
  clear s0 s1 m0 m1 m2 m3 B1 B2 B3
  generalize w2.alloc (.cells #[.int .i64 (q - 1048576), .int .i64 q] 39) = w4 at *
  have h4 := G2.below.trans (h24.mono G2.below.size)
  have hws := G2.below.size
  have hw4 := h4.size
  have HX := Lib.hid (fun wz (hz : CW (w.heap.size + 1 + 1 + 1) (fun wz => ∃ y z, Blk wz (w.heap.size + 1 + 1 + 1) 39 #[y, z]) w4 wz) => (hz.gx.keeps O4 (by omega)).two)
  have hp : ∀ a' b', Gr a' b' → (∃ y z, Blk a' (w.heap.size + 1 + 1 + 1) 39 #[y, z]) → (∃ y z, Blk b' (w.heap.size + 1 + 1 + 1) 39 #[y, z]) := fun a' b' hg ⟨y, z, h⟩ => ⟨y, z, h.gr hg⟩
  refine region_writes 3 (w.heap.size + 1 + 1 + 1) 39 #[.int .i64 (q - 1048576), .int .i64 q] [(2, .bool sb)] (fun wz => ∃ y z, Blk wz (w.heap.size + 1 + 1 + 1) 39 #[y, z]) ⟨_, _, R4⟩ (by kernel_rfl) (by kernel_rfl) ?_
  (refine lz_one rfl (fun K hK => ?_); refine ⟨rfl, ?_⟩; apply Exists.intro; refine ⟨fun wz hz => ?_, ?_⟩; (focus (obtain ⟨o0, o1, -⟩ := HX.out wz hz; go_simp; (first | done | exact ⟨rfl, rfl⟩ | trivial))); (go_simp; refine hK _ _ ?_; clear hK K))
  (refine lz_one rfl (fun K hK => ?_); refine ⟨rfl, ?_⟩; apply Exists.intro; refine ⟨fun wz hz => ?_, ?_⟩; (focus (obtain ⟨o0, o1, -⟩ := HX.out wz hz; go_simp; (first | done | exact ⟨rfl, rfl⟩ | trivial))); (go_simp; refine hK _ _ ?_; clear hK K))
  (refine lz_many _ rfl (fun K hK => ?_); refine ⟨rfl, fun wz hz ha => ?_, fun vz wz hz hf => ?_⟩; (focus (go_simp; exact lw_call (by decide) hp hz (HSt.out _))); (obtain rfl := hf; clear hz wz; go_simp; refine hK _ _ ?_; clear hK K))
  (refine lz_many _ rfl (fun K hK => ?_); refine ⟨rfl, fun wz hz ha => ?_, fun vz wz hz hf => ?_⟩; (focus (obtain ⟨y, z, hB⟩ := hz.at'; obtain ⟨b0, b1, bf⟩ := hB.two; have bl := hB.lt; go_simp; exact lw_store hz (by simp) (((Gx.of (Gr.refl _)).set 0 _).set 1 _) ⟨_, _, (hB.set 0 _).set 1 _⟩ ((hB.set 0 _).set 1 _))); (obtain - := hf; clear hz wz; go_simp; refine hK _ _ ?_; clear hK K))
  (refine lz_one rfl (fun K hK => ?_); refine ⟨rfl, ?_⟩; apply Exists.intro; refine ⟨fun wz hz => ?_, ?_⟩; (focus (skip; go_simp; (first | done | exact ⟨rfl, rfl⟩ | trivial))); (go_simp; refine hK _ _ ?_; clear hK K))
  refine lz_nil ?_
  intro w5 hz hg
  have R5 : Blk w5 (w.heap.size + 1 + 1 + 1) 39 #[.int .i64 (q - 1048576), .int .i64 q] := hg 3
  have h5 := h4.trans (hz.gx.below (B := w.heap.size) (by omega) (by omega))
  obtain ⟨r0, r1, -⟩ := R5.two
  clear hg hz
  go_wp2_with fail
  ((try simp only [Exit.inBlock, Exit.then]); refine bodyPost_ret (v := .tuple #[.agg #[.int .i64 ((q - 1048576)), .int .i64 (q)], .bool sb]) (by simp [results, Tryd.results48, go_sem, r0, r1, World.cell?_setCell_same']) rfl ?_)
  rw [HR.out]
  exact ⟨rfl, Gr.of_below h5⟩
set_option maxRecDepth 100000 in
set_option maxHeartbeats 8000000 in
theorem apply_5 (a q s u t : Int) (L : Int) (A B : Option Addr) (n c m d : Nat) (xs ys : List Int) (w : World) (hx : xs.length = n) (hy : ys.length = m) (hn : n ≤ 16777216) (hm : m ≤ 16777216) (hnc : n ≤ c) (hmd : m ≤ d) (hX : Reads w w.heap.size A (xs.map vi)) (hY : Reads w w.heap.size B (ys.map vi)) (hq : sgB a q = true) :
    Calls Tryd.prog 48 #[.agg #[.int .i64 L, .slice A n c, .slice B m d], .agg #[.int .i64 (a), .int .i64 (q)], .agg #[.int .i64 (5), .int .i64 (s), .int .i64 (u), .int .i64 (t)]] w (ApW (apR xs ys (5, s, u, t) a q) w) := by
  obtain ⟨a1, a2, q1, q2⟩ := sg_bd hq
  have HR := Lib.hid (apR_has (xs := xs) (ys := ys) (a := a) (c := q) (mvH_p xs ys 5 s u t (by omega)) (mvN_5 s u t a q))
  have HSt := Lib.hid (fun W => setting_spec a a W)
  obtain ⟨B0, B1, B2, B3, G0⟩ := boxes4 w 42 39 47 39 #[.int .i64 L, .slice A n c, .slice B m d] #[.int .i64 a, .int .i64 q] #[.int .i64 5, .int .i64 s, .int .i64 u, .int .i64 t] #[.int .i64 0, .int .i64 0]
  generalize sgB a a = sb at *
  generalize apR xs ys (5, s, u, t) a q = R at *
  clear hx hy hX hY hq
  go_enter Tryd.func48, Tryd.ntmps48
  go_wp2_with fail
  generalize (((w.alloc (.cells #[.int .i64 L, .slice A n c, .slice B m d] 42)).alloc (.cells #[.int .i64 a, .int .i64 q] 39)).alloc (.cells #[.int .i64 5, .int .i64 s, .int .i64 u, .int .i64 t] 47)).alloc (.cells #[.int .i64 0, .int .i64 0] 39) = v at *
  refine region_grows [] (by kernel_rfl) (by kernel_rfl) ?_
  (refine lz_one rfl (fun K hK => ?_); refine ⟨rfl, ?_⟩; apply Exists.intro; refine ⟨fun wz hz => ?_, ?_⟩; (focus (skip; go_simp; (first | done | exact ⟨rfl, rfl⟩ | trivial))); (go_simp; refine hK _ _ ?_; clear hK K))
  (refine lz_one rfl (fun K hK => ?_); refine ⟨rfl, ?_⟩; apply Exists.intro; refine ⟨fun wz hz => ?_, ?_⟩; (focus (obtain ⟨b0, b1, b2, b3, -⟩ := (B2.gr hz).four; go_simp; (first | done | exact ⟨rfl, rfl⟩ | trivial))); (go_simp; refine hK _ _ ?_; clear hK K))
  (refine lz_one rfl (fun K hK => ?_); refine ⟨rfl, ?_⟩; apply Exists.intro; refine ⟨fun wz hz => ?_, ?_⟩; (focus (skip; go_simp; (first | done | exact ⟨rfl, rfl⟩ | trivial))); (go_simp; refine hK _ _ ?_; clear hK K))
  (refine lz_one rfl (fun K hK => ?_); refine ⟨rfl, ?_⟩; apply Exists.intro; refine ⟨fun wz hz => ?_, ?_⟩; (focus (skip; go_simp; (first | done | exact ⟨rfl, rfl⟩ | trivial))); (go_simp; refine hK _ _ ?_; clear hK K))
  (refine lz_skip (fun K hK => ?_); refine ⟨rfl, ?_⟩; go_simp; refine hK _ _ ?_; clear hK K)
  (refine lz_skip (fun K hK => ?_); refine ⟨rfl, ?_⟩; go_simp; refine hK _ _ ?_; clear hK K)
  (refine lz_skip (fun K hK => ?_); refine ⟨rfl, ?_⟩; go_simp; refine hK _ _ ?_; clear hK K)
  (refine lz_skip (fun K hK => ?_); refine ⟨rfl, ?_⟩; go_simp; refine hK _ _ ?_; clear hK K)
  (refine lz_skip (fun K hK => ?_); refine ⟨rfl, ?_⟩; go_simp; refine hK _ _ ?_; clear hK K)
  (refine lz_skip (fun K hK => ?_); refine ⟨rfl, ?_⟩; go_simp; refine hK _ _ ?_; clear hK K)
  (refine lz_skip (fun K hK => ?_); refine ⟨rfl, ?_⟩; go_simp; refine hK _ _ ?_; clear hK K)
  (refine lz_skip (fun K hK => ?_); refine ⟨rfl, ?_⟩; go_simp; refine hK _ _ ?_; clear hK K)
  (refine lz_skip (fun K hK => ?_); refine ⟨rfl, ?_⟩; go_simp; refine hK _ _ ?_; clear hK K)
  (refine lz_one rfl (fun K hK => ?_); refine ⟨rfl, ?_⟩; apply Exists.intro; refine ⟨fun wz hz => ?_, ?_⟩; (focus (skip; go_simp; (first | done | exact ⟨rfl, rfl⟩ | trivial))); (go_simp; refine hK _ _ ?_; clear hK K))
  refine lz_nil ?_
  intro w2 hz hgg
  clear hgg
  have G2 := G0.trans hz
  have hvs := hz.below.size
  replace B1 := B1.gr hz
  replace B2 := B2.gr hz
  replace B3 := B3.gr hz
  obtain ⟨s0, s1, -⟩ := B1.two
  obtain ⟨m0, m1, m2, m3, -⟩ := B2.four
  have lt3 := B3.lt
  have lt2 := B2.lt
  have lt1 := B1.lt
  have hvw := G0.below.size
  clear hz
  clear B0
  go_wp2_with fail
  have O4 := (Blk.new w2 39 #[.int .i64 a, .int .i64 a])
  have R4 := B3.alloc (.cells #[.int .i64 a, .int .i64 a] 39)
  have h24 : Below w2.heap.size w2 (w2.alloc (.cells #[.int .i64 a, .int .i64 a] 39)) := (Below.refl _ _).alloc (Nat.le_refl _) _
  clear s0 s1 m0 m1 m2 m3 B1 B2 B3
  generalize w2.alloc (.cells #[.int .i64 a, .int .i64 a] 39) = w4 at *
  have h4 := G2.below.trans (h24.mono G2.below.size)
  have hws := G2.below.size
  have hw4 := h4.size
  have HX := Lib.hid (fun wz (hz : CW (w.heap.size + 1 + 1 + 1) (fun wz => ∃ y z, Blk wz (w.heap.size + 1 + 1 + 1) 39 #[y, z]) w4 wz) => (hz.gx.keeps O4 (by omega)).two)
  have hp : ∀ a' b', Gr a' b' → (∃ y z, Blk a' (w.heap.size + 1 + 1 + 1) 39 #[y, z]) → (∃ y z, Blk b' (w.heap.size + 1 + 1 + 1) 39 #[y, z]) := fun a' b' hg ⟨y, z, h⟩ => ⟨y, z, h.gr hg⟩
  refine region_writes 3 (w.heap.size + 1 + 1 + 1) 39 #[.int .i64 a, .int .i64 a] [(2, .bool sb)] (fun wz => ∃ y z, Blk wz (w.heap.size + 1 + 1 + 1) 39 #[y, z]) ⟨_, _, R4⟩ (by kernel_rfl) (by kernel_rfl) ?_
  (refine lz_one rfl (fun K hK => ?_); refine ⟨rfl, ?_⟩; apply Exists.intro; refine ⟨fun wz hz => ?_, ?_⟩; (focus (obtain ⟨o0, o1, -⟩ := HX.out wz hz; go_simp; (first | done | exact ⟨rfl, rfl⟩ | trivial))); (go_simp; refine hK _ _ ?_; clear hK K))
  (refine lz_one rfl (fun K hK => ?_); refine ⟨rfl, ?_⟩; apply Exists.intro; refine ⟨fun wz hz => ?_, ?_⟩; (focus (obtain ⟨o0, o1, -⟩ := HX.out wz hz; go_simp; (first | done | exact ⟨rfl, rfl⟩ | trivial))); (go_simp; refine hK _ _ ?_; clear hK K))
  (refine lz_many _ rfl (fun K hK => ?_); refine ⟨rfl, fun wz hz ha => ?_, fun vz wz hz hf => ?_⟩; (focus (go_simp; exact lw_call (by decide) hp hz (HSt.out _))); (obtain rfl := hf; clear hz wz; go_simp; refine hK _ _ ?_; clear hK K))
  (refine lz_many _ rfl (fun K hK => ?_); refine ⟨rfl, fun wz hz ha => ?_, fun vz wz hz hf => ?_⟩; (focus (obtain ⟨y, z, hB⟩ := hz.at'; obtain ⟨b0, b1, bf⟩ := hB.two; have bl := hB.lt; go_simp; exact lw_store hz (by simp) (((Gx.of (Gr.refl _)).set 0 _).set 1 _) ⟨_, _, (hB.set 0 _).set 1 _⟩ ((hB.set 0 _).set 1 _))); (obtain - := hf; clear hz wz; go_simp; refine hK _ _ ?_; clear hK K))
  (refine lz_one rfl (fun K hK => ?_); refine ⟨rfl, ?_⟩; apply Exists.intro; refine ⟨fun wz hz => ?_, ?_⟩; (focus (skip; go_simp; (first | done | exact ⟨rfl, rfl⟩ | trivial))); (go_simp; refine hK _ _ ?_; clear hK K))
  refine lz_nil ?_
  intro w5 hz hg
  have R5 : Blk w5 (w.heap.size + 1 + 1 + 1) 39 #[.int .i64 a, .int .i64 a] := hg 3
  have h5 := h4.trans (hz.gx.below (B := w.heap.size) (by omega) (by omega))
  obtain ⟨r0, r1, -⟩ := R5.two
  clear hg hz
  go_wp2_with fail
  ((try simp only [Exit.inBlock, Exit.then]); refine bodyPost_ret (v := .tuple #[.agg #[.int .i64 (a), .int .i64 (a)], .bool sb]) (by simp [results, Tryd.results48, go_sem, r0, r1, World.cell?_setCell_same']) rfl ?_)
  rw [HR.out]
  exact ⟨rfl, Gr.of_below h5⟩
set_option maxRecDepth 100000 in
set_option maxHeartbeats 8000000 in
theorem apply_6 (a q s u t : Int) (L : Int) (A B : Option Addr) (n c m d : Nat) (xs ys : List Int) (w : World) (hx : xs.length = n) (hy : ys.length = m) (hn : n ≤ 16777216) (hm : m ≤ 16777216) (hnc : n ≤ c) (hmd : m ≤ d) (hX : Reads w w.heap.size A (xs.map vi)) (hY : Reads w w.heap.size B (ys.map vi)) (hq : sgB a q = true) :
    Calls Tryd.prog 48 #[.agg #[.int .i64 L, .slice A n c, .slice B m d], .agg #[.int .i64 (a), .int .i64 (q)], .agg #[.int .i64 (6), .int .i64 (s), .int .i64 (u), .int .i64 (t)]] w (ApW (apR xs ys (6, s, u, t) a q) w) := by
  obtain ⟨a1, a2, q1, q2⟩ := sg_bd hq
  have HR := Lib.hid (apR_has (xs := xs) (ys := ys) (a := a) (c := q) (mvH_p xs ys 6 s u t (by omega)) (mvN_6 s u t a q))
  have HSt := Lib.hid (fun W => setting_spec a (a + 1048576) W)
  obtain ⟨B0, B1, B2, B3, G0⟩ := boxes4 w 42 39 47 39 #[.int .i64 L, .slice A n c, .slice B m d] #[.int .i64 a, .int .i64 q] #[.int .i64 6, .int .i64 s, .int .i64 u, .int .i64 t] #[.int .i64 0, .int .i64 0]
  generalize sgB a (a + 1048576) = sb at *
  generalize apR xs ys (6, s, u, t) a q = R at *
  clear hx hy hX hY hq
  go_enter Tryd.func48, Tryd.ntmps48
  go_wp2_with fail
  generalize (((w.alloc (.cells #[.int .i64 L, .slice A n c, .slice B m d] 42)).alloc (.cells #[.int .i64 a, .int .i64 q] 39)).alloc (.cells #[.int .i64 6, .int .i64 s, .int .i64 u, .int .i64 t] 47)).alloc (.cells #[.int .i64 0, .int .i64 0] 39) = v at *
  refine region_grows [] (by kernel_rfl) (by kernel_rfl) ?_
  (refine lz_one rfl (fun K hK => ?_); refine ⟨rfl, ?_⟩; apply Exists.intro; refine ⟨fun wz hz => ?_, ?_⟩; (focus (skip; go_simp; (first | done | exact ⟨rfl, rfl⟩ | trivial))); (go_simp; refine hK _ _ ?_; clear hK K))
  (refine lz_one rfl (fun K hK => ?_); refine ⟨rfl, ?_⟩; apply Exists.intro; refine ⟨fun wz hz => ?_, ?_⟩; (focus (obtain ⟨b0, b1, b2, b3, -⟩ := (B2.gr hz).four; go_simp; (first | done | exact ⟨rfl, rfl⟩ | trivial))); (go_simp; refine hK _ _ ?_; clear hK K))
  (refine lz_one rfl (fun K hK => ?_); refine ⟨rfl, ?_⟩; apply Exists.intro; refine ⟨fun wz hz => ?_, ?_⟩; (focus (skip; go_simp; (first | done | exact ⟨rfl, rfl⟩ | trivial))); (go_simp; refine hK _ _ ?_; clear hK K))
  (refine lz_one rfl (fun K hK => ?_); refine ⟨rfl, ?_⟩; apply Exists.intro; refine ⟨fun wz hz => ?_, ?_⟩; (focus (skip; go_simp; (first | done | exact ⟨rfl, rfl⟩ | trivial))); (go_simp; refine hK _ _ ?_; clear hK K))
  (refine lz_skip (fun K hK => ?_); refine ⟨rfl, ?_⟩; go_simp; refine hK _ _ ?_; clear hK K)
  (refine lz_skip (fun K hK => ?_); refine ⟨rfl, ?_⟩; go_simp; refine hK _ _ ?_; clear hK K)
  (refine lz_skip (fun K hK => ?_); refine ⟨rfl, ?_⟩; go_simp; refine hK _ _ ?_; clear hK K)
  (refine lz_skip (fun K hK => ?_); refine ⟨rfl, ?_⟩; go_simp; refine hK _ _ ?_; clear hK K)
  (refine lz_skip (fun K hK => ?_); refine ⟨rfl, ?_⟩; go_simp; refine hK _ _ ?_; clear hK K)
  (refine lz_skip (fun K hK => ?_); refine ⟨rfl, ?_⟩; go_simp; refine hK _ _ ?_; clear hK K)
  (refine lz_skip (fun K hK => ?_); refine ⟨rfl, ?_⟩; go_simp; refine hK _ _ ?_; clear hK K)
  (refine lz_skip (fun K hK => ?_); refine ⟨rfl, ?_⟩; go_simp; refine hK _ _ ?_; clear hK K)
  (refine lz_skip (fun K hK => ?_); refine ⟨rfl, ?_⟩; go_simp; refine hK _ _ ?_; clear hK K)
  (refine lz_one rfl (fun K hK => ?_); refine ⟨rfl, ?_⟩; apply Exists.intro; refine ⟨fun wz hz => ?_, ?_⟩; (focus (skip; go_simp; (first | done | exact ⟨rfl, rfl⟩ | trivial))); (go_simp; refine hK _ _ ?_; clear hK K))
  refine lz_nil ?_
  intro w2 hz hgg
  clear hgg
  have G2 := G0.trans hz
  have hvs := hz.below.size
  replace B1 := B1.gr hz
  replace B2 := B2.gr hz
  replace B3 := B3.gr hz
  obtain ⟨s0, s1, -⟩ := B1.two
  obtain ⟨m0, m1, m2, m3, -⟩ := B2.four
  have lt3 := B3.lt
  have lt2 := B2.lt
  have lt1 := B1.lt
  have hvw := G0.below.size
  clear hz
  clear B0
  go_wp2_with fail
  have O4 := (Blk.new w2 39 #[.int .i64 a, .int .i64 (a + 1048576)])
  have R4 := B3.alloc (.cells #[.int .i64 a, .int .i64 (a + 1048576)] 39)
  have h24 : Below w2.heap.size w2 (w2.alloc (.cells #[.int .i64 a, .int .i64 (a + 1048576)] 39)) := (Below.refl _ _).alloc (Nat.le_refl _) _
  clear s0 s1 m0 m1 m2 m3 B1 B2 B3
  generalize w2.alloc (.cells #[.int .i64 a, .int .i64 (a + 1048576)] 39) = w4 at *
  have h4 := G2.below.trans (h24.mono G2.below.size)
  have hws := G2.below.size
  have hw4 := h4.size
  have HX := Lib.hid (fun wz (hz : CW (w.heap.size + 1 + 1 + 1) (fun wz => ∃ y z, Blk wz (w.heap.size + 1 + 1 + 1) 39 #[y, z]) w4 wz) => (hz.gx.keeps O4 (by omega)).two)
  have hp : ∀ a' b', Gr a' b' → (∃ y z, Blk a' (w.heap.size + 1 + 1 + 1) 39 #[y, z]) → (∃ y z, Blk b' (w.heap.size + 1 + 1 + 1) 39 #[y, z]) := fun a' b' hg ⟨y, z, h⟩ => ⟨y, z, h.gr hg⟩
  refine region_writes 3 (w.heap.size + 1 + 1 + 1) 39 #[.int .i64 a, .int .i64 (a + 1048576)] [(2, .bool sb)] (fun wz => ∃ y z, Blk wz (w.heap.size + 1 + 1 + 1) 39 #[y, z]) ⟨_, _, R4⟩ (by kernel_rfl) (by kernel_rfl) ?_
  (refine lz_one rfl (fun K hK => ?_); refine ⟨rfl, ?_⟩; apply Exists.intro; refine ⟨fun wz hz => ?_, ?_⟩; (focus (obtain ⟨o0, o1, -⟩ := HX.out wz hz; go_simp; (first | done | exact ⟨rfl, rfl⟩ | trivial))); (go_simp; refine hK _ _ ?_; clear hK K))
  (refine lz_one rfl (fun K hK => ?_); refine ⟨rfl, ?_⟩; apply Exists.intro; refine ⟨fun wz hz => ?_, ?_⟩; (focus (obtain ⟨o0, o1, -⟩ := HX.out wz hz; go_simp; (first | done | exact ⟨rfl, rfl⟩ | trivial))); (go_simp; refine hK _ _ ?_; clear hK K))
  (refine lz_many _ rfl (fun K hK => ?_); refine ⟨rfl, fun wz hz ha => ?_, fun vz wz hz hf => ?_⟩; (focus (go_simp; exact lw_call (by decide) hp hz (HSt.out _))); (obtain rfl := hf; clear hz wz; go_simp; refine hK _ _ ?_; clear hK K))
  (refine lz_many _ rfl (fun K hK => ?_); refine ⟨rfl, fun wz hz ha => ?_, fun vz wz hz hf => ?_⟩; (focus (obtain ⟨y, z, hB⟩ := hz.at'; obtain ⟨b0, b1, bf⟩ := hB.two; have bl := hB.lt; go_simp; exact lw_store hz (by simp) (((Gx.of (Gr.refl _)).set 0 _).set 1 _) ⟨_, _, (hB.set 0 _).set 1 _⟩ ((hB.set 0 _).set 1 _))); (obtain - := hf; clear hz wz; go_simp; refine hK _ _ ?_; clear hK K))
  (refine lz_one rfl (fun K hK => ?_); refine ⟨rfl, ?_⟩; apply Exists.intro; refine ⟨fun wz hz => ?_, ?_⟩; (focus (skip; go_simp; (first | done | exact ⟨rfl, rfl⟩ | trivial))); (go_simp; refine hK _ _ ?_; clear hK K))
  refine lz_nil ?_
  intro w5 hz hg
  have R5 : Blk w5 (w.heap.size + 1 + 1 + 1) 39 #[.int .i64 a, .int .i64 (a + 1048576)] := hg 3
  have h5 := h4.trans (hz.gx.below (B := w.heap.size) (by omega) (by omega))
  obtain ⟨r0, r1, -⟩ := R5.two
  clear hg hz
  go_wp2_with fail
  ((try simp only [Exit.inBlock, Exit.then]); refine bodyPost_ret (v := .tuple #[.agg #[.int .i64 (a), .int .i64 ((a + 1048576))], .bool sb]) (by simp [results, Tryd.results48, go_sem, r0, r1, World.cell?_setCell_same']) rfl ?_)
  rw [HR.out]
  exact ⟨rfl, Gr.of_below h5⟩
theorem apply_spec (k a q s u t : Int) (L : Int) (A B : Option Addr) (n c m d : Nat) (xs ys : List Int) (w : World) (hx : xs.length = n) (hy : ys.length = m) (hn : n ≤ 16777216) (hm : m ≤ 16777216) (hnc : n ≤ c) (hmd : m ≤ d) (hX : Reads w w.heap.size A (xs.map vi)) (hY : Reads w w.heap.size B (ys.map vi)) (hv : mvB (k, s, u, t) = true) (hq : sgB a q = true) :
    Calls Tryd.prog 48 #[.agg #[.int .i64 L, .slice A n c, .slice B m d], .agg #[.int .i64 (a), .int .i64 (q)], .agg #[.int .i64 (k), .int .i64 (s), .int .i64 (u), .int .i64 (t)]] w (ApW (apR xs ys (k, s, u, t) a q) w) := by
  rcases mvB_cases hv with ⟨hk, h1, h2⟩ | ⟨hk, -, -, -⟩
  · rcases hk with rfl | rfl | rfl
    · exact apply_0 a q s u t L A B n c m d xs ys w hx hy hn hm hnc hmd hX hY ⟨h1, h2⟩ hq
    · exact apply_1 a q s u t L A B n c m d xs ys w hx hy hn hm hnc hmd hX hY ⟨h1, h2⟩ hq
    · exact apply_2 a q s u t L A B n c m d xs ys w hx hy hn hm hnc hmd hX hY ⟨h1, h2⟩ hq
  · rcases hk with rfl | rfl | rfl | rfl
    · exact apply_3 a q s u t L A B n c m d xs ys w hx hy hn hm hnc hmd hX hY hq
    · exact apply_4 a q s u t L A B n c m d xs ys w hx hy hn hm hnc hmd hX hY hq
    · exact apply_5 a q s u t L A B n c m d xs ys w hx hy hn hm hnc hmd hX hY hq
    · exact apply_6 a q s u t L A B n c m d xs ys w hx hy hn hm hnc hmd hX hY hq
end Go.Proofs.YtefhhigcplemaaaDoor
