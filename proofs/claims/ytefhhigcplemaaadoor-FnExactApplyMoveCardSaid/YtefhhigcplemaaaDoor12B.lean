/- Plain mathematics, merged. -/
import Derived.Test.YtefhhigcplemaaaDoor12A
import Derived.Test.YtefhhigcplemaaaDoor11B
import Derived.Test.YtefhhigcplemaaaDoorLm
import Derived.Test.YtefhhigcplemaaaDoorC11c
import Derived.Test.YtefhhigcplemaaaDoorMG
import Derived.Test.YtefhhigcplemaaaDoor1A
/- Contracts of chapter 12: what a move does, in the model. (Written by laws/gen_C12c.py.) -/
namespace Go.Proofs.YtefhhigcplemaaaDoor
open Go.RowKit
set_option linter.unusedVariables false
set_option linter.unusedSimpArgs false

/-- What the model's l12Apply answers. -/
def apR (xs ys : List Int) (m : Mv) (a c : Int) : (Int × Int) × Bool := if mvH xs ys m = true then (mvN m a c, sgB (mvN m a c).1 (mvN m a c).2) else ((0, 0), false)
theorem apR_snd (xs ys : List Int) (m : Mv) (a c : Int) : (apR xs ys m a c).2 = mvO xs ys m a c := by
  unfold apR mvO
  cases mvH xs ys m <;> simp
theorem apR_yes {xs ys : List Int} {m : Mv} {a c : Int} (h : mvO xs ys m a c = true) : (apR xs ys m a c).1 = mvN m a c := by
  unfold mvO at h
  rw [Bool.and_eq_true] at h
  unfold apR
  rw [if_pos h.1]
theorem apR_has {xs ys : List Int} {m : Mv} {a c x y : Int} (h : mvH xs ys m = true) (e : mvN m a c = (x, y)) : apR xs ys m a c = ((x, y), sgB x y) := by unfold apR; rw [if_pos h, e]
theorem apR_not {xs ys : List Int} {m : Mv} {a c : Int} (h : mvH xs ys m = false) : apR xs ys m a c = ((0, 0), false) := by unfold apR; rw [if_neg (by rw [h]; simp)]
theorem boxes4 (w : World) (T U V X : TypeId) (a b c d : Array Value) : Blk ((((w.alloc (.cells a T)).alloc (.cells b U)).alloc (.cells c V)).alloc (.cells d X)) w.heap.size T a ∧ Blk ((((w.alloc (.cells a T)).alloc (.cells b U)).alloc (.cells c V)).alloc (.cells d X)) (w.heap.size + 1) U b ∧
    Blk ((((w.alloc (.cells a T)).alloc (.cells b U)).alloc (.cells c V)).alloc (.cells d X)) (w.heap.size + 1 + 1) V c ∧ Blk ((((w.alloc (.cells a T)).alloc (.cells b U)).alloc (.cells c V)).alloc (.cells d X)) (w.heap.size + 1 + 1 + 1) X d ∧ Gr w ((((w.alloc (.cells a T)).alloc (.cells b U)).alloc (.cells c V)).alloc (.cells d X)) := by
  have B0 := (((Blk.new w T a).alloc (.cells b U)).alloc (.cells c V)).alloc (.cells d X)
  have B1 := ((Blk.new (w.alloc (.cells a T)) U b).alloc (.cells c V)).alloc (.cells d X)
  have B2 := (Blk.new ((w.alloc (.cells a T)).alloc (.cells b U)) V c).alloc (.cells d X)
  have B3 := Blk.new (((w.alloc (.cells a T)).alloc (.cells b U)).alloc (.cells c V)) X d
  rw [World.size_alloc] at B1
  rw [World.size_alloc, World.size_alloc] at B2
  rw [World.size_alloc, World.size_alloc, World.size_alloc] at B3
  exact ⟨B0, B1, B2, B3, (by repeat (first | with_reducible exact Gr.refl _ | with_reducible refine Gr.alloc ?_ _ | with_reducible refine Gr.gr ?_ _ _ | with_reducible refine Gr.drew ?_ | with_reducible refine Gr.drewN ?_ _))⟩
theorem sg_bd {a c : Int} (h : sgB a c = true) : -1048576 ≤ a ∧ a ≤ 1048576 ∧ 0 ≤ c ∧ c ≤ 1048576 := by
  have := (sgB_iff a c).1 h; omega
/-- What l12Apply leaves. -/
def ApW (v : (Int × Int) × Bool) (w : World) (e : Ending) (w' : World) : Prop := e = .returned (.tuple #[.agg #[.int .i64 (v.1.1), .int .i64 (v.1.2)], .bool v.2]) ∧ Gr w w'

set_option maxRecDepth 100000 in
set_option maxHeartbeats 8000000 in
theorem apply_0 (a q s u t : Int) (L : Int) (A B : Option Addr) (n c m d : Nat) (xs ys : List Int) (w : World) (hx : xs.length = n) (hy : ys.length = m) (hn : n ≤ 16777216) (hm : m ≤ 16777216) (hnc : n ≤ c) (hmd : m ≤ d) (hX : Reads w w.heap.size A (xs.map vi)) (hY : Reads w w.heap.size B (ys.map vi)) (hv : lsc s = true ∧ fg u t = true) (hq : sgB a q = true) :
    Calls Tryd.prog 48 #[.agg #[.int .i64 L, .slice A n c, .slice B m d], .agg #[.int .i64 (a), .int .i64 (q)], .agg #[.int .i64 (0), .int .i64 (s), .int .i64 (u), .int .i64 (t)]] w (ApW (apR xs ys (0, s, u, t) a q) w) := by
  obtain ⟨a1, a2, q1, q2⟩ := sg_bd hq
  have HO := Lib.hid (fun W => on_spec false L A B n c m d xs ys W)
  have HA := Lib.hid (fun W h => has_spec A n c xs s W hx hn h)
  have RX := Lib.hid hX
  have HCu := Lib.hid (fun W => cursor11_spec a q false s u t W hv.2 (lsc_sc s hv.1) ⟨a1, a2⟩)
  rw [stP_f, Int.zero_add] at HCu
  have hpb := pnt_bd s u t hv.2
  have HRy := Lib.hid (fun h => apR_has (xs := xs) (ys := ys) (a := a) (c := q) h (mvN_0 s u t a q))
  have HRn := Lib.hid (fun h => apR_not (xs := xs) (ys := ys) (m := (0, s, u, t)) (a := a) (c := q) h)
  rw [mvH_0] at HRy HRn
  generalize pnt s u t = pn at *
  have HSt := Lib.hid (fun W => setting_spec a pn W)
  obtain ⟨B0, B1, B2, B3, G0⟩ := boxes4 w 42 39 47 39 #[.int .i64 L, .slice A n c, .slice B m d] #[.int .i64 a, .int .i64 q] #[.int .i64 0, .int .i64 s, .int .i64 u, .int .i64 t] #[.int .i64 0, .int .i64 0]
  generalize apR xs ys (0, s, u, t) a q = R at *
  clear hx hy hX hY hq hv
  rcases hasI_tf xs s with hs | hs
  · have HR := Lib.hid (HRy.out hs)
    rw [hs] at HA
    generalize sgB a pn = sb at *
    clear HRy HRn hs
    go_enter Tryd.func48, Tryd.ntmps48
    go_wp2_with fail
    generalize (((w.alloc (.cells #[.int .i64 L, .slice A n c, .slice B m d] 42)).alloc (.cells #[.int .i64 a, .int .i64 q] 39)).alloc (.cells #[.int .i64 0, .int .i64 s, .int .i64 u, .int .i64 t] 47)).alloc (.cells #[.int .i64 0, .int .i64 0] 39) = v at *
    have hRv := RX.out.gr G0
    refine region_grows [(8, .is (.slice A n c)), (11, .is (.bool true))] (by kernel_rfl) (by kernel_rfl) ?_
    (refine lz_one rfl (fun K hK => ?_); refine ⟨rfl, ?_⟩; apply Exists.intro; refine ⟨fun wz hz => ?_, ?_⟩; (focus (skip; go_simp; (first | done | exact ⟨rfl, rfl⟩ | trivial))); (go_simp; refine hK _ _ ?_; clear hK K))
    (refine lz_one rfl (fun K hK => ?_); refine ⟨rfl, ?_⟩; apply Exists.intro; refine ⟨fun wz hz => ?_, ?_⟩; (focus (obtain ⟨b0, b1, b2, b3, -⟩ := (B2.gr hz).four; go_simp; (first | done | exact ⟨rfl, rfl⟩ | trivial))); (go_simp; refine hK _ _ ?_; clear hK K))
    (refine lz_one rfl (fun K hK => ?_); refine ⟨rfl, ?_⟩; apply Exists.intro; refine ⟨fun wz hz => ?_, ?_⟩; (focus (skip; go_simp; (first | done | exact ⟨rfl, rfl⟩ | trivial))); (go_simp; refine hK _ _ ?_; clear hK K))
    (refine lz_one rfl (fun K hK => ?_); refine ⟨rfl, ?_⟩; apply Exists.intro; refine ⟨fun wz hz => ?_, ?_⟩; (focus (skip; go_simp; (first | done | exact ⟨rfl, rfl⟩ | trivial))); (go_simp; refine hK _ _ ?_; clear hK K))
    (refine lz_one rfl (fun K hK => ?_); refine ⟨rfl, ?_⟩; apply Exists.intro; refine ⟨fun wz hz => ?_, ?_⟩; (focus (obtain ⟨b0, b1, b2, -⟩ := (B0.gr hz).trio; go_simp; (first | done | exact ⟨rfl, rfl⟩ | trivial))); (go_simp; refine hK _ _ ?_; clear hK K))
    (refine lz_one rfl (fun K hK => ?_); refine ⟨rfl, ?_⟩; apply Exists.intro; refine ⟨fun wz hz => ?_, ?_⟩; (focus (skip; go_simp; (first | done | exact ⟨rfl, rfl⟩ | trivial))); (go_simp; refine hK _ _ ?_; clear hK K))
    (refine lz_one rfl (fun K hK => ?_); refine ⟨rfl, ?_⟩; apply Exists.intro; refine ⟨fun wz hz => ?_, ?_⟩; (focus (obtain ⟨b0, b1, b2, b3, -⟩ := (B2.gr hz).four; go_simp; (first | done | exact ⟨rfl, rfl⟩ | trivial))); (go_simp; refine hK _ _ ?_; clear hK K))
    (refine lz_one rfl (fun K hK => ?_); refine ⟨rfl, ?_⟩; apply Exists.intro; refine ⟨fun wz hz => ?_, ?_⟩; (focus (skip; go_simp; (first | done | exact ⟨rfl, rfl⟩ | trivial))); (go_simp; refine hK _ _ ?_; clear hK K))
    (refine lz_many _ rfl (fun K hK => ?_); refine ⟨rfl, fun wz hz ha => ?_, fun vz wz hz hf => ?_⟩; (focus (go_simp; exact lg_call hz (HO.out _))); (obtain rfl := hf; clear hz wz; go_simp; refine hK _ _ ?_; clear hK K))
    (refine lz_one rfl (fun K hK => ?_); refine ⟨rfl, ?_⟩; apply Exists.intro; refine ⟨fun wz hz => ?_, ?_⟩; (focus (skip; go_simp; (first | done | exact ⟨rfl, rfl⟩ | trivial))); (go_simp; refine hK _ _ ?_; clear hK K))
    (refine lz_one rfl (fun K hK => ?_); refine ⟨rfl, ?_⟩; apply Exists.intro; refine ⟨fun wz hz => ?_, ?_⟩; (focus (obtain ⟨b0, b1, b2, b3, -⟩ := (B2.gr hz).four; go_simp; (first | done | exact ⟨rfl, rfl⟩ | trivial))); (go_simp; refine hK _ _ ?_; clear hK K))
    (refine lz_many _ rfl (fun K hK => ?_); refine ⟨rfl, fun wz hz ha => ?_, fun vz wz hz hf => ?_⟩; (focus (go_simp; exact lg_call hz ((HA.out _ (hRv.gr hz)).mono fun _ _ h => ⟨h.1, h.2 ▸ Gr.refl _⟩))); (obtain rfl := hf; clear hz wz; go_simp; refine hK _ _ ?_; clear hK K))
    (refine lz_one rfl (fun K hK => ?_); refine ⟨rfl, ?_⟩; apply Exists.intro; refine ⟨fun wz hz => ?_, ?_⟩; (focus (skip; go_simp; (first | done | exact ⟨rfl, rfl⟩ | trivial))); (go_simp; refine hK _ _ ?_; clear hK K))
    (refine lz_one rfl (fun K hK => ?_); refine ⟨rfl, ?_⟩; apply Exists.intro; refine ⟨fun wz hz => ?_, ?_⟩; (focus (skip; go_simp; (first | done | exact ⟨rfl, rfl⟩ | trivial))); (go_simp; refine hK _ _ ?_; clear hK K))
    refine lz_nil ?_
    intro w2 hz hgg
    clear hgg
    clear HA HO hRv RX
    have G2 := G0.trans hz
    have hvs := hz.below.size
    replace B1 := B1.gr hz
    replace B2 := B2.gr hz
    replace B3 := B3.gr hz
    obtain ⟨s0, s1, -⟩ := B1.two
    obtain ⟨m0, m1, m2, m3, -⟩ := B2.four
    have lt3 := B3.lt
    have lt2 := B2.lt
    have lt1 := B1.lt
    have hvw := G0.below.size
    clear hz
    go_wp2_with (go_at_call 72; refine (HCu.out _).mono ?_; rintro e w3 ⟨rfl, hg3⟩; have O3 := (Blk.new w2 39 #[.int .i64 a, .int .i64 q]).gr hg3; obtain ⟨o0, o1, of⟩ := O3.two; have ol := O3.lt)
    have R3 := (B3.alloc (.cells #[.int .i64 a, .int .i64 q] 39)).gr hg3
    have O4 := (O3.set 0 (.int .i64 a)).set 1 (.int .i64 pn)
    have R4 := (R3.far (a := ⟨w2.heap.size, 0, none⟩) (by show w2.heap.size ≠ _; omega) (.int .i64 a)).far (a := ⟨w2.heap.size, 1, none⟩) (by show w2.heap.size ≠ _; omega) (.int .i64 pn)
    have h24 : Below w2.heap.size w2 ((w3.setCell ⟨w2.heap.size, 0, none⟩ (.int .i64 a)).setCell ⟨w2.heap.size, 1, none⟩ (.int .i64 pn)) := (((Below.refl _ _).alloc (Nat.le_refl _) _).trans (hg3.below.mono (by simp))).setCell (Nat.le_refl _) _ |>.setCell (Nat.le_refl _) _
    clear s0 s1 m0 m1 m2 m3 o0 o1 of ol O3 R3 B1 B2 B3 hg3
    generalize (w3.setCell ⟨w2.heap.size, 0, none⟩ (.int .i64 a)).setCell ⟨w2.heap.size, 1, none⟩ (.int .i64 pn) = w4 at *
    have h4 := G2.below.trans (h24.mono G2.below.size)
    have hws := G2.below.size
    have hw4 := h4.size
    have HX := Lib.hid (fun wz (hz : CW (w.heap.size + 1 + 1 + 1) (fun wz => ∃ y z, Blk wz (w.heap.size + 1 + 1 + 1) 39 #[y, z]) w4 wz) => (hz.gx.keeps O4 (by omega)).two)
    have hp : ∀ a' b', Gr a' b' → (∃ y z, Blk a' (w.heap.size + 1 + 1 + 1) 39 #[y, z]) → (∃ y z, Blk b' (w.heap.size + 1 + 1 + 1) 39 #[y, z]) := fun a' b' hg ⟨y, z, h⟩ => ⟨y, z, h.gr hg⟩
    refine region_writes 3 (w.heap.size + 1 + 1 + 1) 39 #[.int .i64 a, .int .i64 pn] [(2, .bool sb)] (fun wz => ∃ y z, Blk wz (w.heap.size + 1 + 1 + 1) 39 #[y, z]) ⟨_, _, R4⟩ (by kernel_rfl) (by kernel_rfl) ?_
    (refine lz_one rfl (fun K hK => ?_); refine ⟨rfl, ?_⟩; apply Exists.intro; refine ⟨fun wz hz => ?_, ?_⟩; (focus (obtain ⟨o0, o1, -⟩ := HX.out wz hz; go_simp; (first | done | exact ⟨rfl, rfl⟩ | trivial))); (go_simp; refine hK _ _ ?_; clear hK K))
    (refine lz_one rfl (fun K hK => ?_); refine ⟨rfl, ?_⟩; apply Exists.intro; refine ⟨fun wz hz => ?_, ?_⟩; (focus (obtain ⟨o0, o1, -⟩ := HX.out wz hz; go_simp; (first | done | exact ⟨rfl, rfl⟩ | trivial))); (go_simp; refine hK _ _ ?_; clear hK K))
    (refine lz_many _ rfl (fun K hK => ?_); refine ⟨rfl, fun wz hz ha => ?_, fun vz wz hz hf => ?_⟩; (focus (go_simp; exact lw_call (by decide) hp hz (HSt.out _))); (obtain rfl := hf; clear hz wz; go_simp; refine hK _ _ ?_; clear hK K))
    (refine lz_many _ rfl (fun K hK => ?_); refine ⟨rfl, fun wz hz ha => ?_, fun vz wz hz hf => ?_⟩; (focus (obtain ⟨y, z, hB⟩ := hz.at'; obtain ⟨b0, b1, bf⟩ := hB.two; have bl := hB.lt; go_simp; exact lw_store hz (by simp) (((Gx.of (Gr.refl _)).set 0 _).set 1 _) ⟨_, _, (hB.set 0 _).set 1 _⟩ ((hB.set 0 _).set 1 _))); (obtain - := hf; clear hz wz; go_simp; refine hK _ _ ?_; clear hK K))
    (refine lz_one rfl (fun K hK => ?_); refine ⟨rfl, ?_⟩; apply Exists.intro; refine ⟨fun wz hz => ?_, ?_⟩; (focus (skip; go_simp; (first | done | exact ⟨rfl, rfl⟩ | trivial))); (go_simp; refine hK _ _ ?_; clear hK K))
    refine lz_nil ?_
    intro w5 hz hg
    have R5 : Blk w5 (w.heap.size + 1 + 1 + 1) 39 #[.int .i64 a, .int .i64 pn] := hg 3
    have h5 := h4.trans (hz.gx.below (B := w.heap.size) (by omega) (by omega))
    obtain ⟨r0, r1, -⟩ := R5.two
    clear hg hz
    go_wp2_with fail
    ((try simp only [Exit.inBlock, Exit.then]); refine bodyPost_ret (v := .tuple #[.agg #[.int .i64 (a), .int .i64 (pn)], .bool sb]) (by simp [results, Tryd.results48, go_sem, r0, r1, World.cell?_setCell_same']) rfl ?_)
    rw [HR.out]
    exact ⟨rfl, Gr.of_below h5⟩
  · have HR := Lib.hid (HRn.out hs)
    rw [hs] at HA
    clear HRy HRn hs
    go_enter Tryd.func48, Tryd.ntmps48
    go_wp2_with fail
    generalize (((w.alloc (.cells #[.int .i64 L, .slice A n c, .slice B m d] 42)).alloc (.cells #[.int .i64 a, .int .i64 q] 39)).alloc (.cells #[.int .i64 0, .int .i64 s, .int .i64 u, .int .i64 t] 47)).alloc (.cells #[.int .i64 0, .int .i64 0] 39) = v at *
    have hRv := RX.out.gr G0
    refine region_grows [(8, .is (.slice A n c)), (11, .is (.bool false))] (by kernel_rfl) (by kernel_rfl) ?_
    (refine lz_one rfl (fun K hK => ?_); refine ⟨rfl, ?_⟩; apply Exists.intro; refine ⟨fun wz hz => ?_, ?_⟩; (focus (skip; go_simp; (first | done | exact ⟨rfl, rfl⟩ | trivial))); (go_simp; refine hK _ _ ?_; clear hK K))
    (refine lz_one rfl (fun K hK => ?_); refine ⟨rfl, ?_⟩; apply Exists.intro; refine ⟨fun wz hz => ?_, ?_⟩; (focus (obtain ⟨b0, b1, b2, b3, -⟩ := (B2.gr hz).four; go_simp; (first | done | exact ⟨rfl, rfl⟩ | trivial))); (go_simp; refine hK _ _ ?_; clear hK K))
    (refine lz_one rfl (fun K hK => ?_); refine ⟨rfl, ?_⟩; apply Exists.intro; refine ⟨fun wz hz => ?_, ?_⟩; (focus (skip; go_simp; (first | done | exact ⟨rfl, rfl⟩ | trivial))); (go_simp; refine hK _ _ ?_; clear hK K))
    (refine lz_one rfl (fun K hK => ?_); refine ⟨rfl, ?_⟩; apply Exists.intro; refine ⟨fun wz hz => ?_, ?_⟩; (focus (skip; go_simp; (first | done | exact ⟨rfl, rfl⟩ | trivial))); (go_simp; refine hK _ _ ?_; clear hK K))
    (refine lz_one rfl (fun K hK => ?_); refine ⟨rfl, ?_⟩; apply Exists.intro; refine ⟨fun wz hz => ?_, ?_⟩; (focus (obtain ⟨b0, b1, b2, -⟩ := (B0.gr hz).trio; go_simp; (first | done | exact ⟨rfl, rfl⟩ | trivial))); (go_simp; refine hK _ _ ?_; clear hK K))
    (refine lz_one rfl (fun K hK => ?_); refine ⟨rfl, ?_⟩; apply Exists.intro; refine ⟨fun wz hz => ?_, ?_⟩; (focus (skip; go_simp; (first | done | exact ⟨rfl, rfl⟩ | trivial))); (go_simp; refine hK _ _ ?_; clear hK K))
    (refine lz_one rfl (fun K hK => ?_); refine ⟨rfl, ?_⟩; apply Exists.intro; refine ⟨fun wz hz => ?_, ?_⟩; (focus (obtain ⟨b0, b1, b2, b3, -⟩ := (B2.gr hz).four; go_simp; (first | done | exact ⟨rfl, rfl⟩ | trivial))); (go_simp; refine hK _ _ ?_; clear hK K))
    (refine lz_one rfl (fun K hK => ?_); refine ⟨rfl, ?_⟩; apply Exists.intro; refine ⟨fun wz hz => ?_, ?_⟩; (focus (skip; go_simp; (first | done | exact ⟨rfl, rfl⟩ | trivial))); (go_simp; refine hK _ _ ?_; clear hK K))
    (refine lz_many _ rfl (fun K hK => ?_); refine ⟨rfl, fun wz hz ha => ?_, fun vz wz hz hf => ?_⟩; (focus (go_simp; exact lg_call hz (HO.out _))); (obtain rfl := hf; clear hz wz; go_simp; refine hK _ _ ?_; clear hK K))
    (refine lz_one rfl (fun K hK => ?_); refine ⟨rfl, ?_⟩; apply Exists.intro; refine ⟨fun wz hz => ?_, ?_⟩; (focus (skip; go_simp; (first | done | exact ⟨rfl, rfl⟩ | trivial))); (go_simp; refine hK _ _ ?_; clear hK K))
    (refine lz_one rfl (fun K hK => ?_); refine ⟨rfl, ?_⟩; apply Exists.intro; refine ⟨fun wz hz => ?_, ?_⟩; (focus (obtain ⟨b0, b1, b2, b3, -⟩ := (B2.gr hz).four; go_simp; (first | done | exact ⟨rfl, rfl⟩ | trivial))); (go_simp; refine hK _ _ ?_; clear hK K))
    (refine lz_many _ rfl (fun K hK => ?_); refine ⟨rfl, fun wz hz ha => ?_, fun vz wz hz hf => ?_⟩; (focus (go_simp; exact lg_call hz ((HA.out _ (hRv.gr hz)).mono fun _ _ h => ⟨h.1, h.2 ▸ Gr.refl _⟩))); (obtain rfl := hf; clear hz wz; go_simp; refine hK _ _ ?_; clear hK K))
    (refine lz_one rfl (fun K hK => ?_); refine ⟨rfl, ?_⟩; apply Exists.intro; refine ⟨fun wz hz => ?_, ?_⟩; (focus (skip; go_simp; (first | done | exact ⟨rfl, rfl⟩ | trivial))); (go_simp; refine hK _ _ ?_; clear hK K))
    (refine lz_one rfl (fun K hK => ?_); refine ⟨rfl, ?_⟩; apply Exists.intro; refine ⟨fun wz hz => ?_, ?_⟩; (focus (skip; go_simp; (first | done | exact ⟨rfl, rfl⟩ | trivial))); (go_simp; refine hK _ _ ?_; clear hK K))
    refine lz_nil ?_
    intro w2 hz hgg
    clear hgg
    clear HA HO hRv
    have G2 := G0.trans hz
    obtain ⟨r0, r1, rf⟩ := (B3.gr hz).two
    have rl := (B3.gr hz).lt
    go_wp2_with fail
    ((try simp only [Exit.inBlock, Exit.then]); refine bodyPost_ret (v := .tuple #[.agg #[.int .i64 (0), .int .i64 (0)], .bool false]) (by simp [results, Tryd.results48, go_sem, r0, r1, World.cell?_setCell_same']) rfl ?_)
    rw [HR.out]
    exact ⟨rfl, Gr.of_below ((G2.below.setCell (by show w.heap.size ≤ w.heap.size + 1 + 1 + 1; omega) _).setCell (by show w.heap.size ≤ w.heap.size + 1 + 1 + 1; omega) _)⟩
set_option maxRecDepth 100000 in
set_option maxHeartbeats 8000000 in
theorem apply_1 (a q s u t : Int) (L : Int) (A B : Option Addr) (n c m d : Nat) (xs ys : List Int) (w : World) (hx : xs.length = n) (hy : ys.length = m) (hn : n ≤ 16777216) (hm : m ≤ 16777216) (hnc : n ≤ c) (hmd : m ≤ d) (hX : Reads w w.heap.size A (xs.map vi)) (hY : Reads w w.heap.size B (ys.map vi)) (hv : lsc s = true ∧ fg u t = true) (hq : sgB a q = true) :
    Calls Tryd.prog 48 #[.agg #[.int .i64 L, .slice A n c, .slice B m d], .agg #[.int .i64 (a), .int .i64 (q)], .agg #[.int .i64 (1), .int .i64 (s), .int .i64 (u), .int .i64 (t)]] w (ApW (apR xs ys (1, s, u, t) a q) w) := by
  obtain ⟨a1, a2, q1, q2⟩ := sg_bd hq
  have HO := Lib.hid (fun W => on_spec true L A B n c m d xs ys W)
  have HB := Lib.hid (fun W h => has_spec B m d ys s W hy hm h)
  have RX := Lib.hid hY
  have HCu := Lib.hid (fun W => cursor11_spec a q true s u t W hv.2 (lsc_sc s hv.1) ⟨a1, a2⟩)
  rw [stP_t] at HCu
  have hpb := pnt_bd s u t hv.2
  have HRy := Lib.hid (fun h => apR_has (xs := xs) (ys := ys) (a := a) (c := q) h (mvN_1 s u t a q))
  have HRn := Lib.hid (fun h => apR_not (xs := xs) (ys := ys) (m := (1, s, u, t)) (a := a) (c := q) h)
  rw [mvH_1] at HRy HRn
  generalize pnt s u t = pn at *
  have HSt := Lib.hid (fun W => setting_spec a (a + pn) W)
  obtain ⟨B0, B1, B2, B3, G0⟩ := boxes4 w 42 39 47 39 #[.int .i64 L, .slice A n c, .slice B m d] #[.int .i64 a, .int .i64 q] #[.int .i64 1, .int .i64 s, .int .i64 u, .int .i64 t] #[.int .i64 0, .int .i64 0]
  generalize apR xs ys (1, s, u, t) a q = R at *
  clear hx hy hX hY hq hv
  rcases hasI_tf ys s with hs | hs
  · have HR := Lib.hid (HRy.out hs)
    rw [hs] at HB
    generalize sgB a (a + pn) = sb at *
    clear HRy HRn hs
    go_enter Tryd.func48, Tryd.ntmps48
    go_wp2_with fail
    generalize (((w.alloc (.cells #[.int .i64 L, .slice A n c, .slice B m d] 42)).alloc (.cells #[.int .i64 a, .int .i64 q] 39)).alloc (.cells #[.int .i64 1, .int .i64 s, .int .i64 u, .int .i64 t] 47)).alloc (.cells #[.int .i64 0, .int .i64 0] 39) = v at *
    have hRv := RX.out.gr G0
    refine region_grows [(8, .is (.slice B m d)), (11, .is (.bool true))] (by kernel_rfl) (by kernel_rfl) ?_
    (refine lz_one rfl (fun K hK => ?_); refine ⟨rfl, ?_⟩; apply Exists.intro; refine ⟨fun wz hz => ?_, ?_⟩; (focus (skip; go_simp; (first | done | exact ⟨rfl, rfl⟩ | trivial))); (go_simp; refine hK _ _ ?_; clear hK K))
    (refine lz_one rfl (fun K hK => ?_); refine ⟨rfl, ?_⟩; apply Exists.intro; refine ⟨fun wz hz => ?_, ?_⟩; (focus (obtain ⟨b0, b1, b2, b3, -⟩ := (B2.gr hz).four; go_simp; (first | done | exact ⟨rfl, rfl⟩ | trivial))); (go_simp; refine hK _ _ ?_; clear hK K))
    (refine lz_one rfl (fun K hK => ?_); refine ⟨rfl, ?_⟩; apply Exists.intro; refine ⟨fun wz hz => ?_, ?_⟩; (focus (skip; go_simp; (first | done | exact ⟨rfl, rfl⟩ | trivial))); (go_simp; refine hK _ _ ?_; clear hK K))
    (refine lz_one rfl (fun K hK => ?_); refine ⟨rfl, ?_⟩; apply Exists.intro; refine ⟨fun wz hz => ?_, ?_⟩; (focus (skip; go_simp; (first | done | exact ⟨rfl, rfl⟩ | trivial))); (go_simp; refine hK _ _ ?_; clear hK K))
    (refine lz_one rfl (fun K hK => ?_); refine ⟨rfl, ?_⟩; apply Exists.intro; refine ⟨fun wz hz => ?_, ?_⟩; (focus (obtain ⟨b0, b1, b2, -⟩ := (B0.gr hz).trio; go_simp; (first | done | exact ⟨rfl, rfl⟩ | trivial))); (go_simp; refine hK _ _ ?_; clear hK K))
    (refine lz_one rfl (fun K hK => ?_); refine ⟨rfl, ?_⟩; apply Exists.intro; refine ⟨fun wz hz => ?_, ?_⟩; (focus (skip; go_simp; (first | done | exact ⟨rfl, rfl⟩ | trivial))); (go_simp; refine hK _ _ ?_; clear hK K))
    (refine lz_one rfl (fun K hK => ?_); refine ⟨rfl, ?_⟩; apply Exists.intro; refine ⟨fun wz hz => ?_, ?_⟩; (focus (obtain ⟨b0, b1, b2, b3, -⟩ := (B2.gr hz).four; go_simp; (first | done | exact ⟨rfl, rfl⟩ | trivial))); (go_simp; refine hK _ _ ?_; clear hK K))
    (refine lz_one rfl (fun K hK => ?_); refine ⟨rfl, ?_⟩; apply Exists.intro; refine ⟨fun wz hz => ?_, ?_⟩; (focus (skip; go_simp; (first | done | exact ⟨rfl, rfl⟩ | trivial))); (go_simp; refine hK _ _ ?_; clear hK K))
    (refine lz_many _ rfl (fun K hK => ?_); refine ⟨rfl, fun wz hz ha => ?_, fun vz wz hz hf => ?_⟩; (focus (go_simp; exact lg_call hz (HO.out _))); (obtain rfl := hf; clear hz wz; go_simp; refine hK _ _ ?_; clear hK K))
    (refine lz_one rfl (fun K hK => ?_); refine ⟨rfl, ?_⟩; apply Exists.intro; refine ⟨fun wz hz => ?_, ?_⟩; (focus (skip; go_simp; (first | done | exact ⟨rfl, rfl⟩ | trivial))); (go_simp; refine hK _ _ ?_; clear hK K))
    (refine lz_one rfl (fun K hK => ?_); refine ⟨rfl, ?_⟩; apply Exists.intro; refine ⟨fun wz hz => ?_, ?_⟩; (focus (obtain ⟨b0, b1, b2, b3, -⟩ := (B2.gr hz).four; go_simp; (first | done | exact ⟨rfl, rfl⟩ | trivial))); (go_simp; refine hK _ _ ?_; clear hK K))
    (refine lz_many _ rfl (fun K hK => ?_); refine ⟨rfl, fun wz hz ha => ?_, fun vz wz hz hf => ?_⟩; (focus (go_simp; exact lg_call hz ((HB.out _ (hRv.gr hz)).mono fun _ _ h => ⟨h.1, h.2 ▸ Gr.refl _⟩))); (obtain rfl := hf; clear hz wz; go_simp; refine hK _ _ ?_; clear hK K))
    (refine lz_one rfl (fun K hK => ?_); refine ⟨rfl, ?_⟩; apply Exists.intro; refine ⟨fun wz hz => ?_, ?_⟩; (focus (skip; go_simp; (first | done | exact ⟨rfl, rfl⟩ | trivial))); (go_simp; refine hK _ _ ?_; clear hK K))
    (refine lz_one rfl (fun K hK => ?_); refine ⟨rfl, ?_⟩; apply Exists.intro; refine ⟨fun wz hz => ?_, ?_⟩; (focus (skip; go_simp; (first | done | exact ⟨rfl, rfl⟩ | trivial))); (go_simp; refine hK _ _ ?_; clear hK K))
    refine lz_nil ?_
    intro w2 hz hgg
    clear hgg
    clear HB HO hRv RX
    have G2 := G0.trans hz
    have hvs := hz.below.size
    replace B1 := B1.gr hz
    replace B2 := B2.gr hz
    replace B3 := B3.gr hz
    obtain ⟨s0, s1, -⟩ := B1.two
    obtain ⟨m0, m1, m2, m3, -⟩ := B2.four
    have lt3 := B3.lt
    have lt2 := B2.lt
    have lt1 := B1.lt
    have hvw := G0.below.size
    clear hz
    go_wp2_with (go_at_call 72; refine (HCu.out _).mono ?_; rintro e w3 ⟨rfl, hg3⟩; have O3 := (Blk.new w2 39 #[.int .i64 a, .int .i64 q]).gr hg3; obtain ⟨o0, o1, of⟩ := O3.two; have ol := O3.lt)
    have R3 := (B3.alloc (.cells #[.int .i64 a, .int .i64 q] 39)).gr hg3
    have O4 := (O3.set 0 (.int .i64 a)).set 1 (.int .i64 (a + pn))
    have R4 := (R3.far (a := ⟨w2.heap.size, 0, none⟩) (by show w2.heap.size ≠ _; omega) (.int .i64 a)).far (a := ⟨w2.heap.size, 1, none⟩) (by show w2.heap.size ≠ _; omega) (.int .i64 (a + pn))
    have h24 : Below w2.heap.size w2 ((w3.setCell ⟨w2.heap.size, 0, none⟩ (.int .i64 a)).setCell ⟨w2.heap.size, 1, none⟩ (.int .i64 (a + pn))) := (((Below.refl _ _).alloc (Nat.le_refl _) _).trans (hg3.below.mono (by simp))).setCell (Nat.le_refl _) _ |>.setCell (Nat.le_refl _) _
    clear s0 s1 m0 m1 m2 m3 o0 o1 of ol O3 R3 B1 B2 B3 hg3
    generalize (w3.setCell ⟨w2.heap.size, 0, none⟩ (.int .i64 a)).setCell ⟨w2.heap.size, 1, none⟩ (.int .i64 (a + pn)) = w4 at *
    have h4 := G2.below.trans (h24.mono G2.below.size)
    have hws := G2.below.size
    have hw4 := h4.size
    have HX := Lib.hid (fun wz (hz : CW (w.heap.size + 1 + 1 + 1) (fun wz => ∃ y z, Blk wz (w.heap.size + 1 + 1 + 1) 39 #[y, z]) w4 wz) => (hz.gx.keeps O4 (by omega)).two)
    have hp : ∀ a' b', Gr a' b' → (∃ y z, Blk a' (w.heap.size + 1 + 1 + 1) 39 #[y, z]) → (∃ y z, Blk b' (w.heap.size + 1 + 1 + 1) 39 #[y, z]) := fun a' b' hg ⟨y, z, h⟩ => ⟨y, z, h.gr hg⟩
    refine region_writes 3 (w.heap.size + 1 + 1 + 1) 39 #[.int .i64 a, .int .i64 (a + pn)] [(2, .bool sb)] (fun wz => ∃ y z, Blk wz (w.heap.size + 1 + 1 + 1) 39 #[y, z]) ⟨_, _, R4⟩ (by kernel_rfl) (by kernel_rfl) ?_
    (refine lz_one rfl (fun K hK => ?_); refine ⟨rfl, ?_⟩; apply Exists.intro; refine ⟨fun wz hz => ?_, ?_⟩; (focus (obtain ⟨o0, o1, -⟩ := HX.out wz hz; go_simp; (first | done | exact ⟨rfl, rfl⟩ | trivial))); (go_simp; refine hK _ _ ?_; clear hK K))
    (refine lz_one rfl (fun K hK => ?_); refine ⟨rfl, ?_⟩; apply Exists.intro; refine ⟨fun wz hz => ?_, ?_⟩; (focus (obtain ⟨o0, o1, -⟩ := HX.out wz hz; go_simp; (first | done | exact ⟨rfl, rfl⟩ | trivial))); (go_simp; refine hK _ _ ?_; clear hK K))
    (refine lz_many _ rfl (fun K hK => ?_); refine ⟨rfl, fun wz hz ha => ?_, fun vz wz hz hf => ?_⟩; (focus (go_simp; exact lw_call (by decide) hp hz (HSt.out _))); (obtain rfl := hf; clear hz wz; go_simp; refine hK _ _ ?_; clear hK K))
    (refine lz_many _ rfl (fun K hK => ?_); refine ⟨rfl, fun wz hz ha => ?_, fun vz wz hz hf => ?_⟩; (focus (obtain ⟨y, z, hB⟩ := hz.at'; obtain ⟨b0, b1, bf⟩ := hB.two; have bl := hB.lt; go_simp; exact lw_store hz (by simp) (((Gx.of (Gr.refl _)).set 0 _).set 1 _) ⟨_, _, (hB.set 0 _).set 1 _⟩ ((hB.set 0 _).set 1 _))); (obtain - := hf; clear hz wz; go_simp; refine hK _ _ ?_; clear hK K))
    (refine lz_one rfl (fun K hK => ?_); refine ⟨rfl, ?_⟩; apply Exists.intro; refine ⟨fun wz hz => ?_, ?_⟩; (focus (skip; go_simp; (first | done | exact ⟨rfl, rfl⟩ | trivial))); (go_simp; refine hK _ _ ?_; clear hK K))
    refine lz_nil ?_
    intro w5 hz hg
    have R5 : Blk w5 (w.heap.size + 1 + 1 + 1) 39 #[.int .i64 a, .int .i64 (a + pn)] := hg 3
    have h5 := h4.trans (hz.gx.below (B := w.heap.size) (by omega) (by omega))
    obtain ⟨r0, r1, -⟩ := R5.two
    clear hg hz
    go_wp2_with fail
    ((try simp only [Exit.inBlock, Exit.then]); refine bodyPost_ret (v := .tuple #[.agg #[.int .i64 (a), .int .i64 ((a + pn))], .bool sb]) (by simp [results, Tryd.results48, go_sem, r0, r1, World.cell?_setCell_same']) rfl ?_)
    rw [HR.out]
    exact ⟨rfl, Gr.of_below h5⟩
  · have HR := Lib.hid (HRn.out hs)
    rw [hs] at HB
    clear HRy HRn hs
    go_enter Tryd.func48, Tryd.ntmps48
    go_wp2_with fail
    generalize (((w.alloc (.cells #[.int .i64 L, .slice A n c, .slice B m d] 42)).alloc (.cells #[.int .i64 a, .int .i64 q] 39)).alloc (.cells #[.int .i64 1, .int .i64 s, .int .i64 u, .int .i64 t] 47)).alloc (.cells #[.int .i64 0, .int .i64 0] 39) = v at *
    have hRv := RX.out.gr G0
    refine region_grows [(8, .is (.slice B m d)), (11, .is (.bool false))] (by kernel_rfl) (by kernel_rfl) ?_
    (refine lz_one rfl (fun K hK => ?_); refine ⟨rfl, ?_⟩; apply Exists.intro; refine ⟨fun wz hz => ?_, ?_⟩; (focus (skip; go_simp; (first | done | exact ⟨rfl, rfl⟩ | trivial))); (go_simp; refine hK _ _ ?_; clear hK K))
    (refine lz_one rfl (fun K hK => ?_); refine ⟨rfl, ?_⟩; apply Exists.intro; refine ⟨fun wz hz => ?_, ?_⟩; (focus (obtain ⟨b0, b1, b2, b3, -⟩ := (B2.gr hz).four; go_simp; (first | done | exact ⟨rfl, rfl⟩ | trivial))); (go_simp; refine hK _ _ ?_; clear hK K))
    (refine lz_one rfl (fun K hK => ?_); refine ⟨rfl, ?_⟩; apply Exists.intro; refine ⟨fun wz hz => ?_, ?_⟩; (focus (skip; go_simp; (first | done | exact ⟨rfl, rfl⟩ | trivial))); (go_simp; refine hK _ _ ?_; clear hK K))
    (refine lz_one rfl (fun K hK => ?_); refine ⟨rfl, ?_⟩; apply Exists.intro; refine ⟨fun wz hz => ?_, ?_⟩; (focus (skip; go_simp; (first | done | exact ⟨rfl, rfl⟩ | trivial))); (go_simp; refine hK _ _ ?_; clear hK K))
    (refine lz_one rfl (fun K hK => ?_); refine ⟨rfl, ?_⟩; apply Exists.intro; refine ⟨fun wz hz => ?_, ?_⟩; (focus (obtain ⟨b0, b1, b2, -⟩ := (B0.gr hz).trio; go_simp; (first | done | exact ⟨rfl, rfl⟩ | trivial))); (go_simp; refine hK _ _ ?_; clear hK K))
    (refine lz_one rfl (fun K hK => ?_); refine ⟨rfl, ?_⟩; apply Exists.intro; refine ⟨fun wz hz => ?_, ?_⟩; (focus (skip; go_simp; (first | done | exact ⟨rfl, rfl⟩ | trivial))); (go_simp; refine hK _ _ ?_; clear hK K))
    (refine lz_one rfl (fun K hK => ?_); refine ⟨rfl, ?_⟩; apply Exists.intro; refine ⟨fun wz hz => ?_, ?_⟩; (focus (obtain ⟨b0, b1, b2, b3, -⟩ := (B2.gr hz).four; go_simp; (first | done | exact ⟨rfl, rfl⟩ | trivial))); (go_simp; refine hK _ _ ?_; clear hK K))
    (refine lz_one rfl (fun K hK => ?_); refine ⟨rfl, ?_⟩; apply Exists.intro; refine ⟨fun wz hz => ?_, ?_⟩; (focus (skip; go_simp; (first | done | exact ⟨rfl, rfl⟩ | trivial))); (go_simp; refine hK _ _ ?_; clear hK K))
    (refine lz_many _ rfl (fun K hK => ?_); refine ⟨rfl, fun wz hz ha => ?_, fun vz wz hz hf => ?_⟩; (focus (go_simp; exact lg_call hz (HO.out _))); (obtain rfl := hf; clear hz wz; go_simp; refine hK _ _ ?_; clear hK K))
    (refine lz_one rfl (fun K hK => ?_); refine ⟨rfl, ?_⟩; apply Exists.intro; refine ⟨fun wz hz => ?_, ?_⟩; (focus (skip; go_simp; (first | done | exact ⟨rfl, rfl⟩ | trivial))); (go_simp; refine hK _ _ ?_; clear hK K))
    (refine lz_one rfl (fun K hK => ?_); refine ⟨rfl, ?_⟩; apply Exists.intro; refine ⟨fun wz hz => ?_, ?_⟩; (focus (obtain ⟨b0, b1, b2, b3, -⟩ := (B2.gr hz).four; go_simp; (first | done | exact ⟨rfl, rfl⟩ | trivial))); (go_simp; refine hK _ _ ?_; clear hK K))
    (refine lz_many _ rfl (fun K hK => ?_); refine ⟨rfl, fun wz hz ha => ?_, fun vz wz hz hf => ?_⟩; (focus (go_simp; exact lg_call hz ((HB.out _ (hRv.gr hz)).mono fun _ _ h => ⟨h.1, h.2 ▸ Gr.refl _⟩))); (obtain rfl := hf; clear hz wz; go_simp; refine hK _ _ ?_; clear hK K))
    (refine lz_one rfl (fun K hK => ?_); refine ⟨rfl, ?_⟩; apply Exists.intro; refine ⟨fun wz hz => ?_, ?_⟩; (focus (skip; go_simp; (first | done | exact ⟨rfl, rfl⟩ | trivial))); (go_simp; refine hK _ _ ?_; clear hK K))
    (refine lz_one rfl (fun K hK => ?_); refine ⟨rfl, ?_⟩; apply Exists.intro; refine ⟨fun wz hz => ?_, ?_⟩; (focus (skip; go_simp; (first | done | exact ⟨rfl, rfl⟩ | trivial))); (go_simp; refine hK _ _ ?_; clear hK K))
    refine lz_nil ?_
    intro w2 hz hgg
    clear hgg
    clear HB HO hRv
    have G2 := G0.trans hz
    obtain ⟨r0, r1, rf⟩ := (B3.gr hz).two
    have rl := (B3.gr hz).lt
    go_wp2_with fail
    ((try simp only [Exit.inBlock, Exit.then]); refine bodyPost_ret (v := .tuple #[.agg #[.int .i64 (0), .int .i64 (0)], .bool false]) (by simp [results, Tryd.results48, go_sem, r0, r1, World.cell?_setCell_same']) rfl ?_)
    rw [HR.out]
    exact ⟨rfl, Gr.of_below ((G2.below.setCell (by show w.heap.size ≤ w.heap.size + 1 + 1 + 1; omega) _).setCell (by show w.heap.size ≤ w.heap.size + 1 + 1 + 1; omega) _)⟩
set_option maxRecDepth 100000 in
set_option maxHeartbeats 8000000 in
theorem apply_2 (a q s u t : Int) (L : Int) (A B : Option Addr) (n c m d : Nat) (xs ys : List Int) (w : World) (hx : xs.length = n) (hy : ys.length = m) (hn : n ≤ 16777216) (hm : m ≤ 16777216) (hnc : n ≤ c) (hmd : m ≤ d) (hX : Reads w w.heap.size A (xs.map vi)) (hY : Reads w w.heap.size B (ys.map vi)) (hv : lsc s = true ∧ fg u t = true) (hq : sgB a q = true) :
    Calls Tryd.prog 48 #[.agg #[.int .i64 L, .slice A n c, .slice B m d], .agg #[.int .i64 (a), .int .i64 (q)], .agg #[.int .i64 (2), .int .i64 (s), .int .i64 (u), .int .i64 (t)]] w (ApW (apR xs ys (2, s, u, t) a q) w) := by
  obtain ⟨a1, a2, q1, q2⟩ := sg_bd hq
  have HO := Lib.hid (fun W => on_spec true L A B n c m d xs ys W)
  have HB := Lib.hid (fun W h => has_spec B m d ys s W hy hm h)
  have RX := Lib.hid hY
  have HPt := Lib.hid (fun W => point_spec s u t W hv.2 (lsc_sc s hv.1))
  have hpb := pnt_bd s u t hv.2
  have HRy := Lib.hid (fun h => apR_has (xs := xs) (ys := ys) (a := a) (c := q) h (mvN_2 s u t a q))
  have HRn := Lib.hid (fun h => apR_not (xs := xs) (ys := ys) (m := (2, s, u, t)) (a := a) (c := q) h)
  rw [mvH_2] at HRy HRn
  generalize pnt s u t = pn at *
  have HSt := Lib.hid (fun W => setting_spec (q - pn) q W)
  obtain ⟨B0, B1, B2, B3, G0⟩ := boxes4 w 42 39 47 39 #[.int .i64 L, .slice A n c, .slice B m d] #[.int .i64 a, .int .i64 q] #[.int .i64 2, .int .i64 s, .int .i64 u, .int .i64 t] #[.int .i64 0, .int .i64 0]
  generalize apR xs ys (2, s, u, t) a q = R at *
  clear hx hy hX hY hq hv
  rcases hasI_tf ys s with hs | hs
  · have HR := Lib.hid (HRy.out hs)
    rw [hs] at HB
    generalize sgB (q - pn) q = sb at *
    clear HRy HRn hs
    go_enter Tryd.func48, Tryd.ntmps48
    go_wp2_with fail
    generalize (((w.alloc (.cells #[.int .i64 L, .slice A n c, .slice B m d] 42)).alloc (.cells #[.int .i64 a, .int .i64 q] 39)).alloc (.cells #[.int .i64 2, .int .i64 s, .int .i64 u, .int .i64 t] 47)).alloc (.cells #[.int .i64 0, .int .i64 0] 39) = v at *
    have hRv := RX.out.gr G0
    refine region_grows [(8, .is (.slice B m d)), (11, .is (.bool true))] (by kernel_rfl) (by kernel_rfl) ?_
    (refine lz_one rfl (fun K hK => ?_); refine ⟨rfl, ?_⟩; apply Exists.intro; refine ⟨fun wz hz => ?_, ?_⟩; (focus (skip; go_simp; (first | done | exact ⟨rfl, rfl⟩ | trivial))); (go_simp; refine hK _ _ ?_; clear hK K))
    (refine lz_one rfl (fun K hK => ?_); refine ⟨rfl, ?_⟩; apply Exists.intro; refine ⟨fun wz hz => ?_, ?_⟩; (focus (obtain ⟨b0, b1, b2, b3, -⟩ := (B2.gr hz).four; go_simp; (first | done | exact ⟨rfl, rfl⟩ | trivial))); (go_simp; refine hK _ _ ?_; clear hK K))
    (refine lz_one rfl (fun K hK => ?_); refine ⟨rfl, ?_⟩; apply Exists.intro; refine ⟨fun wz hz => ?_, ?_⟩; (focus (skip; go_simp; (first | done | exact ⟨rfl, rfl⟩ | trivial))); (go_simp; refine hK _ _ ?_; clear hK K))
    (refine lz_one rfl (fun K hK => ?_); refine ⟨rfl, ?_⟩; apply Exists.intro; refine ⟨fun wz hz => ?_, ?_⟩; (focus (skip; go_simp; (first | done | exact ⟨rfl, rfl⟩ | trivial))); (go_simp; refine hK _ _ ?_; clear hK K))
    (refine lz_one rfl (fun K hK => ?_); refine ⟨rfl, ?_⟩; apply Exists.intro; refine ⟨fun wz hz => ?_, ?_⟩; (focus (obtain ⟨b0, b1, b2, -⟩ := (B0.gr hz).trio; go_simp; (first | done | exact ⟨rfl, rfl⟩ | trivial))); (go_simp; refine hK _ _ ?_; clear hK K))
    (refine lz_one rfl (fun K hK => ?_); refine ⟨rfl, ?_⟩; apply Exists.intro; refine ⟨fun wz hz => ?_, ?_⟩; (focus (skip; go_simp; (first | done | exact ⟨rfl, rfl⟩ | trivial))); (go_simp; refine hK _ _ ?_; clear hK K))
    (refine lz_one rfl (fun K hK => ?_); refine ⟨rfl, ?_⟩; apply Exists.intro; refine ⟨fun wz hz => ?_, ?_⟩; (focus (obtain ⟨b0, b1, b2, b3, -⟩ := (B2.gr hz).four; go_simp; (first | done | exact ⟨rfl, rfl⟩ | trivial))); (go_simp; refine hK _ _ ?_; clear hK K))
    (refine lz_one rfl (fun K hK => ?_); refine ⟨rfl, ?_⟩; apply Exists.intro; refine ⟨fun wz hz => ?_, ?_⟩; (focus (skip; go_simp; (first | done | exact ⟨rfl, rfl⟩ | trivial))); (go_simp; refine hK _ _ ?_; clear hK K))
    (refine lz_many _ rfl (fun K hK => ?_); refine ⟨rfl, fun wz hz ha => ?_, fun vz wz hz hf => ?_⟩; (focus (go_simp; exact lg_call hz (HO.out _))); (obtain rfl := hf; clear hz wz; go_simp; refine hK _ _ ?_; clear hK K))
    (refine lz_one rfl (fun K hK => ?_); refine ⟨rfl, ?_⟩; apply Exists.intro; refine ⟨fun wz hz => ?_, ?_⟩; (focus (skip; go_simp; (first | done | exact ⟨rfl, rfl⟩ | trivial))); (go_simp; refine hK _ _ ?_; clear hK K))
    (refine lz_one rfl (fun K hK => ?_); refine ⟨rfl, ?_⟩; apply Exists.intro; refine ⟨fun wz hz => ?_, ?_⟩; (focus (obtain ⟨b0, b1, b2, b3, -⟩ := (B2.gr hz).four; go_simp; (first | done | exact ⟨rfl, rfl⟩ | trivial))); (go_simp; refine hK _ _ ?_; clear hK K))
    (refine lz_many _ rfl (fun K hK => ?_); refine ⟨rfl, fun wz hz ha => ?_, fun vz wz hz hf => ?_⟩; (focus (go_simp; exact lg_call hz ((HB.out _ (hRv.gr hz)).mono fun _ _ h => ⟨h.1, h.2 ▸ Gr.refl _⟩))); (obtain rfl := hf; clear hz wz; go_simp; refine hK _ _ ?_; clear hK K))
    (refine lz_one rfl (fun K hK => ?_); refine ⟨rfl, ?_⟩; apply Exists.intro; refine ⟨fun wz hz => ?_, ?_⟩; (focus (skip; go_simp; (first | done | exact ⟨rfl, rfl⟩ | trivial))); (go_simp; refine hK _ _ ?_; clear hK K))
    (refine lz_one rfl (fun K hK => ?_); refine ⟨rfl, ?_⟩; apply Exists.intro; refine ⟨fun wz hz => ?_, ?_⟩; (focus (skip; go_simp; (first | done | exact ⟨rfl, rfl⟩ | trivial))); (go_simp; refine hK _ _ ?_; clear hK K))
    refine lz_nil ?_
    intro w2 hz hgg
    clear hgg
    clear HB HO hRv RX
    have G2 := G0.trans hz
    have hvs := hz.below.size
    replace B1 := B1.gr hz
    replace B2 := B2.gr hz
    replace B3 := B3.gr hz
    obtain ⟨s0, s1, -⟩ := B1.two
    obtain ⟨m0, m1, m2, m3, -⟩ := B2.four
    have lt3 := B3.lt
    have lt2 := B2.lt
    have lt1 := B1.lt
    have hvw := G0.below.size
    clear hz
    go_wp2_with fail
    have O3 := Blk.new w2 39 #[.int .i64 a, .int .i64 q]
    have hg3 : Gr w2 (w2.alloc (.cells #[.int .i64 a, .int .i64 q] 39)) := (by repeat (first | with_reducible exact Gr.refl _ | with_reducible refine Gr.alloc ?_ _ | with_reducible refine Gr.gr ?_ _ _ | with_reducible refine Gr.drew ?_ | with_reducible refine Gr.drewN ?_ _))
    have h3 := Lib.hid ((Below.refl w2.heap.size w2).alloc (Nat.le_refl _) (.cells #[.int .i64 a, .int .i64 q] 39))
    have hz3 : (w2.alloc (.cells #[.int .i64 a, .int .i64 q] 39)).heap.size = w2.heap.size + 1 := World.size_alloc ..
    generalize w2.alloc (.cells #[.int .i64 a, .int .i64 q] 39) = w3 at *
    replace B1 := B1.gr hg3
    replace B2 := B2.gr hg3
    have R3 := B3.gr hg3
    clear s0 s1 m0 m1 m2 m3
    have hw : IntKind.i64.wrap (q - pn) = q - pn := IntWalk.i64_in _ (by omega)
    have HX := Lib.hid (fun wz (hz : CW w2.heap.size (fun wz => ∃ y, Blk wz w2.heap.size 39 #[y, .int .i64 q]) w3 wz) => And.intro (hz.gx.keeps B1 (by omega)).two (hz.gx.keeps B2 (by omega)).four)
    have hp : ∀ a' b', Gr a' b' → (∃ y, Blk a' w2.heap.size 39 #[y, .int .i64 q]) → (∃ y, Blk b' w2.heap.size 39 #[y, .int .i64 q]) := fun a' b' hg ⟨y, h⟩ => ⟨y, h.gr hg⟩
    refine region_writes 9 w2.heap.size 39 #[.int .i64 (q - pn), .int .i64 q] [(6, .int .i64 pn)] (fun wz => ∃ y, Blk wz w2.heap.size 39 #[y, .int .i64 q]) ⟨_, O3⟩ (by kernel_rfl) (by kernel_rfl) ?_
    (refine lz_one rfl (fun K hK => ?_); refine ⟨rfl, ?_⟩; apply Exists.intro; refine ⟨fun wz hz => ?_, ?_⟩; (focus (skip; go_simp; (first | done | exact ⟨rfl, rfl⟩ | trivial))); (go_simp; refine hK _ _ ?_; clear hK K))
    (refine lz_one rfl (fun K hK => ?_); refine ⟨rfl, ?_⟩; apply Exists.intro; refine ⟨fun wz hz => ?_, ?_⟩; (focus (obtain ⟨⟨s0, s1, -⟩, -⟩ := HX.out wz hz; go_simp; (first | done | exact ⟨rfl, rfl⟩ | trivial))); (go_simp; refine hK _ _ ?_; clear hK K))
    (refine lz_one rfl (fun K hK => ?_); refine ⟨rfl, ?_⟩; apply Exists.intro; refine ⟨fun wz hz => ?_, ?_⟩; (focus (skip; go_simp; (first | done | exact ⟨rfl, rfl⟩ | trivial))); (go_simp; refine hK _ _ ?_; clear hK K))
    (refine lz_one rfl (fun K hK => ?_); refine ⟨rfl, ?_⟩; apply Exists.intro; refine ⟨fun wz hz => ?_, ?_⟩; (focus (obtain ⟨-, ⟨m0, m1, m2, m3, -⟩⟩ := HX.out wz hz; go_simp; (first | done | exact ⟨rfl, rfl⟩ | trivial))); (go_simp; refine hK _ _ ?_; clear hK K))
    (refine lz_one rfl (fun K hK => ?_); refine ⟨rfl, ?_⟩; apply Exists.intro; refine ⟨fun wz hz => ?_, ?_⟩; (focus (skip; go_simp; (first | done | exact ⟨rfl, rfl⟩ | trivial))); (go_simp; refine hK _ _ ?_; clear hK K))
    (refine lz_one rfl (fun K hK => ?_); refine ⟨rfl, ?_⟩; apply Exists.intro; refine ⟨fun wz hz => ?_, ?_⟩; (focus (obtain ⟨-, ⟨m0, m1, m2, m3, -⟩⟩ := HX.out wz hz; go_simp; (first | done | exact ⟨rfl, rfl⟩ | trivial))); (go_simp; refine hK _ _ ?_; clear hK K))
    (refine lz_many _ rfl (fun K hK => ?_); refine ⟨rfl, fun wz hz ha => ?_, fun vz wz hz hf => ?_⟩; (focus (go_simp; exact lw_call (by decide) hp hz (HPt.out _))); (obtain rfl := hf; clear hz wz; go_simp; refine hK _ _ ?_; clear hK K))
    (refine lz_one rfl (fun K hK => ?_); refine ⟨rfl, ?_⟩; apply Exists.intro; refine ⟨fun wz hz => ?_, ?_⟩; (focus (skip; go_simp; (first | done | exact ⟨rfl, rfl⟩ | trivial))); (go_simp; refine hK _ _ ?_; clear hK K))
    (refine lz_one rfl (fun K hK => ?_); refine ⟨rfl, ?_⟩; apply Exists.intro; refine ⟨fun wz hz => ?_, ?_⟩; (focus (skip; go_simp; (first | done | exact ⟨rfl, rfl⟩ | trivial))); (go_simp; refine hK _ _ ?_; clear hK K))
    (refine lz_many _ rfl (fun K hK => ?_); refine ⟨rfl, fun wz hz ha => ?_, fun vz wz hz hf => ?_⟩; (focus (obtain ⟨y, hB⟩ := hz.at'; obtain ⟨b0, b1, bf⟩ := hB.two; have bl := hB.lt; go_simp; exact lw_store hz (by simp) ((Gx.of (Gr.refl _)).set 0 _) ⟨_, hB.set 0 _⟩ (hB.set 0 _))); (obtain - := hf; clear hz wz; go_simp; refine hK _ _ ?_; clear hK K))
    refine lz_nil ?_
    intro w4 hz hg
    have O4 : Blk w4 w2.heap.size 39 #[.int .i64 (q - pn), .int .i64 q] := hg 9
    have R4 := hz.gx.keeps R3 (by omega)
    have h24 := h3.out.trans (hz.gx.below (B := w2.heap.size) (Nat.le_refl _) (by omega))
    clear hg hz hp HX R3 B1 B2 B3 hg3 h3 O3 hw
    go_wp2_with fail
    have h4 := G2.below.trans (h24.mono G2.below.size)
    have hws := G2.below.size
    have hw4 := h4.size
    have HX := Lib.hid (fun wz (hz : CW (w.heap.size + 1 + 1 + 1) (fun wz => ∃ y z, Blk wz (w.heap.size + 1 + 1 + 1) 39 #[y, z]) w4 wz) => (hz.gx.keeps O4 (by omega)).two)
    have hp : ∀ a' b', Gr a' b' → (∃ y z, Blk a' (w.heap.size + 1 + 1 + 1) 39 #[y, z]) → (∃ y z, Blk b' (w.heap.size + 1 + 1 + 1) 39 #[y, z]) := fun a' b' hg ⟨y, z, h⟩ => ⟨y, z, h.gr hg⟩
    refine region_writes 3 (w.heap.size + 1 + 1 + 1) 39 #[.int .i64 (q - pn), .int .i64 q] [(2, .bool sb)] (fun wz => ∃ y z, Blk wz (w.heap.size + 1 + 1 + 1) 39 #[y, z]) ⟨_, _, R4⟩ (by kernel_rfl) (by kernel_rfl) ?_
    (refine lz_one rfl (fun K hK => ?_); refine ⟨rfl, ?_⟩; apply Exists.intro; refine ⟨fun wz hz => ?_, ?_⟩; (focus (obtain ⟨o0, o1, -⟩ := HX.out wz hz; go_simp; (first | done | exact ⟨rfl, rfl⟩ | trivial))); (go_simp; refine hK _ _ ?_; clear hK K))
    (refine lz_one rfl (fun K hK => ?_); refine ⟨rfl, ?_⟩; apply Exists.intro; refine ⟨fun wz hz => ?_, ?_⟩; (focus (obtain ⟨o0, o1, -⟩ := HX.out wz hz; go_simp; (first | done | exact ⟨rfl, rfl⟩ | trivial))); (go_simp; refine hK _ _ ?_; clear hK K))
    (refine lz_many _ rfl (fun K hK => ?_); refine ⟨rfl, fun wz hz ha => ?_, fun vz wz hz hf => ?_⟩; (focus (go_simp; exact lw_call (by decide) hp hz (HSt.out _))); (obtain rfl := hf; clear hz wz; go_simp; refine hK _ _ ?_; clear hK K))
    (refine lz_many _ rfl (fun K hK => ?_); refine ⟨rfl, fun wz hz ha => ?_, fun vz wz hz hf => ?_⟩; (focus (obtain ⟨y, z, hB⟩ := hz.at'; obtain ⟨b0, b1, bf⟩ := hB.two; have bl := hB.lt; go_simp; exact lw_store hz (by simp) (((Gx.of (Gr.refl _)).set 0 _).set 1 _) ⟨_, _, (hB.set 0 _).set 1 _⟩ ((hB.set 0 _).set 1 _))); (obtain - := hf; clear hz wz; go_simp; refine hK _ _ ?_; clear hK K))
    (refine lz_one rfl (fun K hK => ?_); refine ⟨rfl, ?_⟩; apply Exists.intro; refine ⟨fun wz hz => ?_, ?_⟩; (focus (skip; go_simp; (first | done | exact ⟨rfl, rfl⟩ | trivial))); (go_simp; refine hK _ _ ?_; clear hK K))
    refine lz_nil ?_
    intro w5 hz hg
    have R5 : Blk w5 (w.heap.size + 1 + 1 + 1) 39 #[.int .i64 (q - pn), .int .i64 q] := hg 3
    have h5 := h4.trans (hz.gx.below (B := w.heap.size) (by omega) (by omega))
    obtain ⟨r0, r1, -⟩ := R5.two
    clear hg hz
    go_wp2_with fail
    ((try simp only [Exit.inBlock, Exit.then]); refine bodyPost_ret (v := .tuple #[.agg #[.int .i64 ((q - pn)), .int .i64 (q)], .bool sb]) (by simp [results, Tryd.results48, go_sem, r0, r1, World.cell?_setCell_same']) rfl ?_)
    rw [HR.out]
    exact ⟨rfl, Gr.of_below h5⟩
  · have HR := Lib.hid (HRn.out hs)
    rw [hs] at HB
    clear HRy HRn hs
    go_enter Tryd.func48, Tryd.ntmps48
    go_wp2_with fail
    generalize (((w.alloc (.cells #[.int .i64 L, .slice A n c, .slice B m d] 42)).alloc (.cells #[.int .i64 a, .int .i64 q] 39)).alloc (.cells #[.int .i64 2, .int .i64 s, .int .i64 u, .int .i64 t] 47)).alloc (.cells #[.int .i64 0, .int .i64 0] 39) = v at *
    have hRv := RX.out.gr G0
    refine region_grows [(8, .is (.slice B m d)), (11, .is (.bool false))] (by kernel_rfl) (by kernel_rfl) ?_
    (refine lz_one rfl (fun K hK => ?_); refine ⟨rfl, ?_⟩; apply Exists.intro; refine ⟨fun wz hz => ?_, ?_⟩; (focus (skip; go_simp; (first | done | exact ⟨rfl, rfl⟩ | trivial))); (go_simp; refine hK _ _ ?_; clear hK K))
    (refine lz_one rfl (fun K hK => ?_); refine ⟨rfl, ?_⟩; apply Exists.intro; refine ⟨fun wz hz => ?_, ?_⟩; (focus (obtain ⟨b0, b1, b2, b3, -⟩ := (B2.gr hz).four; go_simp; (first | done | exact ⟨rfl, rfl⟩ | trivial))); (go_simp; refine hK _ _ ?_; clear hK K))
    (refine lz_one rfl (fun K hK => ?_); refine ⟨rfl, ?_⟩; apply Exists.intro; refine ⟨fun wz hz => ?_, ?_⟩; (focus (skip; go_simp; (first | done | exact ⟨rfl, rfl⟩ | trivial))); (go_simp; refine hK _ _ ?_; clear hK K))
    (refine lz_one rfl (fun K hK => ?_); refine ⟨rfl, ?_⟩; apply Exists.intro; refine ⟨fun wz hz => ?_, ?_⟩; (focus (skip; go_simp; (first | done | exact ⟨rfl, rfl⟩ | trivial))); (go_simp; refine hK _ _ ?_; clear hK K))
    (refine lz_one rfl (fun K hK => ?_); refine ⟨rfl, ?_⟩; apply Exists.intro; refine ⟨fun wz hz => ?_, ?_⟩; (focus (obtain ⟨b0, b1, b2, -⟩ := (B0.gr hz).trio; go_simp; (first | done | exact ⟨rfl, rfl⟩ | trivial))); (go_simp; refine hK _ _ ?_; clear hK K))
    (refine lz_one rfl (fun K hK => ?_); refine ⟨rfl, ?_⟩; apply Exists.intro; refine ⟨fun wz hz => ?_, ?_⟩; (focus (skip; go_simp; (first | done | exact ⟨rfl, rfl⟩ | trivial))); (go_simp; refine hK _ _ ?_; clear hK K))
    (refine lz_one rfl (fun K hK => ?_); refine ⟨rfl, ?_⟩; apply Exists.intro; refine ⟨fun wz hz => ?_, ?_⟩; (focus (obtain ⟨b0, b1, b2, b3, -⟩ := (B2.gr hz).four; go_simp; (first | done | exact ⟨rfl, rfl⟩ | trivial))); (go_simp; refine hK _ _ ?_; clear hK K))
    (refine lz_one rfl (fun K hK => ?_); refine ⟨rfl, ?_⟩; apply Exists.intro; refine ⟨fun wz hz => ?_, ?_⟩; (focus (skip; go_simp; (first | done | exact ⟨rfl, rfl⟩ | trivial))); (go_simp; refine hK _ _ ?_; clear hK K))
    (refine lz_many _ rfl (fun K hK => ?_); refine ⟨rfl, fun wz hz ha => ?_, fun vz wz hz hf => ?_⟩; (focus (go_simp; exact lg_call hz (HO.out _))); (obtain rfl := hf; clear hz wz; go_simp; refine hK _ _ ?_; clear hK K))
    (refine lz_one rfl (fun K hK => ?_); refine ⟨rfl, ?_⟩; apply Exists.intro; refine ⟨fun wz hz => ?_, ?_⟩; (focus (skip; go_simp; (first | done | exact ⟨rfl, rfl⟩ | trivial))); (go_simp; refine hK _ _ ?_; clear hK K))
    (refine lz_one rfl (fun K hK => ?_); refine ⟨rfl, ?_⟩; apply Exists.intro; refine ⟨fun wz hz => ?_, ?_⟩; (focus (obtain ⟨b0, b1, b2, b3, -⟩ := (B2.gr hz).four; go_simp; (first | done | exact ⟨rfl, rfl⟩ | trivial))); (go_simp; refine hK _ _ ?_; clear hK K))
    (refine lz_many _ rfl (fun K hK => ?_); refine ⟨rfl, fun wz hz ha => ?_, fun vz wz hz hf => ?_⟩; (focus (go_simp; exact lg_call hz ((HB.out _ (hRv.gr hz)).mono fun _ _ h => ⟨h.1, h.2 ▸ Gr.refl _⟩))); (obtain rfl := hf; clear hz wz; go_simp; refine hK _ _ ?_; clear hK K))
    (refine lz_one rfl (fun K hK => ?_); refine ⟨rfl, ?_⟩; apply Exists.intro; refine ⟨fun wz hz => ?_, ?_⟩; (focus (skip; go_simp; (first | done | exact ⟨rfl, rfl⟩ | trivial))); (go_simp; refine hK _ _ ?_; clear hK K))
    (refine lz_one rfl (fun K hK => ?_); refine ⟨rfl, ?_⟩; apply Exists.intro; refine ⟨fun wz hz => ?_, ?_⟩; (focus (skip; go_simp; (first | done | exact ⟨rfl, rfl⟩ | trivial))); (go_simp; refine hK _ _ ?_; clear hK K))
    refine lz_nil ?_
    intro w2 hz hgg
    clear hgg
    clear HB HO hRv
    have G2 := G0.trans hz
    obtain ⟨r0, r1, rf⟩ := (B3.gr hz).two
    have rl := (B3.gr hz).lt
    go_wp2_with fail
    ((try simp only [Exit.inBlock, Exit.then]); refine bodyPost_ret (v := .tuple #[.agg #[.int .i64 (0), .int .i64 (0)], .bool false]) (by simp [results, Tryd.results48, go_sem, r0, r1, World.cell?_setCell_same']) rfl ?_)
    rw [HR.out]
    exact ⟨rfl, Gr.of_below ((G2.below.setCell (by show w.heap.size ≤ w.heap.size + 1 + 1 + 1; omega) _).setCell (by show w.heap.size ≤ w.heap.size + 1 + 1 + 1; omega) _)⟩
set_option maxRecDepth 100000 in
set_option maxHeartbeats 8000000 in
theorem apply_3 (a q s u t : Int) (L : Int) (A B : Option Addr) (n c m d : Nat) (xs ys : List Int) (w : World) (hx : xs.length = n) (hy : ys.length = m) (hn : n ≤ 16777216) (hm : m ≤ 16777216) (hnc : n ≤ c) (hmd : m ≤ d) (hX : Reads w w.heap.size A (xs.map vi)) (hY : Reads w w.heap.size B (ys.map vi)) (hq : sgB a q = true) :
    Calls Tryd.prog 48 #[.agg #[.int .i64 L, .slice A n c, .slice B m d], .agg #[.int .i64 (a), .int .i64 (q)], .agg #[.int .i64 (3), .int .i64 (s), .int .i64 (u), .int .i64 (t)]] w (ApW (apR xs ys (3, s, u, t) a q) w) := by
  obtain ⟨a1, a2, q1, q2⟩ := sg_bd hq
  have HR := Lib.hid (apR_has (xs := xs) (ys := ys) (a := a) (c := q) (mvH_p xs ys 3 s u t (by omega)) (mvN_3 s u t a q))
  have HSt := Lib.hid (fun W => setting_spec q q W)
  obtain ⟨B0, B1, B2, B3, G0⟩ := boxes4 w 42 39 47 39 #[.int .i64 L, .slice A n c, .slice B m d] #[.int .i64 a, .int .i64 q] #[.int .i64 3, .int .i64 s, .int .i64 u, .int .i64 t] #[.int .i64 0, .int .i64 0]
  generalize sgB q q = sb at *
  generalize apR xs ys (3, s, u, t) a q = R at *
  clear hx hy hX hY hq
  go_enter Tryd.func48, Tryd.ntmps48
  go_wp2_with fail
  generalize (((w.alloc (.cells #[.int .i64 L, .slice A n c, .slice B m d] 42)).alloc (.cells #[.int .i64 a, .int .i64 q] 39)).alloc (.cells #[.int .i64 3, .int .i64 s, .int .i64 u, .int .i64 t] 47)).alloc (.cells #[.int .i64 0, .int .i64 0] 39) = v at *
  refine region_grows [] (by kernel_rfl) (by kernel_rfl) ?_
  (refine lz_one rfl (fun K hK => ?_); refine ⟨rfl, ?_⟩; apply Exists.intro; refine ⟨fun wz hz => ?_, ?_⟩; (focus (skip; go_simp; (first | done | exact ⟨rfl, rfl⟩ | trivial))); (go_simp; refine hK _ _ ?_; clear hK K))
  (refine lz_one rfl (fun K hK => ?_); refine ⟨rfl, ?_⟩; apply Exists.intro; refine ⟨fun wz hz => ?_, ?_⟩; (focus (obtain ⟨b0, b1, b2, b3, -⟩ := (B2.gr hz).four; go_simp; (first | done | exact ⟨rfl, rfl⟩ | trivial))); (go_simp; refine hK _ _ ?_; clear hK K))
  (refine lz_one rfl (fun K hK => ?_); refine ⟨rfl, ?_⟩; apply Exists.intro; refine ⟨fun wz hz => ?_, ?_⟩; (focus (skip; go_simp; (first | done | exact ⟨rfl, rfl⟩ | trivial))); (go_simp; refine hK _ _ ?_; clear hK K))
  (refine lz_one rfl (fun K hK => ?_); refine ⟨rfl, ?_⟩; apply Exists.intro; refine ⟨fun wz hz => ?_, ?_⟩; (focus (skip; go_simp; (first | done | exact ⟨rfl, rfl⟩ | trivial))); (go_simp; refine hK _ _ ?_; clear hK K))
  (refine lz_skip (fun K hK => ?_); refine ⟨rfl, ?_⟩; go_simp; refine hK _ _ ?_; clear hK K)
  (refine lz_skip (fun K hK => ?_); refine ⟨rfl, ?_⟩; go_simp; refine hK _ _ ?_; clear hK K)
  (refine lz_skip (fun K hK => ?_); refine ⟨rfl, ?_⟩; go_simp; refine hK _ _ ?_; clear hK K)
  (refine lz_skip (fun K hK => ?_); refine ⟨rfl, ?_⟩; go_simp; refine hK _ _ ?_; clear hK K)
  (refine lz_skip (fun K hK => ?_); refine ⟨rfl, ?_⟩; go_simp; refine hK _ _ ?_; clear hK K)
  (refine lz_skip (fun K hK => ?_); refine ⟨rfl, ?_⟩; go_simp; refine hK _ _ ?_; clear hK K)
  (refine lz_skip (fun K hK => ?_); refine ⟨rfl, ?_⟩; go_simp; refine hK _ _ ?_; clear hK K)
  (refine lz_skip (fun K hK => ?_); refine ⟨rfl, ?_⟩; go_simp; refine hK _ _ ?_; clear hK K)
  (refine lz_skip (fun K hK => ?_); refine ⟨rfl, ?_⟩; go_simp; refine hK _ _ ?_; clear hK K)
  (refine lz_one rfl (fun K hK => ?_); refine ⟨rfl, ?_⟩; apply Exists.intro; refine ⟨fun wz hz => ?_, ?_⟩; (focus (skip; go_simp; (first | done | exact ⟨rfl, rfl⟩ | trivial))); (go_simp; refine hK _ _ ?_; clear hK K))
  refine lz_nil ?_
  intro w2 hz hgg
  clear hgg
  have G2 := G0.trans hz
  have hvs := hz.below.size
  replace B1 := B1.gr hz
  replace B2 := B2.gr hz
  replace B3 := B3.gr hz
  obtain ⟨s0, s1, -⟩ := B1.two
  obtain ⟨m0, m1, m2, m3, -⟩ := B2.four
  have lt3 := B3.lt
  have lt2 := B2.lt
  have lt1 := B1.lt
  have hvw := G0.below.size
  clear hz
  clear B0
  go_wp2_with fail
  have O4 := (Blk.new w2 39 #[.int .i64 q, .int .i64 q])
  have R4 := B3.alloc (.cells #[.int .i64 q, .int .i64 q] 39)
  have h24 : Below w2.heap.size w2 (w2.alloc (.cells #[.int .i64 q, .int .i64 q] 39)) := (Below.refl _ _).alloc (Nat.le_refl _) _
  clear s0 s1 m0 m1 m2 m3 B1 B2 B3
  generalize w2.alloc (.cells #[.int .i64 q, .int .i64 q] 39) = w4 at *
  have h4 := G2.below.trans (h24.mono G2.below.size)
  have hws := G2.below.size
  have hw4 := h4.size
  have HX := Lib.hid (fun wz (hz : CW (w.heap.size + 1 + 1 + 1) (fun wz => ∃ y z, Blk wz (w.heap.size + 1 + 1 + 1) 39 #[y, z]) w4 wz) => (hz.gx.keeps O4 (by omega)).two)
  have hp : ∀ a' b', Gr a' b' → (∃ y z, Blk a' (w.heap.size + 1 + 1 + 1) 39 #[y, z]) → (∃ y z, Blk b' (w.heap.size + 1 + 1 + 1) 39 #[y, z]) := fun a' b' hg ⟨y, z, h⟩ => ⟨y, z, h.gr hg⟩
  refine region_writes 3 (w.heap.size + 1 + 1 + 1) 39 #[.int .i64 q, .int .i64 q] [(2, .bool sb)] (fun wz => ∃ y z, Blk wz (w.heap.size + 1 + 1 + 1) 39 #[y, z]) ⟨_, _, R4⟩ (by kernel_rfl) (by kernel_rfl) ?_
  (refine lz_one rfl (fun K hK => ?_); refine ⟨rfl, ?_⟩; apply Exists.intro; refine ⟨fun wz hz => ?_, ?_⟩; (focus (obtain ⟨o0, o1, -⟩ := HX.out wz hz; go_simp; (first | done | exact ⟨rfl, rfl⟩ | trivial))); (go_simp; refine hK _ _ ?_; clear hK K))
  (refine lz_one rfl (fun K hK => ?_); refine ⟨rfl, ?_⟩; apply Exists.intro; refine ⟨fun wz hz => ?_, ?_⟩; (focus (obtain ⟨o0, o1, -⟩ := HX.out wz hz; go_simp; (first | done | exact ⟨rfl, rfl⟩ | trivial))); (go_simp; refine hK _ _ ?_; clear hK K))
  (refine lz_many _ rfl (fun K hK => ?_); refine ⟨rfl, fun wz hz ha => ?_, fun vz wz hz hf => ?_⟩; (focus (go_simp; exact lw_call (by decide) hp hz (HSt.out _))); (obtain rfl := hf; clear hz wz; go_simp; refine hK _ _ ?_; clear hK K))
  (refine lz_many _ rfl (fun K hK => ?_); refine ⟨rfl, fun wz hz ha => ?_, fun vz wz hz hf => ?_⟩; (focus (obtain ⟨y, z, hB⟩ := hz.at'; obtain ⟨b0, b1, bf⟩ := hB.two; have bl := hB.lt; go_simp; exact lw_store hz (by simp) (((Gx.of (Gr.refl _)).set 0 _).set 1 _) ⟨_, _, (hB.set 0 _).set 1 _⟩ ((hB.set 0 _).set 1 _))); (obtain - := hf; clear hz wz; go_simp; refine hK _ _ ?_; clear hK K))
  (refine lz_one rfl (fun K hK => ?_); refine ⟨rfl, ?_⟩; apply Exists.intro; refine ⟨fun wz hz => ?_, ?_⟩; (focus (skip; go_simp; (first | done | exact ⟨rfl, rfl⟩ | trivial))); (go_simp; refine hK _ _ ?_; clear hK K))
  refine lz_nil ?_
  intro w5 hz hg
  have R5 : Blk w5 (w.heap.size + 1 + 1 + 1) 39 #[.int .i64 q, .int .i64 q] := hg 3
  have h5 := h4.trans (hz.gx.below (B := w.heap.size) (by omega) (by omega))
  obtain ⟨r0, r1, -⟩ := R5.two
  clear hg hz
  go_wp2_with fail
  ((try simp only [Exit.inBlock, Exit.then]); refine bodyPost_ret (v := .tuple #[.agg #[.int .i64 (q), .int .i64 (q)], .bool sb]) (by simp [results, Tryd.results48, go_sem, r0, r1, World.cell?_setCell_same']) rfl ?_)
  rw [HR.out]
  exact ⟨rfl, Gr.of_below h5⟩
set_option maxRecDepth 100000 in
set_option maxHeartbeats 8000000 in
theorem apply_4 (a q s u t : Int) (L : Int) (A B : Option Addr) (n c m d : Nat) (xs ys : List Int) (w : World) (hx : xs.length = n) (hy : ys.length = m) (hn : n ≤ 16777216) (hm : m ≤ 16777216) (hnc : n ≤ c) (hmd : m ≤ d) (hX : Reads w w.heap.size A (xs.map vi)) (hY : Reads w w.heap.size B (ys.map vi)) (hq : sgB a q = true) :
    Calls Tryd.prog 48 #[.agg #[.int .i64 L, .slice A n c, .slice B m d], .agg #[.int .i64 (a), .int .i64 (q)], .agg #[.int .i64 (4), .int .i64 (s), .int .i64 (u), .int .i64 (t)]] w (ApW (apR xs ys (4, s, u, t) a q) w) := by
  obtain ⟨a1, a2, q1, q2⟩ := sg_bd hq
  have HR := Lib.hid (apR_has (xs := xs) (ys := ys) (a := a) (c := q) (mvH_p xs ys 4 s u t (by omega)) (mvN_4 s u t a q))
  have HSt := Lib.hid (fun W => setting_spec (q - 1048576) q W)
  obtain ⟨B0, B1, B2, B3, G0⟩ := boxes4 w 42 39 47 39 #[.int .i64 L, .slice A n c, .slice B m d] #[.int .i64 a, .int .i64 q] #[.int .i64 4, .int .i64 s, .int .i64 u, .int .i64 t] #[.int .i64 0, .int .i64 0]
  generalize sgB (q - 1048576) q = sb at *
  generalize apR xs ys (4, s, u, t) a q = R at *
  clear hx hy hX hY hq
  go_enter Tryd.func48, Tryd.ntmps48
  go_wp2_with fail
  generalize (((w.alloc (.cells #[.int .i64 L, .slice A n c, .slice B m d] 42)).alloc (.cells #[.int .i64 a, .int .i64 q] 39)).alloc (.cells #[.int .i64 4, .int .i64 s, .int .i64 u, .int .i64 t] 47)).alloc (.cells #[.int .i64 0, .int .i64 0] 39) = v at *
  refine region_grows [] (by kernel_rfl) (by kernel_rfl) ?_
  (refine lz_one rfl (fun K hK => ?_); refine ⟨rfl, ?_⟩; apply Exists.intro; refine ⟨fun wz hz => ?_, ?_⟩; (focus (skip; go_simp; (first | done | exact ⟨rfl, rfl⟩ | trivial))); (go_simp; refine hK _ _ ?_; clear hK K))
  (refine lz_one rfl (fun K hK => ?_); refine ⟨rfl, ?_⟩; apply Exists.intro; refine ⟨fun wz hz => ?_, ?_⟩; (focus (obtain ⟨b0, b1, b2, b3, -⟩ := (B2.gr hz).four; go_simp; (first | done | exact ⟨rfl, rfl⟩ | trivial))); (go_simp; refine hK _ _ ?_; clear hK K))
  (refine lz_one rfl (fun K hK => ?_); refine ⟨rfl, ?_⟩; apply Exists.intro; refine ⟨fun wz hz => ?_, ?_⟩; (focus (skip; go_simp; (first | done | exact ⟨rfl, rfl⟩ | trivial))); (go_simp; refine hK _ _ ?_; clear hK K))
  (refine lz_one rfl (fun K hK => ?_); refine ⟨rfl, ?_⟩; apply Exists.intro; refine ⟨fun wz hz => ?_, ?_⟩; (focus (skip; go_simp; (first | done | exact ⟨rfl, rfl⟩ | trivial))); (go_simp; refine hK _ _ ?_; clear hK K))
  (refine lz_skip (fun K hK => ?_); refine ⟨rfl, ?_⟩; go_simp; refine hK _ _ ?_; clear hK K)
  (refine lz_skip (fun K hK => ?_); refine ⟨rfl, ?_⟩; go_simp; refine hK _ _ ?_; clear hK K)
  (refine lz_skip (fun K hK => ?_); refine ⟨rfl, ?_⟩; go_simp; refine hK _ _ ?_; clear hK K)
  (refine lz_skip (fun K hK => ?_); refine ⟨rfl, ?_⟩; go_simp; refine hK _ _ ?_; clear hK K)
  (refine lz_skip (fun K hK => ?_); refine ⟨rfl, ?_⟩; go_simp; refine hK _ _ ?_; clear hK K)
  (refine lz_skip (fun K hK => ?_); refine ⟨rfl, ?_⟩; go_simp; refine hK _ _ ?_; clear hK K)
  (refine lz_skip (fun K hK => ?_); refine ⟨rfl, ?_⟩; go_simp; refine hK _ _ ?_; clear hK K)
  (refine lz_skip (fun K hK => ?_); refine ⟨rfl, ?_⟩; go_simp; refine hK _ _ ?_; clear hK K)
  (refine lz_skip (fun K hK => ?_); refine ⟨rfl, ?_⟩; go_simp; refine hK _ _ ?_; clear hK K)
  (refine lz_one rfl (fun K hK => ?_); refine ⟨rfl, ?_⟩; apply Exists.intro; refine ⟨fun wz hz => ?_, ?_⟩; (focus (skip; go_simp; (first | done | exact ⟨rfl, rfl⟩ | trivial))); (go_simp; refine hK _ _ ?_; clear hK K))
  refine lz_nil ?_
  intro w2 hz hgg
  clear hgg
  have G2 := G0.trans hz
  have hvs := hz.below.size
  replace B1 := B1.gr hz
  replace B2 := B2.gr hz
  replace B3 := B3.gr hz
  obtain ⟨s0, s1, -⟩ := B1.two
  obtain ⟨m0, m1, m2, m3, -⟩ := B2.four
  have lt3 := B3.lt
  have lt2 := B2.lt
  have lt1 := B1.lt
  have hvw := G0.below.size
  clear hz
  clear B0
  go_wp2_with fail
  have O4 := (Blk.new w2 39 #[.int .i64 (q - 1048576), .int .i64 q])
  have R4 := B3.alloc (.cells #[.int .i64 (q - 1048576), .int .i64 q] 39)
  have h24 : Below w2.heap.size w2 (w2.alloc (.cells #[.int .i64 (q - 1048576), .int .i64 q] 39)) := (Below.refl _ _).alloc (Nat.le_refl _) _
  clear s0 s1 m0 m1 m2 m3 B1 B2 B3
  generalize w2.alloc (.cells #[.int .i64 (q - 1048576), .int .i64 q] 39) = w4 at *
  have h4 := G2.below.trans (h24.mono G2.below.size)
  have hws := G2.below.size
  have hw4 := h4.size
  have HX := Lib.hid (fun wz (hz : CW (w.heap.size + 1 + 1 + 1) (fun wz => ∃ y z, Blk wz (w.heap.size + 1 + 1 + 1) 39 #[y, z]) w4 wz) => (hz.gx.keeps O4 (by omega)).two)
  have hp : ∀ a' b', Gr a' b' → (∃ y z, Blk a' (w.heap.size + 1 + 1 + 1) 39 #[y, z]) → (∃ y z, Blk b' (w.heap.size + 1 + 1 + 1) 39 #[y, z]) := fun a' b' hg ⟨y, z, h⟩ => ⟨y, z, h.gr hg⟩
  refine region_writes 3 (w.heap.size + 1 + 1 + 1) 39 #[.int .i64 (q - 1048576), .int .i64 q] [(2, .bool sb)] (fun wz => ∃ y z, Blk wz (w.heap.size + 1 + 1 + 1) 39 #[y, z]) ⟨_, _, R4⟩ (by kernel_rfl) (by kernel_rfl) ?_
  (refine lz_one rfl (fun K hK => ?_); refine ⟨rfl, ?_⟩; apply Exists.intro; refine ⟨fun wz hz => ?_, ?_⟩; (focus (obtain ⟨o0, o1, -⟩ := HX.out wz hz; go_simp; (first | done | exact ⟨rfl, rfl⟩ | trivial))); (go_simp; refine hK _ _ ?_; clear hK K))
  (refine lz_one rfl (fun K hK => ?_); refine ⟨rfl, ?_⟩; apply Exists.intro; refine ⟨fun wz hz => ?_, ?_⟩; (focus (obtain ⟨o0, o1, -⟩ := HX.out wz hz; go_simp; (first | done | exact ⟨rfl, rfl⟩ | trivial))); (go_simp; refine hK _ _ ?_; clear hK K))
  (refine lz_many _ rfl (fun K hK => ?_); refine ⟨rfl, fun wz hz ha => ?_, fun vz wz hz hf => ?_⟩; (focus (go_simp; exact lw_call (by decide) hp hz (HSt.out _))); (obtain rfl := hf; clear hz wz; go_simp; refine hK _ _ ?_; clear hK K))
  (refine lz_many _ rfl (fun K hK => ?_); refine ⟨rfl, fun wz hz ha => ?_, fun vz wz hz hf => ?_⟩; (focus (obtain ⟨y, z, hB⟩ := hz.at'; obtain ⟨b0, b1, bf⟩ := hB.two; have bl := hB.lt; go_simp; exact lw_store hz (by simp) (((Gx.of (Gr.refl _)).set 0 _).set 1 _) ⟨_, _, (hB.set 0 _).set 1 _⟩ ((hB.set 0 _).set 1 _))); (obtain - := hf; clear hz wz; go_simp; refine hK _ _ ?_; clear hK K))
  (refine lz_one rfl (fun K hK => ?_); refine ⟨rfl, ?_⟩; apply Exists.intro; refine ⟨fun wz hz => ?_, ?_⟩; (focus (skip; go_simp; (first | done | exact ⟨rfl, rfl⟩ | trivial))); (go_simp; refine hK _ _ ?_; clear hK K))
  refine lz_nil ?_
  intro w5 hz hg
  have R5 : Blk w5 (w.heap.size + 1 + 1 + 1) 39 #[.int .i64 (q - 1048576), .int .i64 q] := hg 3
  have h5 := h4.trans (hz.gx.below (B := w.heap.size) (by omega) (by omega))
  obtain ⟨r0, r1, -⟩ := R5.two
  clear hg hz
  go_wp2_with fail
  ((try simp only [Exit.inBlock, Exit.then]); refine bodyPost_ret (v := .tuple #[.agg #[.int .i64 ((q - 1048576)), .int .i64 (q)], .bool sb]) (by simp [results, Tryd.results48, go_sem, r0, r1, World.cell?_setCell_same']) rfl ?_)
  rw [HR.out]
  exact ⟨rfl, Gr.of_below h5⟩
set_option maxRecDepth 100000 in
set_option maxHeartbeats 8000000 in
theorem apply_5 (a q s u t : Int) (L : Int) (A B : Option Addr) (n c m d : Nat) (xs ys : List Int) (w : World) (hx : xs.length = n) (hy : ys.length = m) (hn : n ≤ 16777216) (hm : m ≤ 16777216) (hnc : n ≤ c) (hmd : m ≤ d) (hX : Reads w w.heap.size A (xs.map vi)) (hY : Reads w w.heap.size B (ys.map vi)) (hq : sgB a q = true) :
    Calls Tryd.prog 48 #[.agg #[.int .i64 L, .slice A n c, .slice B m d], .agg #[.int .i64 (a), .int .i64 (q)], .agg #[.int .i64 (5), .int .i64 (s), .int .i64 (u), .int .i64 (t)]] w (ApW (apR xs ys (5, s, u, t) a q) w) := by
  obtain ⟨a1, a2, q1, q2⟩ := sg_bd hq
  have HR := Lib.hid (apR_has (xs := xs) (ys := ys) (a := a) (c := q) (mvH_p xs ys 5 s u t (by omega)) (mvN_5 s u t a q))
  have HSt := Lib.hid (fun W => setting_spec a a W)
  obtain ⟨B0, B1, B2, B3, G0⟩ := boxes4 w 42 39 47 39 #[.int .i64 L, .slice A n c, .slice B m d] #[.int .i64 a, .int .i64 q] #[.int .i64 5, .int .i64 s, .int .i64 u, .int .i64 t] #[.int .i64 0, .int .i64 0]
  generalize sgB a a = sb at *
  generalize apR xs ys (5, s, u, t) a q = R at *
  clear hx hy hX hY hq
  go_enter Tryd.func48, Tryd.ntmps48
  go_wp2_with fail
  generalize (((w.alloc (.cells #[.int .i64 L, .slice A n c, .slice B m d] 42)).alloc (.cells #[.int .i64 a, .int .i64 q] 39)).alloc (.cells #[.int .i64 5, .int .i64 s, .int .i64 u, .int .i64 t] 47)).alloc (.cells #[.int .i64 0, .int .i64 0] 39) = v at *
  refine region_grows [] (by kernel_rfl) (by kernel_rfl) ?_
  (refine lz_one rfl (fun K hK => ?_); refine ⟨rfl, ?_⟩; apply Exists.intro; refine ⟨fun wz hz => ?_, ?_⟩; (focus (skip; go_simp; (first | done | exact ⟨rfl, rfl⟩ | trivial))); (go_simp; refine hK _ _ ?_; clear hK K))
  (refine lz_one rfl (fun K hK => ?_); refine ⟨rfl, ?_⟩; apply Exists.intro; refine ⟨fun wz hz => ?_, ?_⟩; (focus (obtain ⟨b0, b1, b2, b3, -⟩ := (B2.gr hz).four; go_simp; (first | done | exact ⟨rfl, rfl⟩ | trivial))); (go_simp; refine hK _ _ ?_; clear hK K))
  (refine lz_one rfl (fun K hK => ?_); refine ⟨rfl, ?_⟩; apply Exists.intro; refine ⟨fun wz hz => ?_, ?_⟩; (focus (skip; go_simp; (first | done | exact ⟨rfl, rfl⟩ | trivial))); (go_simp; refine hK _ _ ?_; clear hK K))
  (refine lz_one rfl (fun K hK => ?_); refine ⟨rfl, ?_⟩; apply Exists.intro; refine ⟨fun wz hz => ?_, ?_⟩; (focus (skip; go_simp; (first | done | exact ⟨rfl, rfl⟩ | trivial))); (go_simp; refine hK _ _ ?_; clear hK K))
  (refine lz_skip (fun K hK => ?_); refine ⟨rfl, ?_⟩; go_simp; refine hK _ _ ?_; clear hK K)
  (refine lz_skip (fun K hK => ?_); refine ⟨rfl, ?_⟩; go_simp; refine hK _ _ ?_; clear hK K)
  (refine lz_skip (fun K hK => ?_); refine ⟨rfl, ?_⟩; go_simp; refine hK _ _ ?_; clear hK K)
  (refine lz_skip (fun K hK => ?_); refine ⟨rfl, ?_⟩; go_simp; refine hK _ _ ?_; clear hK K)
  (refine lz_skip (fun K hK => ?_); refine ⟨rfl, ?_⟩; go_simp; refine hK _ _ ?_; clear hK K)
  (refine lz_skip (fun K hK => ?_); refine ⟨rfl, ?_⟩; go_simp; refine hK _ _ ?_; clear hK K)
  (refine lz_skip (fun K hK => ?_); refine ⟨rfl, ?_⟩; go_simp; refine hK _ _ ?_; clear hK K)
  (refine lz_skip (fun K hK => ?_); refine ⟨rfl, ?_⟩; go_simp; refine hK _ _ ?_; clear hK K)
  (refine lz_skip (fun K hK => ?_); refine ⟨rfl, ?_⟩; go_simp; refine hK _ _ ?_; clear hK K)
  (refine lz_one rfl (fun K hK => ?_); refine ⟨rfl, ?_⟩; apply Exists.intro; refine ⟨fun wz hz => ?_, ?_⟩; (focus (skip; go_simp; (first | done | exact ⟨rfl, rfl⟩ | trivial))); (go_simp; refine hK _ _ ?_; clear hK K))
  refine lz_nil ?_
  intro w2 hz hgg
  clear hgg
  have G2 := G0.trans hz
  have hvs := hz.below.size
  replace B1 := B1.gr hz
  replace B2 := B2.gr hz
  replace B3 := B3.gr hz
  obtain ⟨s0, s1, -⟩ := B1.two
  obtain ⟨m0, m1, m2, m3, -⟩ := B2.four
  have lt3 := B3.lt
  have lt2 := B2.lt
  have lt1 := B1.lt
  have hvw := G0.below.size
  clear hz
  clear B0
  go_wp2_with fail
  have O4 := (Blk.new w2 39 #[.int .i64 a, .int .i64 a])
  have R4 := B3.alloc (.cells #[.int .i64 a, .int .i64 a] 39)
  have h24 : Below w2.heap.size w2 (w2.alloc (.cells #[.int .i64 a, .int .i64 a] 39)) := (Below.refl _ _).alloc (Nat.le_refl _) _
  clear s0 s1 m0 m1 m2 m3 B1 B2 B3
  generalize w2.alloc (.cells #[.int .i64 a, .int .i64 a] 39) = w4 at *
  have h4 := G2.below.trans (h24.mono G2.below.size)
  have hws := G2.below.size
  have hw4 := h4.size
  have HX := Lib.hid (fun wz (hz : CW (w.heap.size + 1 + 1 + 1) (fun wz => ∃ y z, Blk wz (w.heap.size + 1 + 1 + 1) 39 #[y, z]) w4 wz) => (hz.gx.keeps O4 (by omega)).two)
  have hp : ∀ a' b', Gr a' b' → (∃ y z, Blk a' (w.heap.size + 1 + 1 + 1) 39 #[y, z]) → (∃ y z, Blk b' (w.heap.size + 1 + 1 + 1) 39 #[y, z]) := fun a' b' hg ⟨y, z, h⟩ => ⟨y, z, h.gr hg⟩
  refine region_writes 3 (w.heap.size + 1 + 1 + 1) 39 #[.int .i64 a, .int .i64 a] [(2, .bool sb)] (fun wz => ∃ y z, Blk wz (w.heap.size + 1 + 1 + 1) 39 #[y, z]) ⟨_, _, R4⟩ (by kernel_rfl) (by kernel_rfl) ?_
  (refine lz_one rfl (fun K hK => ?_); refine ⟨rfl, ?_⟩; apply Exists.intro; refine ⟨fun wz hz => ?_, ?_⟩; (focus (obtain ⟨o0, o1, -⟩ := HX.out wz hz; go_simp; (first | done | exact ⟨rfl, rfl⟩ | trivial))); (go_simp; refine hK _ _ ?_; clear hK K))
  (refine lz_one rfl (fun K hK => ?_); refine ⟨rfl, ?_⟩; apply Exists.intro; refine ⟨fun wz hz => ?_, ?_⟩; (focus (obtain ⟨o0, o1, -⟩ := HX.out wz hz; go_simp; (first | done | exact ⟨rfl, rfl⟩ | trivial))); (go_simp; refine hK _ _ ?_; clear hK K))
  (refine lz_many _ rfl (fun K hK => ?_); refine ⟨rfl, fun wz hz ha => ?_, fun vz wz hz hf => ?_⟩; (focus (go_simp; exact lw_call (by decide) hp hz (HSt.out _))); (obtain rfl := hf; clear hz wz; go_simp; refine hK _ _ ?_; clear hK K))
  (refine lz_many _ rfl (fun K hK => ?_); refine ⟨rfl, fun wz hz ha => ?_, fun vz wz hz hf => ?_⟩; (focus (obtain ⟨y, z, hB⟩ := hz.at'; obtain ⟨b0, b1, bf⟩ := hB.two; have bl := hB.lt; go_simp; exact lw_store hz (by simp) (((Gx.of (Gr.refl _)).set 0 _).set 1 _) ⟨_, _, (hB.set 0 _).set 1 _⟩ ((hB.set 0 _).set 1 _))); (obtain - := hf; clear hz wz; go_simp; refine hK _ _ ?_; clear hK K))
  (refine lz_one rfl (fun K hK => ?_); refine ⟨rfl, ?_⟩; apply Exists.intro; refine ⟨fun wz hz => ?_, ?_⟩; (focus (skip; go_simp; (first | done | exact ⟨rfl, rfl⟩ | trivial))); (go_simp; refine hK _ _ ?_; clear hK K))
  refine lz_nil ?_
  intro w5 hz hg
  have R5 : Blk w5 (w.heap.size + 1 + 1 + 1) 39 #[.int .i64 a, .int .i64 a] := hg 3
  have h5 := h4.trans (hz.gx.below (B := w.heap.size) (by omega) (by omega))
  obtain ⟨r0, r1, -⟩ := R5.two
  clear hg hz
  go_wp2_with fail
  ((try simp only [Exit.inBlock, Exit.then]); refine bodyPost_ret (v := .tuple #[.agg #[.int .i64 (a), .int .i64 (a)], .bool sb]) (by simp [results, Tryd.results48, go_sem, r0, r1, World.cell?_setCell_same']) rfl ?_)
  rw [HR.out]
  exact ⟨rfl, Gr.of_below h5⟩
set_option maxRecDepth 100000 in
set_option maxHeartbeats 8000000 in
theorem apply_6 (a q s u t : Int) (L : Int) (A B : Option Addr) (n c m d : Nat) (xs ys : List Int) (w : World) (hx : xs.length = n) (hy : ys.length = m) (hn : n ≤ 16777216) (hm : m ≤ 16777216) (hnc : n ≤ c) (hmd : m ≤ d) (hX : Reads w w.heap.size A (xs.map vi)) (hY : Reads w w.heap.size B (ys.map vi)) (hq : sgB a q = true) :
    Calls Tryd.prog 48 #[.agg #[.int .i64 L, .slice A n c, .slice B m d], .agg #[.int .i64 (a), .int .i64 (q)], .agg #[.int .i64 (6), .int .i64 (s), .int .i64 (u), .int .i64 (t)]] w (ApW (apR xs ys (6, s, u, t) a q) w) := by
  obtain ⟨a1, a2, q1, q2⟩ := sg_bd hq
  have HR := Lib.hid (apR_has (xs := xs) (ys := ys) (a := a) (c := q) (mvH_p xs ys 6 s u t (by omega)) (mvN_6 s u t a q))
  have HSt := Lib.hid (fun W => setting_spec a (a + 1048576) W)
  obtain ⟨B0, B1, B2, B3, G0⟩ := boxes4 w 42 39 47 39 #[.int .i64 L, .slice A n c, .slice B m d] #[.int .i64 a, .int .i64 q] #[.int .i64 6, .int .i64 s, .int .i64 u, .int .i64 t] #[.int .i64 0, .int .i64 0]
  generalize sgB a (a + 1048576) = sb at *
  generalize apR xs ys (6, s, u, t) a q = R at *
  clear hx hy hX hY hq
  go_enter Tryd.func48, Tryd.ntmps48
  go_wp2_with fail
  generalize (((w.alloc (.cells #[.int .i64 L, .slice A n c, .slice B m d] 42)).alloc (.cells #[.int .i64 a, .int .i64 q] 39)).alloc (.cells #[.int .i64 6, .int .i64 s, .int .i64 u, .int .i64 t] 47)).alloc (.cells #[.int .i64 0, .int .i64 0] 39) = v at *
  refine region_grows [] (by kernel_rfl) (by kernel_rfl) ?_
  (refine lz_one rfl (fun K hK => ?_); refine ⟨rfl, ?_⟩; apply Exists.intro; refine ⟨fun wz hz => ?_, ?_⟩; (focus (skip; go_simp; (first | done | exact ⟨rfl, rfl⟩ | trivial))); (go_simp; refine hK _ _ ?_; clear hK K))
  (refine lz_one rfl (fun K hK => ?_); refine ⟨rfl, ?_⟩; apply Exists.intro; refine ⟨fun wz hz => ?_, ?_⟩; (focus (obtain ⟨b0, b1, b2, b3, -⟩ := (B2.gr hz).four; go_simp; (first | done | exact ⟨rfl, rfl⟩ | trivial))); (go_simp; refine hK _ _ ?_; clear hK K))
  (refine lz_one rfl (fun K hK => ?_); refine ⟨rfl, ?_⟩; apply Exists.intro; refine ⟨fun wz hz => ?_, ?_⟩; (focus (skip; go_simp; (first | done | exact ⟨rfl, rfl⟩ | trivial))); (go_simp; refine hK _ _ ?_; clear hK K))
  (refine lz_one rfl (fun K hK => ?_); refine ⟨rfl, ?_⟩; apply Exists.intro; refine ⟨fun wz hz => ?_, ?_⟩; (focus (skip; go_simp; (first | done | exact ⟨rfl, rfl⟩ | trivial))); (go_simp; refine hK _ _ ?_; clear hK K))
  (refine lz_skip (fun K hK => ?_); refine ⟨rfl, ?_⟩; go_simp; refine hK _ _ ?_; clear hK K)
  (refine lz_skip (fun K hK => ?_); refine ⟨rfl, ?_⟩; go_simp; refine hK _ _ ?_; clear hK K)
  (refine lz_skip (fun K hK => ?_); refine ⟨rfl, ?_⟩; go_simp; refine hK _ _ ?_; clear hK K)
  (refine lz_skip (fun K hK => ?_); refine ⟨rfl, ?_⟩; go_simp; refine hK _ _ ?_; clear hK K)
  (refine lz_skip (fun K hK => ?_); refine ⟨rfl, ?_⟩; go_simp; refine hK _ _ ?_; clear hK K)
  (refine lz_skip (fun K hK => ?_); refine ⟨rfl, ?_⟩; go_simp; refine hK _ _ ?_; clear hK K)
  (refine lz_skip (fun K hK => ?_); refine ⟨rfl, ?_⟩; go_simp; refine hK _ _ ?_; clear hK K)
  (refine lz_skip (fun K hK => ?_); refine ⟨rfl, ?_⟩; go_simp; refine hK _ _ ?_; clear hK K)
  (refine lz_skip (fun K hK => ?_); refine ⟨rfl, ?_⟩; go_simp; refine hK _ _ ?_; clear hK K)
  (refine lz_one rfl (fun K hK => ?_); refine ⟨rfl, ?_⟩; apply Exists.intro; refine ⟨fun wz hz => ?_, ?_⟩; (focus (skip; go_simp; (first | done | exact ⟨rfl, rfl⟩ | trivial))); (go_simp; refine hK _ _ ?_; clear hK K))
  refine lz_nil ?_
  intro w2 hz hgg
  clear hgg
  have G2 := G0.trans hz
  have hvs := hz.below.size
  replace B1 := B1.gr hz
  replace B2 := B2.gr hz
  replace B3 := B3.gr hz
  obtain ⟨s0, s1, -⟩ := B1.two
  obtain ⟨m0, m1, m2, m3, -⟩ := B2.four
  have lt3 := B3.lt
  have lt2 := B2.lt
  have lt1 := B1.lt
  have hvw := G0.below.size
  clear hz
  clear B0
  go_wp2_with fail
  have O4 := (Blk.new w2 39 #[.int .i64 a, .int .i64 (a + 1048576)])
  have R4 := B3.alloc (.cells #[.int .i64 a, .int .i64 (a + 1048576)] 39)
  have h24 : Below w2.heap.size w2 (w2.alloc (.cells #[.int .i64 a, .int .i64 (a + 1048576)] 39)) := (Below.refl _ _).alloc (Nat.le_refl _) _
  clear s0 s1 m0 m1 m2 m3 B1 B2 B3
  generalize w2.alloc (.cells #[.int .i64 a, .int .i64 (a + 1048576)] 39) = w4 at *
  have h4 := G2.below.trans (h24.mono G2.below.size)
  have hws := G2.below.size
  have hw4 := h4.size
  have HX := Lib.hid (fun wz (hz : CW (w.heap.size + 1 + 1 + 1) (fun wz => ∃ y z, Blk wz (w.heap.size + 1 + 1 + 1) 39 #[y, z]) w4 wz) => (hz.gx.keeps O4 (by omega)).two)
  have hp : ∀ a' b', Gr a' b' → (∃ y z, Blk a' (w.heap.size + 1 + 1 + 1) 39 #[y, z]) → (∃ y z, Blk b' (w.heap.size + 1 + 1 + 1) 39 #[y, z]) := fun a' b' hg ⟨y, z, h⟩ => ⟨y, z, h.gr hg⟩
  refine region_writes 3 (w.heap.size + 1 + 1 + 1) 39 #[.int .i64 a, .int .i64 (a + 1048576)] [(2, .bool sb)] (fun wz => ∃ y z, Blk wz (w.heap.size + 1 + 1 + 1) 39 #[y, z]) ⟨_, _, R4⟩ (by kernel_rfl) (by kernel_rfl) ?_
  (refine lz_one rfl (fun K hK => ?_); refine ⟨rfl, ?_⟩; apply Exists.intro; refine ⟨fun wz hz => ?_, ?_⟩; (focus (obtain ⟨o0, o1, -⟩ := HX.out wz hz; go_simp; (first | done | exact ⟨rfl, rfl⟩ | trivial))); (go_simp; refine hK _ _ ?_; clear hK K))
  (refine lz_one rfl (fun K hK => ?_); refine ⟨rfl, ?_⟩; apply Exists.intro; refine ⟨fun wz hz => ?_, ?_⟩; (focus (obtain ⟨o0, o1, -⟩ := HX.out wz hz; go_simp; (first | done | exact ⟨rfl, rfl⟩ | trivial))); (go_simp; refine hK _ _ ?_; clear hK K))
  (refine lz_many _ rfl (fun K hK => ?_); refine ⟨rfl, fun wz hz ha => ?_, fun vz wz hz hf => ?_⟩; (focus (go_simp; exact lw_call (by decide) hp hz (HSt.out _))); (obtain rfl := hf; clear hz wz; go_simp; refine hK _ _ ?_; clear hK K))
  (refine lz_many _ rfl (fun K hK => ?_); refine ⟨rfl, fun wz hz ha => ?_, fun vz wz hz hf => ?_⟩; (focus (obtain ⟨y, z, hB⟩ := hz.at'; obtain ⟨b0, b1, bf⟩ := hB.two; have bl := hB.lt; go_simp; exact lw_store hz (by simp) (((Gx.of (Gr.refl _)).set 0 _).set 1 _) ⟨_, _, (hB.set 0 _).set 1 _⟩ ((hB.set 0 _).set 1 _))); (obtain - := hf; clear hz wz; go_simp; refine hK _ _ ?_; clear hK K))
  (refine lz_one rfl (fun K hK => ?_); refine ⟨rfl, ?_⟩; apply Exists.intro; refine ⟨fun wz hz => ?_, ?_⟩; (focus (skip; go_simp; (first | done | exact ⟨rfl, rfl⟩ | trivial))); (go_simp; refine hK _ _ ?_; clear hK K))
  refine lz_nil ?_
  intro w5 hz hg
  have R5 : Blk w5 (w.heap.size + 1 + 1 + 1) 39 #[.int .i64 a, .int .i64 (a + 1048576)] := hg 3
  have h5 := h4.trans (hz.gx.below (B := w.heap.size) (by omega) (by omega))
  obtain ⟨r0, r1, -⟩ := R5.two
  clear hg hz
  go_wp2_with fail
  ((try simp only [Exit.inBlock, Exit.then]); refine bodyPost_ret (v := .tuple #[.agg #[.int .i64 (a), .int .i64 ((a + 1048576))], .bool sb]) (by simp [results, Tryd.results48, go_sem, r0, r1, World.cell?_setCell_same']) rfl ?_)
  rw [HR.out]
  exact ⟨rfl, Gr.of_below h5⟩
theorem apply_spec (k a q s u t : Int) (L : Int) (A B : Option Addr) (n c m d : Nat) (xs ys : List Int) (w : World) (hx : xs.length = n) (hy : ys.length = m) (hn : n ≤ 16777216) (hm : m ≤ 16777216) (hnc : n ≤ c) (hmd : m ≤ d) (hX : Reads w w.heap.size A (xs.map vi)) (hY : Reads w w.heap.size B (ys.map vi)) (hv : mvB (k, s, u, t) = true) (hq : sgB a q = true) :
    Calls Tryd.prog 48 #[.agg #[.int .i64 L, .slice A n c, .slice B m d], .agg #[.int .i64 (a), .int .i64 (q)], .agg #[.int .i64 (k), .int .i64 (s), .int .i64 (u), .int .i64 (t)]] w (ApW (apR xs ys (k, s, u, t) a q) w) := by
  rcases mvB_cases hv with ⟨hk, h1, h2⟩ | ⟨hk, -, -, -⟩
  · rcases hk with rfl | rfl | rfl
    · exact apply_0 a q s u t L A B n c m d xs ys w hx hy hn hm hnc hmd hX hY ⟨h1, h2⟩ hq
    · exact apply_1 a q s u t L A B n c m d xs ys w hx hy hn hm hnc hmd hX hY ⟨h1, h2⟩ hq
    · exact apply_2 a q s u t L A B n c m d xs ys w hx hy hn hm hnc hmd hX hY ⟨h1, h2⟩ hq
  · rcases hk with rfl | rfl | rfl | rfl
    · exact apply_3 a q s u t L A B n c m d xs ys w hx hy hn hm hnc hmd hX hY hq
    · exact apply_4 a q s u t L A B n c m d xs ys w hx hy hn hm hnc hmd hX hY hq
    · exact apply_5 a q s u t L A B n c m d xs ys w hx hy hn hm hnc hmd hX hY hq
    · exact apply_6 a q s u t L A B n c m d xs ys w hx hy hn hm hnc hmd hX hY hq
end Go.Proofs.YtefhhigcplemaaaDoor

/- Contracts of chapter 12: moves one after the other, in the model. -/
namespace Go.Proofs.YtefhhigcplemaaaDoor
open Go.RowKit
set_option linter.unusedVariables false
set_option linter.unusedSimpArgs false

theorem boxes3 (w : World) (T U X : TypeId) (a b d : Array Value) : Blk (((w.alloc (.cells a T)).alloc (.cells b U)).alloc (.cells d X)) w.heap.size T a ∧ Blk (((w.alloc (.cells a T)).alloc (.cells b U)).alloc (.cells d X)) (w.heap.size + 1) U b ∧
    Blk (((w.alloc (.cells a T)).alloc (.cells b U)).alloc (.cells d X)) (w.heap.size + 1 + 1) X d ∧ Gr w (((w.alloc (.cells a T)).alloc (.cells b U)).alloc (.cells d X)) := by
  have B0 := ((Blk.new w T a).alloc (.cells b U)).alloc (.cells d X)
  have B1 := (Blk.new (w.alloc (.cells a T)) U b).alloc (.cells d X)
  have B2 := Blk.new ((w.alloc (.cells a T)).alloc (.cells b U)) X d
  rw [World.size_alloc] at B1
  rw [World.size_alloc, World.size_alloc] at B2
  exact ⟨B0, B1, B2, (by repeat (first | with_reducible exact Gr.refl _ | with_reducible refine Gr.alloc ?_ _ | with_reducible refine Gr.gr ?_ _ _ | with_reducible refine Gr.drew ?_ | with_reducible refine Gr.drewN ?_ _))⟩
theorem start12_spec (a q : Int) (L : Int) (A B : Option Addr) (n c m d : Nat) (xs ys : List Int) (M : Option Addr) (p cp : Nat) (ms : List Mv) (w : World) (hx : xs.length = n) (hy : ys.length = m) (hn : n ≤ 16777216) (hm : m ≤ 16777216) (hnc : n ≤ c) (hmd : m ≤ d) (hX : Reads w w.heap.size A (xs.map vi)) (hY : Reads w w.heap.size B (ys.map vi)) (hml : ms.length = p) (hp : p ≤ 16777216) (hM : Reads w w.heap.size M (mcells ms)) :
    Calls Tryd.prog 45 #[.agg #[.int .i64 L, .slice A n c, .slice B m d], .agg #[.int .i64 (a), .int .i64 (q)], .slice M p cp] w fun e w' => e = .returned (.int .i64 (mvS L xs ys a q ms)) ∧ Gr w w' := by
  have HR := Lib.hid (fun W h h' => rule_spec L A B n c m d xs ys W hx hy hn hm hnc hmd h h')
  have HS := Lib.hid (fun W => setting_spec a q W)
  have HC := Lib.hid (fun W h => mcode_spec M p cp ms W hml hp h)
  have RX := Lib.hid hX
  have RY := Lib.hid hY
  have RM := Lib.hid hM
  clear hx hy hX hY hM hml
  rcases mvS_cases L xs ys a q ms with ⟨h, e⟩ | ⟨h, h2, e⟩ | ⟨h, h2, e⟩
  · rw [e]
    rw [h] at HR
    clear h e
    go_enter Tryd.func45, Tryd.ntmps45
    go_wp2_with (go_at_call 57; (with_reducible refine (HR.out _ (RX.out.gr (by repeat (first | with_reducible exact Gr.refl _ | with_reducible refine Gr.alloc ?_ _ | with_reducible refine Gr.gr ?_ _ _ | with_reducible refine Gr.drew ?_ | with_reducible refine Gr.drewN ?_ _))) (RY.out.gr (by repeat (first | with_reducible exact Gr.refl _ | with_reducible refine Gr.alloc ?_ _ | with_reducible refine Gr.gr ?_ _ _ | with_reducible refine Gr.drew ?_ | with_reducible refine Gr.drewN ?_ _)))).mono ?_); rintro e w' ⟨rfl, k, os, rfl⟩)
    go_ret
    exact ⟨rfl, (by repeat (first | with_reducible exact Gr.refl _ | with_reducible refine Gr.alloc ?_ _ | with_reducible refine Gr.gr ?_ _ _ | with_reducible refine Gr.drew ?_ | with_reducible refine Gr.drewN ?_ _))⟩
  · rw [e]
    rw [h] at HR
    rw [h2] at HS
    clear h h2 e
    go_enter Tryd.func45, Tryd.ntmps45
    go_wp2_with (first | (go_at_call 57; (with_reducible refine (HR.out _ (RX.out.gr (by repeat (first | with_reducible exact Gr.refl _ | with_reducible refine Gr.alloc ?_ _ | with_reducible refine Gr.gr ?_ _ _ | with_reducible refine Gr.drew ?_ | with_reducible refine Gr.drewN ?_ _))) (RY.out.gr (by repeat (first | with_reducible exact Gr.refl _ | with_reducible refine Gr.alloc ?_ _ | with_reducible refine Gr.gr ?_ _ _ | with_reducible refine Gr.drew ?_ | with_reducible refine Gr.drewN ?_ _)))).mono ?_); rintro e w' ⟨rfl, k, os, rfl⟩) | (go_at_call 67; (with_reducible refine (HS.out _).mono ?_); rintro e w' ⟨rfl, k2, os2, rfl⟩))
    go_ret
    exact ⟨rfl, (by repeat (first | with_reducible exact Gr.refl _ | with_reducible refine Gr.alloc ?_ _ | with_reducible refine Gr.gr ?_ _ _ | with_reducible refine Gr.drew ?_ | with_reducible refine Gr.drewN ?_ _))⟩
  · rw [e]
    rw [h] at HR
    rw [h2] at HS
    generalize mvC ms = z at *
    clear h h2 e
    go_enter Tryd.func45, Tryd.ntmps45
    go_wp2_with (first | (go_at_call 57; (with_reducible refine (HR.out _ (RX.out.gr (by repeat (first | with_reducible exact Gr.refl _ | with_reducible refine Gr.alloc ?_ _ | with_reducible refine Gr.gr ?_ _ _ | with_reducible refine Gr.drew ?_ | with_reducible refine Gr.drewN ?_ _))) (RY.out.gr (by repeat (first | with_reducible exact Gr.refl _ | with_reducible refine Gr.alloc ?_ _ | with_reducible refine Gr.gr ?_ _ _ | with_reducible refine Gr.drew ?_ | with_reducible refine Gr.drewN ?_ _)))).mono ?_); rintro e w' ⟨rfl, k, os, rfl⟩) | (go_at_call 67; (with_reducible refine (HS.out _).mono ?_); rintro e w' ⟨rfl, k2, os2, rfl⟩) | (go_at_call 38; (with_reducible refine (HC.out _ (RM.out.gr (by repeat (first | with_reducible exact Gr.refl _ | with_reducible refine Gr.alloc ?_ _ | with_reducible refine Gr.gr ?_ _ _ | with_reducible refine Gr.drew ?_ | with_reducible refine Gr.drewN ?_ _)))).mono ?_); rintro e w' ⟨rfl, k3, os3, rfl⟩))
    go_ret
    exact ⟨rfl, (by repeat (first | with_reducible exact Gr.refl _ | with_reducible refine Gr.alloc ?_ _ | with_reducible refine Gr.gr ?_ _ _ | with_reducible refine Gr.drew ?_ | with_reducible refine Gr.drewN ?_ _))⟩

/-- What l12Run answers. -/
def rnV (R : Jy × Bool) : Value := .tuple #[.agg #[.int .i64 (R.1.a), .int .i64 (R.1.c)], .int .i64 (if R.2 = true then -1 else R.1.n)]
theorem rnV_t (J : Jy) : rnV (J, true) = .tuple #[.agg #[.int .i64 (J.a), .int .i64 (J.c)], .int .i64 (-1)] := rfl
theorem rnV_f (J : Jy) : rnV (J, false) = .tuple #[.agg #[.int .i64 (J.a), .int .i64 (J.c)], .int .i64 J.n] := rfl
set_option maxRecDepth 100000 in
set_option maxHeartbeats 8000000 in
theorem run12_spec (a q : Int) (L : Int) (A B : Option Addr) (n c m d : Nat) (xs ys : List Int) (M : Option Addr) (p cp : Nat) (ms : List Mv) (w : World) (hx : xs.length = n) (hy : ys.length = m) (hn : n ≤ 16777216) (hm : m ≤ 16777216) (hnc : n ≤ c) (hmd : m ≤ d) (hX : Reads w w.heap.size A (xs.map vi)) (hY : Reads w w.heap.size B (ys.map vi)) (hml : ms.length = p) (hp : p ≤ 16777216) (hM : Reads w w.heap.size M (mcells ms)) (hv : ms.all mvB = true) (hq : sgB a q = true) :
    Calls Tryd.prog 46 #[.agg #[.int .i64 L, .slice A n c, .slice B m d], .agg #[.int .i64 (a), .int .i64 (q)], .slice M p cp] w fun e w' => e = .returned (rnV (jyRun xs ys (jy0 a q) ms)) ∧ Gr w w' := by
  have HAp := Lib.hid (fun k s u t a' q' W h h' hb hs => apply_spec k a' q' s u t L A B n c m d xs ys W hx hy hn hm hnc hmd h h' hb hs)
  have RX := Lib.hid hX
  have RY := Lib.hid hY
  have RM := Lib.hid hM
  have HL := Lib.hid hml
  have HV := Lib.hid hv
  obtain ⟨B0, B1, B2, G0⟩ := boxes3 w 42 39 39 #[.int .i64 L, .slice A n c, .slice B m d] #[.int .i64 a, .int .i64 q] #[.int .i64 0, .int .i64 0]
  have HJ := Lib.hid (show jyRun xs ys (jy0 a q) ms = jyRun xs ys (jy0 a q) (ms.drop 0) from rfl)
  have HB0 := Lib.hid (JyB.zero hq)
  generalize jyRun xs ys (jy0 a q) ms = R at *
  clear hx hy hX hY hM hml hv hq
  go_enter Tryd.func46, Tryd.ntmps46
  go_wp2_with fail
  generalize ((w.alloc (.cells #[.int .i64 L, .slice A n c, .slice B m d] 42)).alloc (.cells #[.int .i64 a, .int .i64 q] 39)).alloc (.cells #[.int .i64 0, .int .i64 0] 39) = v at *
  have hvs := B2.lt
  go_loopw [8] (fun i wr => ∃ (k : Nat) (J : Jy), k ≤ p ∧ i = .int .i64 k ∧ Hid (R = jyRun xs ys J (ms.drop k)) ∧ JyB J k ∧ Blk wr w.heap.size 42 #[.int .i64 L, .slice A n c, .slice B m d] ∧ Blk wr (w.heap.size + 1) 39 #[.int .i64 J.a, .int .i64 J.c] ∧ Blk wr (w.heap.size + 1 + 1) 39 #[.int .i64 0, .int .i64 0] ∧ Below w.heap.size w wr) (fun i _ => p - (intOf i).toNat)
  case atStart => exact ⟨0, jy0 a q, by omega, rfl, HJ, HB0.out, B0, B1, B2, G0.below⟩
  case round =>
    clear B0 B1 B2 G0 HJ HB0 hvs
    obtain ⟨k, J, hk, rfl, HR, hJ, b0, b1, b2, hW⟩ := hrel
    by_cases hlt : k < p
    · obtain ⟨mv, hmv⟩ := some_at (l := ms) (k := k) (by rw [HL.out]; exact hlt)
      obtain ⟨g, o, rfl, hg, x0, x1, x2, x3⟩ := (RM.out.below hW).at4 hmv
      have hval := all_at HV.out hmv
      have HD := Lib.hid (HR.out.trans (by rw [drop_at hmv]))
      obtain ⟨mk, s, u, t⟩ := mv
      simp only at x0 x1 x2 x3
      have HApk := Lib.hid (fun W h h' => HAp.out mk s u t J.a J.c W h h' hval hJ.1)
      have hon := apR_snd xs ys (mk, s, u, t) J.a J.c
      have hye := fun h => apR_yes (xs := xs) (ys := ys) (m := (mk, s, u, t)) (a := J.a) (c := J.c) h
      have HC := Lib.hid (fun wz (hz : Gr wr wz) => And.intro (And.intro (cell_up hz x0) (World.block_lt_of_cell? wz _ (cell_up hz x0))) (And.intro (cell_up hz x1) (And.intro (cell_up hz x2) (cell_up hz x3))))
      have hJn := hJ.2.1
      have hXY := And.intro (RX.out.below hW) (RY.out.below hW)
      have lt0 := b0.lt
      have lt1 := b1.lt
      clear hmv HR
      go_wp2_with fail
      rcases mvO_tf xs ys (mk, s, u, t) J.a J.c with ho | ho
      · have HN := Lib.hid (HD.out.trans (jyRun_yes ho))
        have hJ2 := Lib.hid (hJ.on ho)
        have e1 := hye ho
        rw [ho] at hon
        clear hye ho HD
        generalize hnx : mvN (mk, s, u, t) J.a J.c = nx at *
        obtain ⟨x, y⟩ := nx
        generalize hap : apR xs ys (mk, s, u, t) J.a J.c = ap at *
        obtain ⟨⟨z1, z2⟩, z3⟩ := ap
        injection e1 with e11 e12
        simp only at hon
        subst hon e11 e12
        clear hnx hap
        refine region_mix 11 39 #[.int .i64 z1, .int .i64 z2] [(6, .is (.tuple #[.agg #[.int .i64 (z1), .int .i64 (z2)], .bool true])), (10, .made wr.heap.size 2)] (by kernel_rfl) (by kernel_rfl) ?_
        (refine lz_one rfl (fun K hK => ?_); refine ⟨rfl, ?_⟩; apply Exists.intro; refine ⟨fun wz hz => ?_, ?_⟩; (focus (obtain ⟨c0, c1, c2, -⟩ := (b0.gr hz).trio; go_simp; (first | done | exact ⟨rfl, rfl⟩ | trivial))); (go_simp; refine hK _ _ ?_; clear hK K))
        (refine lz_one rfl (fun K hK => ?_); refine ⟨rfl, ?_⟩; apply Exists.intro; refine ⟨fun wz hz => ?_, ?_⟩; (focus (obtain ⟨c0, c1, -⟩ := (b1.gr hz).two; go_simp; (first | done | exact ⟨rfl, rfl⟩ | trivial))); (go_simp; refine hK _ _ ?_; clear hK K))
        (refine lz_one rfl (fun K hK => ?_); refine ⟨rfl, ?_⟩; apply Exists.intro; refine ⟨fun wz hz => ?_, ?_⟩; (focus (skip; go_simp; (first | done | exact ⟨rfl, rfl⟩ | trivial))); (go_simp; refine hK _ _ ?_; clear hK K))
        (refine lz_one rfl (fun K hK => ?_); refine ⟨rfl, ?_⟩; apply Exists.intro; refine ⟨fun wz hz => ?_, ?_⟩; (focus (skip; go_simp; (first | done | exact ⟨rfl, rfl⟩ | trivial))); (go_simp; refine hK _ _ ?_; clear hK K))
        (refine lz_one rfl (fun K hK => ?_); refine ⟨rfl, ?_⟩; apply Exists.intro; refine ⟨fun wz hz => ?_, ?_⟩; (focus (skip; go_simp; (first | done | exact ⟨rfl, rfl⟩ | trivial))); (go_simp; refine hK _ _ ?_; clear hK K))
        (refine lz_one rfl (fun K hK => ?_); refine ⟨rfl, ?_⟩; apply Exists.intro; refine ⟨fun wz hz => ?_, ?_⟩; (focus (obtain ⟨⟨y0, yl⟩, y1, y2, y3⟩ := HC.out wz hz; go_simp; (first | done | exact ⟨rfl, rfl⟩ | trivial))); (go_simp; refine hK _ _ ?_; clear hK K))
        (refine lz_many _ rfl (fun K hK => ?_); refine ⟨rfl, fun wz hz ha => ?_, fun vz wz hz hf => ?_⟩; (focus (go_simp; exact lm_call (by decide) hz (HApk.out _ (hXY.1.gr hz) (hXY.2.gr hz)))); (obtain rfl := hf; clear hz wz; go_simp; refine hK _ _ ?_; clear hK K))
        (refine lz_one rfl (fun K hK => ?_); refine ⟨rfl, ?_⟩; apply Exists.intro; refine ⟨fun wz hz => ?_, ?_⟩; (focus (skip; go_simp; (first | done | exact ⟨rfl, rfl⟩ | trivial))); (go_simp; refine hK _ _ ?_; clear hK K))
        (refine lz_one rfl (fun K hK => ?_); refine ⟨rfl, ?_⟩; apply Exists.intro; refine ⟨fun wz hz => ?_, ?_⟩; (focus (skip; go_simp; (first | done | exact ⟨rfl, rfl⟩ | trivial))); (go_simp; refine hK _ _ ?_; clear hK K))
        (refine lz_one rfl (fun K hK => ?_); refine ⟨rfl, ?_⟩; apply Exists.intro; refine ⟨fun wz hz => ?_, ?_⟩; (focus (skip; go_simp; (first | done | exact ⟨rfl, rfl⟩ | trivial))); (go_simp; refine hK _ _ ?_; clear hK K))
        (refine lz_many _ rfl (fun K hK => ?_); refine ⟨rfl, fun wz hz ha => ?_, fun vz wz hz hf => ?_⟩; (focus (go_simp; exact lm_made (by decide) hz (Nat.le_refl _) rfl)); (obtain ⟨gg, rfl, -, -⟩ := hf; clear hz wz; go_simp; refine hK _ _ ?_; clear hK K))
        (refine lz_many _ rfl (fun K hK => ?_); refine ⟨rfl, fun wz hz ha => ?_, fun vz wz hz hf => ?_⟩; (focus (obtain ⟨g', e', hb', ds, h1, h2⟩ := ha ⟨10, .data⟩ (by simp) rfl; cases e'; obtain ⟨y0, y1, rfl⟩ := two_of h1; obtain ⟨c0, c1, cf⟩ := h2.two; have cl := h2.lt; go_simp; exact lm_two hz hb' h2 rfl)); (obtain - := hf; clear hz wz; go_simp; refine hK _ _ ?_; clear hK K))
        (refine lz_one rfl (fun K hK => ?_); refine ⟨rfl, ?_⟩; apply Exists.intro; refine ⟨fun wz hz => ?_, ?_⟩; (focus (skip; go_simp; (first | done | exact ⟨rfl, rfl⟩ | trivial))); (go_simp; refine hK _ _ ?_; clear hK K))
        refine lz_nil ?_
        intro w2 hz hg
        obtain ⟨g0, e2, hA0⟩ := hg 11
        obtain ⟨gm, em, hgm, -, -, hAm⟩ := hg 10
        cases e2
        cases em
        clear hg
        have hW2 := hW.trans (hz.below.mono hW.size)
        have q0 := b0.gr hz
        have q1 := b1.gr hz
        have q2 := b2.gr hz
        have ql := q1.lt
        obtain ⟨c0, c1, cf⟩ := q1.two
        obtain ⟨d0, d1, -⟩ := hA0.two
        clear HC hXY
        go_wp2_with fail
        go_roundw
        case rel => exact ⟨k + 1, _, by omega, by go_num, HN, hJ2.out, (q0.far (a := ⟨w.heap.size + 1, 0, none⟩) (by show w.heap.size + 1 ≠ _; omega) _).far (a := ⟨w.heap.size + 1, 1, none⟩) (by show w.heap.size + 1 ≠ _; omega) _, (q1.set 0 _).set 1 _, (q2.far (a := ⟨w.heap.size + 1, 0, none⟩) (by show w.heap.size + 1 ≠ _; omega) _).far (a := ⟨w.heap.size + 1, 1, none⟩) (by show w.heap.size + 1 ≠ _; omega) _, (hW2.setCell (p := ⟨w.heap.size + 1, 0, none⟩) (by show w.heap.size ≤ w.heap.size + 1; omega) _).setCell (p := ⟨w.heap.size + 1, 1, none⟩) (by show w.heap.size ≤ w.heap.size + 1; omega) _⟩
        case measure => simp [intOf]; omega
      · have HN := Lib.hid (HD.out.trans (jyRun_no ho))
        rw [ho] at hon
        clear hye ho HD
        generalize hap : apR xs ys (mk, s, u, t) J.a J.c = ap at *
        obtain ⟨⟨z1, z2⟩, z3⟩ := ap
        simp only at hon
        subst hon
        clear hap
        refine region_mix 11 39 #[.int .i64 z1, .int .i64 z2] [(6, .is (.tuple #[.agg #[.int .i64 (z1), .int .i64 (z2)], .bool false])), (10, .made wr.heap.size 2)] (by kernel_rfl) (by kernel_rfl) ?_
        (refine lz_one rfl (fun K hK => ?_); refine ⟨rfl, ?_⟩; apply Exists.intro; refine ⟨fun wz hz => ?_, ?_⟩; (focus (obtain ⟨c0, c1, c2, -⟩ := (b0.gr hz).trio; go_simp; (first | done | exact ⟨rfl, rfl⟩ | trivial))); (go_simp; refine hK _ _ ?_; clear hK K))
        (refine lz_one rfl (fun K hK => ?_); refine ⟨rfl, ?_⟩; apply Exists.intro; refine ⟨fun wz hz => ?_, ?_⟩; (focus (obtain ⟨c0, c1, -⟩ := (b1.gr hz).two; go_simp; (first | done | exact ⟨rfl, rfl⟩ | trivial))); (go_simp; refine hK _ _ ?_; clear hK K))
        (refine lz_one rfl (fun K hK => ?_); refine ⟨rfl, ?_⟩; apply Exists.intro; refine ⟨fun wz hz => ?_, ?_⟩; (focus (skip; go_simp; (first | done | exact ⟨rfl, rfl⟩ | trivial))); (go_simp; refine hK _ _ ?_; clear hK K))
        (refine lz_one rfl (fun K hK => ?_); refine ⟨rfl, ?_⟩; apply Exists.intro; refine ⟨fun wz hz => ?_, ?_⟩; (focus (skip; go_simp; (first | done | exact ⟨rfl, rfl⟩ | trivial))); (go_simp; refine hK _ _ ?_; clear hK K))
        (refine lz_one rfl (fun K hK => ?_); refine ⟨rfl, ?_⟩; apply Exists.intro; refine ⟨fun wz hz => ?_, ?_⟩; (focus (skip; go_simp; (first | done | exact ⟨rfl, rfl⟩ | trivial))); (go_simp; refine hK _ _ ?_; clear hK K))
        (refine lz_one rfl (fun K hK => ?_); refine ⟨rfl, ?_⟩; apply Exists.intro; refine ⟨fun wz hz => ?_, ?_⟩; (focus (obtain ⟨⟨y0, yl⟩, y1, y2, y3⟩ := HC.out wz hz; go_simp; (first | done | exact ⟨rfl, rfl⟩ | trivial))); (go_simp; refine hK _ _ ?_; clear hK K))
        (refine lz_many _ rfl (fun K hK => ?_); refine ⟨rfl, fun wz hz ha => ?_, fun vz wz hz hf => ?_⟩; (focus (go_simp; exact lm_call (by decide) hz (HApk.out _ (hXY.1.gr hz) (hXY.2.gr hz)))); (obtain rfl := hf; clear hz wz; go_simp; refine hK _ _ ?_; clear hK K))
        (refine lz_one rfl (fun K hK => ?_); refine ⟨rfl, ?_⟩; apply Exists.intro; refine ⟨fun wz hz => ?_, ?_⟩; (focus (skip; go_simp; (first | done | exact ⟨rfl, rfl⟩ | trivial))); (go_simp; refine hK _ _ ?_; clear hK K))
        (refine lz_one rfl (fun K hK => ?_); refine ⟨rfl, ?_⟩; apply Exists.intro; refine ⟨fun wz hz => ?_, ?_⟩; (focus (skip; go_simp; (first | done | exact ⟨rfl, rfl⟩ | trivial))); (go_simp; refine hK _ _ ?_; clear hK K))
        (refine lz_one rfl (fun K hK => ?_); refine ⟨rfl, ?_⟩; apply Exists.intro; refine ⟨fun wz hz => ?_, ?_⟩; (focus (skip; go_simp; (first | done | exact ⟨rfl, rfl⟩ | trivial))); (go_simp; refine hK _ _ ?_; clear hK K))
        (refine lz_many _ rfl (fun K hK => ?_); refine ⟨rfl, fun wz hz ha => ?_, fun vz wz hz hf => ?_⟩; (focus (go_simp; exact lm_made (by decide) hz (Nat.le_refl _) rfl)); (obtain ⟨gg, rfl, -, -⟩ := hf; clear hz wz; go_simp; refine hK _ _ ?_; clear hK K))
        (refine lz_many _ rfl (fun K hK => ?_); refine ⟨rfl, fun wz hz ha => ?_, fun vz wz hz hf => ?_⟩; (focus (obtain ⟨g', e', hb', ds, h1, h2⟩ := ha ⟨10, .data⟩ (by simp) rfl; cases e'; obtain ⟨y0, y1, rfl⟩ := two_of h1; obtain ⟨c0, c1, cf⟩ := h2.two; have cl := h2.lt; go_simp; exact lm_two hz hb' h2 rfl)); (obtain - := hf; clear hz wz; go_simp; refine hK _ _ ?_; clear hK K))
        (refine lz_one rfl (fun K hK => ?_); refine ⟨rfl, ?_⟩; apply Exists.intro; refine ⟨fun wz hz => ?_, ?_⟩; (focus (skip; go_simp; (first | done | exact ⟨rfl, rfl⟩ | trivial))); (go_simp; refine hK _ _ ?_; clear hK K))
        refine lz_nil ?_
        intro w2 hz hg
        clear hg
        have hW2 := hW.trans (hz.below.mono hW.size)
        have q1 := b1.gr hz
        have q2 := b2.gr hz
        have ql := q2.lt
        obtain ⟨c0, c1, cf⟩ := q1.two
        obtain ⟨r0, r1, rf⟩ := q2.two
        clear HC hXY
        go_wp2_with fail
        ((try simp only [Exit.inBlock, Exit.then]); refine bodyPost_ret (v := .tuple #[.agg #[.int .i64 (J.a), .int .i64 (J.c)], .int .i64 k]) (by simp [results, Tryd.results46, go_sem, r0, r1, World.cell?_setCell_same']) rfl ?_)
        rw [HN.out, rnV_f, hJn]
        exact ⟨rfl, Gr.of_below ((hW2.setCell (p := ⟨w.heap.size + 1 + 1, 0, none⟩) (by show w.heap.size ≤ w.heap.size + 1 + 1; omega) _).setCell (p := ⟨w.heap.size + 1 + 1, 1, none⟩) (by show w.heap.size ≤ w.heap.size + 1 + 1; omega) _)⟩
    · obtain rfl : k = p := by omega
      have HN := Lib.hid (HR.out.trans (by rw [List.drop_of_length_le (by rw [HL.out]; omega), jyRun_nil]))
      have ql := b2.lt
      have q1l := b1.lt
      obtain ⟨c0, c1, cf⟩ := b1.two
      obtain ⟨r0, r1, rf⟩ := b2.two
      clear HR
      go_wp2_with fail
      ((try simp only [Exit.inBlock, Exit.then]); refine bodyPost_ret (v := .tuple #[.agg #[.int .i64 (J.a), .int .i64 (J.c)], .int .i64 (-1)]) (by simp [results, Tryd.results46, go_sem, r0, r1, World.cell?_setCell_same']) rfl ?_)
      rw [HN.out, rnV_t]
      exact ⟨rfl, Gr.of_below ((hW.setCell (p := ⟨w.heap.size + 1 + 1, 0, none⟩) (by show w.heap.size ≤ w.heap.size + 1 + 1; omega) _).setCell (p := ⟨w.heap.size + 1 + 1, 1, none⟩) (by show w.heap.size ≤ w.heap.size + 1 + 1; omega) _)⟩
end Go.Proofs.YtefhhigcplemaaaDoor

/- Contracts of chapter 12: the model's RunMoves, ApplyMove, FirstImpossible, TravelOf, CountSettings. -/
namespace Go.Proofs.YtefhhigcplemaaaDoor
open Go.RowKit
set_option linter.unusedVariables false
set_option linter.unusedSimpArgs false

theorem jy_end {xs ys : List Int} {a q : Int} {ms : List Mv} {J : Jy} (h : jyRun xs ys (jy0 a q) ms = (J, false)) : 0 ≤ J.n := by
  obtain ⟨k, -, h2, -⟩ := jy_stop xs ys ms _ J h
  rw [h2]; show 0 ≤ (0 : Int) + k; omega
set_option maxHeartbeats 4000000 in
theorem runMoves_spec (a q : Int) (L : Int) (A B : Option Addr) (n c m d : Nat) (xs ys : List Int) (M : Option Addr) (p cp : Nat) (ms : List Mv) (w : World) (hx : xs.length = n) (hy : ys.length = m) (hn : n ≤ 16777216) (hm : m ≤ 16777216) (hnc : n ≤ c) (hmd : m ≤ d) (hX : Reads w w.heap.size A (xs.map vi)) (hY : Reads w w.heap.size B (ys.map vi)) (hml : ms.length = p) (hp : p ≤ 16777216) (hM : Reads w w.heap.size M (mcells ms)) :
    Calls Tryd.prog 24 #[.agg #[.int .i64 L, .slice A n c, .slice B m d], .agg #[.int .i64 (a), .int .i64 (q)], .slice M p cp] w fun e w' => e = .returned (.tuple #[.agg #[.int .i64 ((rmR L xs ys a q ms).1.1), .int .i64 ((rmR L xs ys a q ms).1.2)], .int .i64 (rmR L xs ys a q ms).2]) ∧ Gr w w' := by
  have HSt := Lib.hid (fun W h1 h2 h3 => start12_spec a q L A B n c m d xs ys M p cp ms W hx hy hn hm hnc hmd h1 h2 hml hp h3)
  have HRn := Lib.hid (fun W h1 h2 h3 => run12_spec a q L A B n c m d xs ys M p cp ms W hx hy hn hm hnc hmd h1 h2 hml hp h3)
  have RX := Lib.hid hX
  have RY := Lib.hid hY
  have RM := Lib.hid hM
  obtain ⟨B0, B1, B2, G0⟩ := boxes3 w 42 39 39 #[.int .i64 L, .slice A n c, .slice B m d] #[.int .i64 a, .int .i64 q] #[.int .i64 0, .int .i64 0]
  by_cases h : mvS L xs ys a q ms = 0
  rotate_left
  · have HR := Lib.hid (rmR_code h)
    have hb : (mvS L xs ys a q ms == 0) = false := by simpa using h
    generalize rmR L xs ys a q ms = R at *
    generalize mvS L xs ys a q ms = z at *
    clear hx hy hX hY hM hml h HRn
    go_enter Tryd.func24, Tryd.ntmps24
    go_wp2_with fail
    generalize ((w.alloc (.cells #[.int .i64 L, .slice A n c, .slice B m d] 42)).alloc (.cells #[.int .i64 a, .int .i64 q] 39)).alloc (.cells #[.int .i64 0, .int .i64 0] 39) = v at *
    refine (HSt.out _ (RX.out.gr G0) (RY.out.gr G0) (RM.out.gr G0)).mono ?_
    rintro e w1 ⟨rfl, hg1⟩
    have hG := G0.trans hg1
    replace B2 := B2.gr hg1
    obtain ⟨c0, c1, cf⟩ := B2.two
    have cl := B2.lt
    obtain ⟨r0, r1, -⟩ := ((B2.set 0 (.int .i64 0)).set 1 (.int .i64 0)).two
    go_wp2_with fail
    ((try simp only [Exit.inBlock, Exit.then]); refine bodyPost_ret (v := .tuple #[.agg #[.int .i64 (0), .int .i64 (0)], .int .i64 z]) (by simp [results, Tryd.results24, go_sem, r0, r1, World.cell?_setCell_same']) rfl ?_)
    rw [HR.out]
    exact ⟨rfl, Gr.of_below ((hG.below.setCell (p := ⟨w.heap.size + 1 + 1, 0, none⟩) (by show w.heap.size ≤ w.heap.size + 1 + 1; omega) _).setCell (p := ⟨w.heap.size + 1 + 1, 1, none⟩) (by show w.heap.size ≤ w.heap.size + 1 + 1; omega) _)⟩
  obtain ⟨h1, h2, h3⟩ := mvS_zero h
  have HRn := Lib.hid (fun W a1 a2 a3 => HRn.out W a1 a2 a3 (mvC_zero h3).1 h2)
  have HRun := Lib.hid (fun (J : Jy) (e : jyRun xs ys (jy0 a q) ms = (J, true)) => rmR_run h e)
  have HStop := Lib.hid (fun (J : Jy) (e : jyRun xs ys (jy0 a q) ms = (J, false)) => And.intro (rmR_stop h e) (jy_end e))
  rw [h] at HSt
  generalize rmR L xs ys a q ms = R at *
  generalize jyRun xs ys (jy0 a q) ms = JR at *
  clear hx hy hX hY hM hml h h1 h2 h3
  obtain ⟨J, b⟩ := JR
  cases b
  · obtain ⟨hR, hJ⟩ := HStop.out J rfl
    have HR := Lib.hid hR
    rw [rnV_f] at HRn
    clear hR HStop HRun
    go_enter Tryd.func24, Tryd.ntmps24
    go_wp2_with fail
    generalize ((w.alloc (.cells #[.int .i64 L, .slice A n c, .slice B m d] 42)).alloc (.cells #[.int .i64 a, .int .i64 q] 39)).alloc (.cells #[.int .i64 0, .int .i64 0] 39) = v at *
    refine (HSt.out _ (RX.out.gr G0) (RY.out.gr G0) (RM.out.gr G0)).mono ?_
    rintro e w1 ⟨rfl, hg1⟩
    have hG := G0.trans hg1
    replace B0 := B0.gr hg1
    replace B1 := B1.gr hg1
    replace B2 := B2.gr hg1
    obtain ⟨b0, b1, b2, -⟩ := B0.trio
    obtain ⟨d0, d1, -⟩ := B1.two
    go_wp2_with fail
    refine (HRn.out w1 (RX.out.gr hG) (RY.out.gr hG) (RM.out.gr hG)).mono ?_
    rintro e w2 ⟨rfl, hg2⟩
    have hG2 := hG.trans hg2
    replace B2 := B2.gr hg2
    obtain ⟨c0, c1, cf⟩ := B2.two
    have cl := B2.lt
    obtain ⟨r0, r1, -⟩ := (((B2.set 0 (.int .i64 0)).set 1 (.int .i64 0)).alloc (.cells #[.int .i64 J.a, .int .i64 J.c] 39)).two
    clear b0 b1 b2 d0 d1
    go_wp2_with fail
    ((try simp only [Exit.inBlock, Exit.then]); refine bodyPost_ret (v := .tuple #[.agg #[.int .i64 (0), .int .i64 (0)], .int .i64 5]) (by simp [results, Tryd.results24, go_sem, r0, r1, World.cell?_setCell_same']) rfl ?_)
    rw [HR.out]
    exact ⟨rfl, (Gr.of_below ((hG2.below.setCell (p := ⟨w.heap.size + 1 + 1, 0, none⟩) (by show w.heap.size ≤ w.heap.size + 1 + 1; omega) _).setCell (p := ⟨w.heap.size + 1 + 1, 1, none⟩) (by show w.heap.size ≤ w.heap.size + 1 + 1; omega) _)).alloc _⟩
  · have HR := Lib.hid (HRun.out J rfl)
    rw [rnV_t] at HRn
    clear HStop HRun
    go_enter Tryd.func24, Tryd.ntmps24
    go_wp2_with fail
    generalize ((w.alloc (.cells #[.int .i64 L, .slice A n c, .slice B m d] 42)).alloc (.cells #[.int .i64 a, .int .i64 q] 39)).alloc (.cells #[.int .i64 0, .int .i64 0] 39) = v at *
    refine (HSt.out _ (RX.out.gr G0) (RY.out.gr G0) (RM.out.gr G0)).mono ?_
    rintro e w1 ⟨rfl, hg1⟩
    have hG := G0.trans hg1
    replace B0 := B0.gr hg1
    replace B1 := B1.gr hg1
    replace B2 := B2.gr hg1
    obtain ⟨b0, b1, b2, -⟩ := B0.trio
    obtain ⟨d0, d1, -⟩ := B1.two
    go_wp2_with fail
    refine (HRn.out w1 (RX.out.gr hG) (RY.out.gr hG) (RM.out.gr hG)).mono ?_
    rintro e w2 ⟨rfl, hg2⟩
    have hG2 := hG.trans hg2
    replace B2 := B2.gr hg2
    obtain ⟨c0, c1, cf⟩ := B2.two
    have cl := B2.lt
    obtain ⟨r0, r1, -⟩ := (((B2.set 0 (.int .i64 J.a)).set 1 (.int .i64 J.c)).alloc (.cells #[.int .i64 J.a, .int .i64 J.c] 39)).two
    clear b0 b1 b2 d0 d1
    go_wp2_with fail
    ((try simp only [Exit.inBlock, Exit.then]); refine bodyPost_ret (v := .tuple #[.agg #[.int .i64 (J.a), .int .i64 (J.c)], .int .i64 0]) (by simp [results, Tryd.results24, go_sem, r0, r1, World.cell?_setCell_same']) rfl ?_)
    rw [HR.out]
    exact ⟨rfl, (Gr.of_below ((hG2.below.setCell (p := ⟨w.heap.size + 1 + 1, 0, none⟩) (by show w.heap.size ≤ w.heap.size + 1 + 1; omega) _).setCell (p := ⟨w.heap.size + 1 + 1, 1, none⟩) (by show w.heap.size ≤ w.heap.size + 1 + 1; omega) _)).alloc _⟩

theorem boxes2 (w : World) (T U : TypeId) (a b : Array Value) : Blk ((w.alloc (.cells a T)).alloc (.cells b U)) w.heap.size T a ∧ Blk ((w.alloc (.cells a T)).alloc (.cells b U)) (w.heap.size + 1) U b ∧ Gr w ((w.alloc (.cells a T)).alloc (.cells b U)) := two_boxes w T U a b
set_option maxHeartbeats 4000000 in
theorem firstImp_spec (a q : Int) (L : Int) (A B : Option Addr) (n c m d : Nat) (xs ys : List Int) (M : Option Addr) (p cp : Nat) (ms : List Mv) (w : World) (hx : xs.length = n) (hy : ys.length = m) (hn : n ≤ 16777216) (hm : m ≤ 16777216) (hnc : n ≤ c) (hmd : m ≤ d) (hX : Reads w w.heap.size A (xs.map vi)) (hY : Reads w w.heap.size B (ys.map vi)) (hml : ms.length = p) (hp : p ≤ 16777216) (hM : Reads w w.heap.size M (mcells ms)) :
    Calls Tryd.prog 26 #[.agg #[.int .i64 L, .slice A n c, .slice B m d], .agg #[.int .i64 (a), .int .i64 (q)], .slice M p cp] w fun e w' => e = .returned (.tuple #[.int .i64 (fiR L xs ys a q ms).1, .int .i64 (fiR L xs ys a q ms).2]) ∧ Gr w w' := by
  have HSt := Lib.hid (fun W h1 h2 h3 => start12_spec a q L A B n c m d xs ys M p cp ms W hx hy hn hm hnc hmd h1 h2 hml hp h3)
  have HRn := Lib.hid (fun W h1 h2 h3 => run12_spec a q L A B n c m d xs ys M p cp ms W hx hy hn hm hnc hmd h1 h2 hml hp h3)
  have RX := Lib.hid hX
  have RY := Lib.hid hY
  have RM := Lib.hid hM
  obtain ⟨B0, B1, G0⟩ := boxes2 w 42 39 #[.int .i64 L, .slice A n c, .slice B m d] #[.int .i64 a, .int .i64 q]
  by_cases h : mvS L xs ys a q ms = 0
  rotate_left
  · have HR := Lib.hid (fiR_code h)
    have hb : (mvS L xs ys a q ms == 0) = false := by simpa using h
    generalize fiR L xs ys a q ms = R at *
    generalize mvS L xs ys a q ms = z at *
    clear hx hy hX hY hM hml h HRn
    go_enter Tryd.func26, Tryd.ntmps26
    go_wp2_with fail
    refine (HSt.out _ (RX.out.gr G0) (RY.out.gr G0) (RM.out.gr G0)).mono ?_
    rintro e w1 ⟨rfl, hg1⟩
    have hG := G0.trans hg1
    go_wp2_with fail
    go_ret2
    rw [HR.out]
    exact ⟨rfl, hG⟩
  obtain ⟨h1, h2, h3⟩ := mvS_zero h
  have HRn := Lib.hid (fun W a1 a2 a3 => HRn.out W a1 a2 a3 (mvC_zero h3).1 h2)
  have HRun := Lib.hid (fun (J : Jy) (e : jyRun xs ys (jy0 a q) ms = (J, true)) => fiR_run h e)
  have HStop := Lib.hid (fun (J : Jy) (e : jyRun xs ys (jy0 a q) ms = (J, false)) => And.intro (fiR_stop h e) (jy_end e))
  rw [h] at HSt
  generalize fiR L xs ys a q ms = R at *
  generalize jyRun xs ys (jy0 a q) ms = JR at *
  clear hx hy hX hY hM hml h h1 h2 h3
  obtain ⟨J, b⟩ := JR
  cases b
  · obtain ⟨hR, hJ⟩ := HStop.out J rfl
    have HR := Lib.hid hR
    rw [rnV_f] at HRn
    clear hR HStop HRun
    go_enter Tryd.func26, Tryd.ntmps26
    go_wp2_with fail
    generalize (w.alloc (.cells #[.int .i64 L, .slice A n c, .slice B m d] 42)).alloc (.cells #[.int .i64 a, .int .i64 q] 39) = v at *
    refine (HSt.out _ (RX.out.gr G0) (RY.out.gr G0) (RM.out.gr G0)).mono ?_
    rintro e w1 ⟨rfl, hg1⟩
    have hG := G0.trans hg1
    obtain ⟨b0, b1, b2, -⟩ := (B0.gr hg1).trio
    obtain ⟨d0, d1, -⟩ := (B1.gr hg1).two
    go_wp2_with fail
    refine (HRn.out w1 (RX.out.gr hG) (RY.out.gr hG) (RM.out.gr hG)).mono ?_
    rintro e w2 ⟨rfl, hg2⟩
    have hG2 := hG.trans hg2
    clear b0 b1 b2 d0 d1
    go_wp2_with fail
    go_ret2
    rw [HR.out]
    exact ⟨rfl, hG2.alloc _⟩
  · have HR := Lib.hid (HRun.out J rfl)
    rw [rnV_t] at HRn
    clear HStop HRun
    go_enter Tryd.func26, Tryd.ntmps26
    go_wp2_with fail
    generalize (w.alloc (.cells #[.int .i64 L, .slice A n c, .slice B m d] 42)).alloc (.cells #[.int .i64 a, .int .i64 q] 39) = v at *
    refine (HSt.out _ (RX.out.gr G0) (RY.out.gr G0) (RM.out.gr G0)).mono ?_
    rintro e w1 ⟨rfl, hg1⟩
    have hG := G0.trans hg1
    obtain ⟨b0, b1, b2, -⟩ := (B0.gr hg1).trio
    obtain ⟨d0, d1, -⟩ := (B1.gr hg1).two
    go_wp2_with fail
    refine (HRn.out w1 (RX.out.gr hG) (RY.out.gr hG) (RM.out.gr hG)).mono ?_
    rintro e w2 ⟨rfl, hg2⟩
    have hG2 := hG.trans hg2
    clear b0 b1 b2 d0 d1
    go_wp2_with fail
    go_ret2
    rw [HR.out]
    exact ⟨rfl, hG2.alloc _⟩

theorem count_spec (M : Option Addr) (p cp : Nat) (ms : List Mv) (w : World) (hml : ms.length = p) (hp : p ≤ 16777216) (hM : Reads w w.heap.size M (mcells ms)) :
    Calls Tryd.prog 30 #[.slice M p cp] w fun e w' => e = .returned (.tuple #[.int .i64 (csR ms).1, .int .i64 (csR ms).2]) ∧ Gr w w' := by
  have HC := Lib.hid (mcode_spec M p cp ms w hml hp hM)
  by_cases h : mvC ms = 0
  rotate_left
  · have HR := Lib.hid (csR_code h)
    have hb : (mvC ms == 0) = false := by simpa using h
    generalize csR ms = R at *
    generalize mvC ms = z at *
    clear h hml hM
    go_enter Tryd.func30, Tryd.ntmps30
    go_wp2_with (go_at_call 38; (with_reducible refine (HC.out).mono ?_); rintro e w' ⟨rfl, hg⟩)
    go_ret2
    rw [HR.out]
    exact ⟨rfl, hg⟩
  have HR := Lib.hid (csR_ok h)
  have HV := Lib.hid (mvC_zero h).1
  have HL := Lib.hid hml
  have RM := Lib.hid hM
  have HK := Lib.hid (fun k => mvCt_bd ms k)
  rw [h] at HC
  clear h hml hM
  go_enter Tryd.func30, Tryd.ntmps30
  go_wp2_with (go_at_call 38; (with_reducible refine (HC.out).mono ?_); rintro e w1 ⟨rfl, hg1⟩)
  go_loopw [5, 6] (fun x i wr => ∃ k : Nat, k ≤ p ∧ x = .int .i64 (mvCt (ms.take k)) ∧ i = .int .i64 k ∧ Gr w wr) (fun _ i _ => p - (intOf i).toNat)
  case atStart => exact ⟨0, by omega, rfl, rfl, hg1⟩
  case round =>
    obtain ⟨k, hk, rfl, rfl, hG⟩ := hrel
    by_cases hlt : k < p
    · obtain ⟨mv, hmv⟩ := some_at (l := ms) (k := k) (by rw [HL.out]; exact hlt)
      obtain ⟨g, o, rfl, hg, x0, x1, x2, x3⟩ := (RM.out.gr hG).at4 hmv
      have hval := all_at HV.out hmv
      have HN := Lib.hid (mvCt_snoc hmv)
      have hb := HK.out k
      obtain ⟨mk, s, u, t⟩ := mv
      simp only at x0
      generalize mvCt (ms.take k) = z at *
      rcases mvB_cases hval with ⟨hk2, -, -⟩ | ⟨hk2, -⟩
      · have HN2 := Lib.hid (show mvCt (ms.take (k + 1)) = z + 1 by rw [HN.out, if_pos ((mvF_iff mk).2 (by omega))])
        have hle : mk ≤ 2 := by omega
        clear hmv HN hval hk2
        go_wp2
        go_roundw
        case rel => exact ⟨k + 1, by omega, by rw [HN2.out], by go_num, hG⟩
        case measure => simp [intOf]; omega
      · have HN2 := Lib.hid (show mvCt (ms.take (k + 1)) = z by rw [HN.out, if_neg (by intro h; have := (mvF_iff mk).1 h; omega), Int.add_zero])
        have hle : ¬ (mk ≤ 2) := by omega
        clear hmv HN hval hk2
        go_wp2
        go_roundw
        case rel => exact ⟨k + 1, by omega, by rw [HN2.out], by go_num, hG⟩
        case measure => simp [intOf]; omega
    · obtain rfl : k = p := by omega
      have HE := Lib.hid (show ms.take k = ms from List.take_of_length_le (by rw [HL.out]; omega))
      rw [HE.out]
      generalize mvCt ms = z at *
      go_wp2
      go_ret2
      rw [HR.out]
      exact ⟨rfl, hG⟩
end Go.Proofs.YtefhhigcplemaaaDoor

/- Contracts of chapter 12: the model's ApplyMove and TravelOf. -/
namespace Go.Proofs.YtefhhigcplemaaaDoor
open Go.RowKit
set_option linter.unusedVariables false
set_option linter.unusedSimpArgs false

theorem one_move (w : World) (k s u t : Int) (T : TypeId) : Reads (w.alloc (.cells #[.int .i64 k, .int .i64 s, .int .i64 u, .int .i64 t] T)) (w.alloc (.cells #[.int .i64 k, .int .i64 s, .int .i64 u, .int .i64 t] T)).heap.size (some ⟨w.heap.size, 0, none⟩) (mcells [(k, s, u, t)]) :=
  (Row.new w T [.int .i64 k, .int .i64 s, .int .i64 u, .int .i64 t]).reads
set_option maxRecDepth 100000 in
set_option maxHeartbeats 4000000 in
theorem applyMove_spec (a q k s u t : Int) (L : Int) (A B : Option Addr) (n c m d : Nat) (xs ys : List Int) (w : World) (hx : xs.length = n) (hy : ys.length = m) (hn : n ≤ 16777216) (hm : m ≤ 16777216) (hnc : n ≤ c) (hmd : m ≤ d) (hX : Reads w w.heap.size A (xs.map vi)) (hY : Reads w w.heap.size B (ys.map vi)) :
    Calls Tryd.prog 17 #[.agg #[.int .i64 L, .slice A n c, .slice B m d], .agg #[.int .i64 (a), .int .i64 (q)], .agg #[.int .i64 (k), .int .i64 (s), .int .i64 (u), .int .i64 (t)]] w fun e w' => e = .returned (.tuple #[.agg #[.int .i64 ((rmR L xs ys a q [(k, s, u, t)]).1.1), .int .i64 ((rmR L xs ys a q [(k, s, u, t)]).1.2)], .int .i64 (rmR L xs ys a q [(k, s, u, t)]).2]) ∧ Gr w w' := by
  have HRn := Lib.hid (fun (g : Nat) W h1 h2 h3 => runMoves_spec a q L A B n c m d xs ys (some ⟨g, 0, none⟩) 1 1 [(k, s, u, t)] W hx hy hn hm hnc hmd h1 h2 rfl (by omega) h3)
  have RX := Lib.hid hX
  have RY := Lib.hid hY
  obtain ⟨B0, B1, B2, B3, G0⟩ := boxes4 w 42 39 47 39 #[.int .i64 L, .slice A n c, .slice B m d] #[.int .i64 a, .int .i64 q] #[.int .i64 k, .int .i64 s, .int .i64 u, .int .i64 t] #[.int .i64 0, .int .i64 0]
  generalize rmR L xs ys a q [(k, s, u, t)] = R at *
  obtain ⟨⟨x, y⟩, z⟩ := R
  clear hx hy hX hY
  go_enter Tryd.func17, Tryd.ntmps17
  go_wp2_with fail
  have hvs : ((((w.alloc (.cells #[.int .i64 L, .slice A n c, .slice B m d] 42)).alloc (.cells #[.int .i64 a, .int .i64 q] 39)).alloc (.cells #[.int .i64 k, .int .i64 s, .int .i64 u, .int .i64 t] 47)).alloc (.cells #[.int .i64 0, .int .i64 0] 39)).heap.size = w.heap.size + 1 + 1 + 1 + 1 := by rw [World.size_alloc, World.size_alloc, World.size_alloc, World.size_alloc]
  generalize (((w.alloc (.cells #[.int .i64 L, .slice A n c, .slice B m d] 42)).alloc (.cells #[.int .i64 a, .int .i64 q] 39)).alloc (.cells #[.int .i64 k, .int .i64 s, .int .i64 u, .int .i64 t] 47)).alloc (.cells #[.int .i64 0, .int .i64 0] 39) = v at *
  have hrd := one_move v k s u t 47
  rw [hvs] at hrd
  have G1 : Gr v (v.alloc (.cells #[.int .i64 k, .int .i64 s, .int .i64 u, .int .i64 t] 47)) := (by repeat (first | with_reducible exact Gr.refl _ | with_reducible refine Gr.alloc ?_ _ | with_reducible refine Gr.gr ?_ _ _ | with_reducible refine Gr.drew ?_ | with_reducible refine Gr.drewN ?_ _))
  refine (HRn.out (w.heap.size + 1 + 1 + 1 + 1) (v.alloc (.cells #[.int .i64 k, .int .i64 s, .int .i64 u, .int .i64 t] 47)) ((RX.out.gr G0).gr G1) ((RY.out.gr G0).gr G1) hrd).mono ?_
  rintro e w2 ⟨rfl, hg2⟩
  have hG := (G0.trans G1).trans hg2
  have R3 := (B3.gr G1).gr hg2
  obtain ⟨c0, c1, cf⟩ := R3.two
  have cl := R3.lt
  obtain ⟨r0, r1, -⟩ := ((R3.set 0 (.int .i64 x)).set 1 (.int .i64 y)).two
  go_wp2_with fail
  ((try simp only [Exit.inBlock, Exit.then]); refine bodyPost_ret (v := .tuple #[.agg #[.int .i64 (x), .int .i64 (y)], .int .i64 z]) (by simp [results, Tryd.results17, go_sem, r0, r1, World.cell?_setCell_same']) rfl ?_)
  exact ⟨rfl, Gr.of_below ((hG.below.setCell (p := ⟨w.heap.size + 1 + 1 + 1, 0, none⟩) (by show w.heap.size ≤ w.heap.size + 1 + 1 + 1; omega) _).setCell (p := ⟨w.heap.size + 1 + 1 + 1, 1, none⟩) (by show w.heap.size ≤ w.heap.size + 1 + 1 + 1; omega) _)⟩

theorem ret_three3 (a b c : Int) (x : (Int × Int) × Int) (h : x = ((a, b), c)) : Ending.returned (.tuple #[.int .i64 a, .int .i64 b, .int .i64 c]) = .returned (.tuple #[.int .i64 x.1.1, .int .i64 x.1.2, .int .i64 x.2]) := by rw [h]
set_option maxRecDepth 100000 in
set_option maxHeartbeats 8000000 in
theorem travel_spec (a q : Int) (L : Int) (A B : Option Addr) (n c m d : Nat) (xs ys : List Int) (M : Option Addr) (p cp : Nat) (ms : List Mv) (w : World) (hx : xs.length = n) (hy : ys.length = m) (hn : n ≤ 16777216) (hm : m ≤ 16777216) (hnc : n ≤ c) (hmd : m ≤ d) (hX : Reads w w.heap.size A (xs.map vi)) (hY : Reads w w.heap.size B (ys.map vi)) (hml : ms.length = p) (hp : p ≤ 16777216) (hM : Reads w w.heap.size M (mcells ms)) :
    Calls Tryd.prog 28 #[.agg #[.int .i64 L, .slice A n c, .slice B m d], .agg #[.int .i64 (a), .int .i64 (q)], .slice M p cp] w fun e w' => e = .returned (.tuple #[.int .i64 (tvR L xs ys a q ms).1.1, .int .i64 (tvR L xs ys a q ms).1.2, .int .i64 (tvR L xs ys a q ms).2]) ∧ Gr w w' := by
  have HSt := Lib.hid (fun W h1 h2 h3 => start12_spec a q L A B n c m d xs ys M p cp ms W hx hy hn hm hnc hmd h1 h2 hml hp h3)
  have HAp := Lib.hid (fun k s u t a' q' W h h' hb hs => apply_spec k a' q' s u t L A B n c m d xs ys W hx hy hn hm hnc hmd h h' hb hs)
  have RX := Lib.hid hX
  have RY := Lib.hid hY
  have RM := Lib.hid hM
  have HL := Lib.hid hml
  obtain ⟨B0, B1, G0⟩ := boxes2 w 42 39 #[.int .i64 L, .slice A n c, .slice B m d] #[.int .i64 a, .int .i64 q]
  by_cases h : mvS L xs ys a q ms = 0
  rotate_left
  · have HR := Lib.hid (tvR_code h)
    have hb : (mvS L xs ys a q ms == 0) = false := by simpa using h
    generalize tvR L xs ys a q ms = R at *
    generalize mvS L xs ys a q ms = z at *
    clear hx hy hX hY hM hml h HAp
    go_enter Tryd.func28, Tryd.ntmps28
    go_wp2_with fail
    refine (HSt.out _ (RX.out.gr G0) (RY.out.gr G0) (RM.out.gr G0)).mono ?_
    rintro e w1 ⟨rfl, hg1⟩
    have hG := G0.trans hg1
    go_wp2_with fail
    ((try simp only [Exit.inBlock, Exit.then]); refine bodyPost_ret (v := .tuple #[.int .i64 0, .int .i64 0, .int .i64 z]) (by simp [results, Tryd.results28, go_sem]) rfl ?_)
    exact ⟨ret_three3 _ _ _ _ HR.out, hG⟩
  obtain ⟨h1, h2, h3⟩ := mvS_zero h
  have HRun := Lib.hid (fun (J : Jy) (e : jyRun xs ys (jy0 a q) ms = (J, true)) => tvR_run h e)
  have HStop := Lib.hid (fun (J : Jy) (e : jyRun xs ys (jy0 a q) ms = (J, false)) => tvR_stop h e)
  have HV := Lib.hid (mvC_zero h3).1
  have hp30 := (mvC_zero h3).2
  rw [hml] at hp30
  rw [h] at HSt
  have HB0 := Lib.hid (JyB.zero h2)
  have HJ := Lib.hid (show jyRun xs ys (jy0 a q) ms = jyRun xs ys (jy0 a q) (ms.drop 0) from rfl)
  generalize tvR L xs ys a q ms = R at *
  generalize jyRun xs ys (jy0 a q) ms = JR at *
  clear hx hy hX hY hM hml h h1 h2 h3
  go_enter Tryd.func28, Tryd.ntmps28
  go_wp2_with fail
  generalize (w.alloc (.cells #[.int .i64 L, .slice A n c, .slice B m d] 42)).alloc (.cells #[.int .i64 a, .int .i64 q] 39) = v at *
  refine (HSt.out _ (RX.out.gr G0) (RY.out.gr G0) (RM.out.gr G0)).mono ?_
  rintro e w1 ⟨rfl, hg1⟩
  have hG := G0.trans hg1
  replace B0 := B0.gr hg1
  replace B1 := B1.gr hg1
  clear HSt G0 hg1
  go_wp2_with fail
  go_loopw [10, 11, 12] (fun x y i wr => ∃ (k : Nat) (J : Jy), k ≤ p ∧ x = .int .i64 J.u ∧ y = .int .i64 J.v ∧ i = .int .i64 k ∧ Hid (JR = jyRun xs ys J (ms.drop k)) ∧ JyB J k ∧ Blk wr w.heap.size 42 #[.int .i64 L, .slice A n c, .slice B m d] ∧ Blk wr (w.heap.size + 1) 39 #[.int .i64 J.a, .int .i64 J.c] ∧ Below w.heap.size w wr) (fun _ _ i _ => p - (intOf i).toNat)
  case atStart => exact ⟨0, jy0 a q, by omega, rfl, rfl, rfl, HJ, HB0.out, B0, B1, hG.below⟩
  case round =>
    clear B0 B1 hG HJ HB0
    obtain ⟨k, J, hk, rfl, rfl, rfl, HR, hJ, b0, b1, hW⟩ := hrel
    by_cases hlt : k < p
    · obtain ⟨mv, hmv⟩ := some_at (l := ms) (k := k) (by rw [HL.out]; exact hlt)
      obtain ⟨g, o, rfl, hg, x0, x1, x2, x3⟩ := (RM.out.below hW).at4 hmv
      have hval := all_at HV.out hmv
      have HD := Lib.hid (HR.out.trans (by rw [drop_at hmv]))
      obtain ⟨mk, s, u, t⟩ := mv
      simp only at x0 x1 x2 x3
      have HApk := Lib.hid (fun W h h' => HAp.out mk s u t J.a J.c W h h' hval hJ.1)
      have hon := apR_snd xs ys (mk, s, u, t) J.a J.c
      have hye := fun h => apR_yes (xs := xs) (ys := ys) (m := (mk, s, u, t)) (a := J.a) (c := J.c) h
      have HC := Lib.hid (fun wz (hz : Gr wr wz) => And.intro (And.intro (cell_up hz x0) (World.block_lt_of_cell? wz _ (cell_up hz x0))) (And.intro (cell_up hz x1) (And.intro (cell_up hz x2) (cell_up hz x3))))
      have hXY := And.intro (RX.out.below hW) (RY.out.below hW)
      have lt0 := b0.lt
      have lt1 := b1.lt
      clear hmv HR
      go_wp2_with fail
      rcases mvO_tf xs ys (mk, s, u, t) J.a J.c with ho | ho
      · have HN := Lib.hid (HD.out.trans (jyRun_yes ho))
        have hJ2 := Lib.hid (hJ.on ho)
        have e1 := hye ho
        have hs2 := mvO_sg ho
        rw [ho] at hon
        clear hye ho HD
        generalize hnx : mvN (mk, s, u, t) J.a J.c = nx at *
        obtain ⟨x, y⟩ := nx
        generalize hap : apR xs ys (mk, s, u, t) J.a J.c = ap at *
        obtain ⟨⟨z1, z2⟩, z3⟩ := ap
        injection e1 with e11 e12
        simp only at hon
        subst hon e11 e12
        clear hnx hap
        obtain ⟨f1, f2, f3, f4⟩ := sg_bd hs2
        obtain ⟨f5, f6, f7, f8⟩ := sg_bd hJ.1
        have hu := hJ.2.2.1
        have hvv := hJ.2.2.2
        have HA1 := Lib.hid (fun W => abs_any (z1 - J.a) W (by omega) (by omega))
        have HA2 := Lib.hid (fun W => abs_any (z2 - J.c) W (by omega) (by omega))
        have hd1 := dsM_abs z1 J.a
        have hd2 := dsM_abs z2 J.c
        rw [← hd1] at HA1
        rw [← hd2] at HA2
        have hb := hJ2.out.2.2
        have hu2 : 0 ≤ J.u + dsM z1 J.a ∧ J.u + dsM z1 J.a ≤ 2097152 * ((k + 1 : Nat) : Int) := hb.1
        have hv2 : 0 ≤ J.v + dsM z2 J.c ∧ J.v + dsM z2 J.c ≤ 2097152 * ((k + 1 : Nat) : Int) := hb.2
        have hdn1 := dsM_nn z1 J.a
        have hdn2 := dsM_nn z2 J.c
        have hJu := Lib.hid (show (jyOn J (z1, z2)).u = J.u + dsM z1 J.a from rfl)
        have hJv := Lib.hid (show (jyOn J (z1, z2)).v = J.v + dsM z2 J.c from rfl)
        clear hd1 hd2 hb
        generalize dsM z1 J.a = D1 at *
        generalize dsM z2 J.c = D2 at *
        refine region_mix 11 39 #[.int .i64 z1, .int .i64 z2] [(6, .is (.tuple #[.agg #[.int .i64 (z1), .int .i64 (z2)], .bool true])), (10, .made wr.heap.size 2)] (by kernel_rfl) (by kernel_rfl) ?_
        (refine lz_one rfl (fun K hK => ?_); refine ⟨rfl, ?_⟩; apply Exists.intro; refine ⟨fun wz hz => ?_, ?_⟩; (focus (obtain ⟨c0, c1, c2, -⟩ := (b0.gr hz).trio; go_simp; (first | done | exact ⟨rfl, rfl⟩ | trivial))); (go_simp; refine hK _ _ ?_; clear hK K))
        (refine lz_one rfl (fun K hK => ?_); refine ⟨rfl, ?_⟩; apply Exists.intro; refine ⟨fun wz hz => ?_, ?_⟩; (focus (obtain ⟨c0, c1, -⟩ := (b1.gr hz).two; go_simp; (first | done | exact ⟨rfl, rfl⟩ | trivial))); (go_simp; refine hK _ _ ?_; clear hK K))
        (refine lz_one rfl (fun K hK => ?_); refine ⟨rfl, ?_⟩; apply Exists.intro; refine ⟨fun wz hz => ?_, ?_⟩; (focus (skip; go_simp; (first | done | exact ⟨rfl, rfl⟩ | trivial))); (go_simp; refine hK _ _ ?_; clear hK K))
        (refine lz_one rfl (fun K hK => ?_); refine ⟨rfl, ?_⟩; apply Exists.intro; refine ⟨fun wz hz => ?_, ?_⟩; (focus (skip; go_simp; (first | done | exact ⟨rfl, rfl⟩ | trivial))); (go_simp; refine hK _ _ ?_; clear hK K))
        (refine lz_one rfl (fun K hK => ?_); refine ⟨rfl, ?_⟩; apply Exists.intro; refine ⟨fun wz hz => ?_, ?_⟩; (focus (skip; go_simp; (first | done | exact ⟨rfl, rfl⟩ | trivial))); (go_simp; refine hK _ _ ?_; clear hK K))
        (refine lz_one rfl (fun K hK => ?_); refine ⟨rfl, ?_⟩; apply Exists.intro; refine ⟨fun wz hz => ?_, ?_⟩; (focus (obtain ⟨⟨y0, yl⟩, y1, y2, y3⟩ := HC.out wz hz; go_simp; (first | done | exact ⟨rfl, rfl⟩ | trivial))); (go_simp; refine hK _ _ ?_; clear hK K))
        (refine lz_many _ rfl (fun K hK => ?_); refine ⟨rfl, fun wz hz ha => ?_, fun vz wz hz hf => ?_⟩; (focus (go_simp; exact lm_call (by decide) hz (HApk.out _ (hXY.1.gr hz) (hXY.2.gr hz)))); (obtain rfl := hf; clear hz wz; go_simp; refine hK _ _ ?_; clear hK K))
        (refine lz_one rfl (fun K hK => ?_); refine ⟨rfl, ?_⟩; apply Exists.intro; refine ⟨fun wz hz => ?_, ?_⟩; (focus (skip; go_simp; (first | done | exact ⟨rfl, rfl⟩ | trivial))); (go_simp; refine hK _ _ ?_; clear hK K))
        (refine lz_one rfl (fun K hK => ?_); refine ⟨rfl, ?_⟩; apply Exists.intro; refine ⟨fun wz hz => ?_, ?_⟩; (focus (skip; go_simp; (first | done | exact ⟨rfl, rfl⟩ | trivial))); (go_simp; refine hK _ _ ?_; clear hK K))
        (refine lz_one rfl (fun K hK => ?_); refine ⟨rfl, ?_⟩; apply Exists.intro; refine ⟨fun wz hz => ?_, ?_⟩; (focus (skip; go_simp; (first | done | exact ⟨rfl, rfl⟩ | trivial))); (go_simp; refine hK _ _ ?_; clear hK K))
        (refine lz_many _ rfl (fun K hK => ?_); refine ⟨rfl, fun wz hz ha => ?_, fun vz wz hz hf => ?_⟩; (focus (go_simp; exact lm_made (by decide) hz (Nat.le_refl _) rfl)); (obtain ⟨gg, rfl, -, -⟩ := hf; clear hz wz; go_simp; refine hK _ _ ?_; clear hK K))
        (refine lz_many _ rfl (fun K hK => ?_); refine ⟨rfl, fun wz hz ha => ?_, fun vz wz hz hf => ?_⟩; (focus (obtain ⟨g', e', hb', ds, h1, h2⟩ := ha ⟨10, .data⟩ (by simp) rfl; cases e'; obtain ⟨y0, y1, rfl⟩ := two_of h1; obtain ⟨c0, c1, cf⟩ := h2.two; have cl := h2.lt; go_simp; exact lm_two hz hb' h2 rfl)); (obtain - := hf; clear hz wz; go_simp; refine hK _ _ ?_; clear hK K))
        (refine lz_one rfl (fun K hK => ?_); refine ⟨rfl, ?_⟩; apply Exists.intro; refine ⟨fun wz hz => ?_, ?_⟩; (focus (skip; go_simp; (first | done | exact ⟨rfl, rfl⟩ | trivial))); (go_simp; refine hK _ _ ?_; clear hK K))
        refine lz_nil ?_
        intro w2 hz hg
        obtain ⟨g0, e2, hA0⟩ := hg 11
        obtain ⟨gm, em, hgm, -, -, hAm⟩ := hg 10
        cases e2
        cases em
        clear hg
        have hW2 := hW.trans (hz.below.mono hW.size)
        have q0 := b0.gr hz
        have q1 := b1.gr hz
        have ql := q1.lt
        obtain ⟨c0, c1, cf⟩ := q1.two
        obtain ⟨d0, d1, -⟩ := hA0.two
        clear HC hXY
        go_wp2_with (first | (go_at_call 49; (with_reducible refine (HA1.out _).mono ?_); rintro e w3 ⟨rfl, rfl⟩) | (go_at_call 49; (with_reducible refine (HA2.out _).mono ?_); rintro e w4 ⟨rfl, rfl⟩))
        go_roundw
        case rel => exact ⟨k + 1, _, by omega, by rw [hJu.out], by rw [hJv.out], by go_num, HN, hJ2.out, (q0.far (a := ⟨w.heap.size + 1, 0, none⟩) (by show w.heap.size + 1 ≠ _; omega) _).far (a := ⟨w.heap.size + 1, 1, none⟩) (by show w.heap.size + 1 ≠ _; omega) _, (q1.set 0 _).set 1 _, (hW2.setCell (p := ⟨w.heap.size + 1, 0, none⟩) (by show w.heap.size ≤ w.heap.size + 1; omega) _).setCell (p := ⟨w.heap.size + 1, 1, none⟩) (by show w.heap.size ≤ w.heap.size + 1; omega) _⟩
        case measure => simp [intOf]; omega
      · have HN := Lib.hid (HStop.out _ (HD.out.trans (jyRun_no ho)))
        rw [ho] at hon
        clear hye ho HD
        generalize hap : apR xs ys (mk, s, u, t) J.a J.c = ap at *
        obtain ⟨⟨z1, z2⟩, z3⟩ := ap
        simp only at hon
        subst hon
        clear hap
        refine region_mix 11 39 #[.int .i64 z1, .int .i64 z2] [(6, .is (.tuple #[.agg #[.int .i64 (z1), .int .i64 (z2)], .bool false])), (10, .made wr.heap.size 2)] (by kernel_rfl) (by kernel_rfl) ?_
        (refine lz_one rfl (fun K hK => ?_); refine ⟨rfl, ?_⟩; apply Exists.intro; refine ⟨fun wz hz => ?_, ?_⟩; (focus (obtain ⟨c0, c1, c2, -⟩ := (b0.gr hz).trio; go_simp; (first | done | exact ⟨rfl, rfl⟩ | trivial))); (go_simp; refine hK _ _ ?_; clear hK K))
        (refine lz_one rfl (fun K hK => ?_); refine ⟨rfl, ?_⟩; apply Exists.intro; refine ⟨fun wz hz => ?_, ?_⟩; (focus (obtain ⟨c0, c1, -⟩ := (b1.gr hz).two; go_simp; (first | done | exact ⟨rfl, rfl⟩ | trivial))); (go_simp; refine hK _ _ ?_; clear hK K))
        (refine lz_one rfl (fun K hK => ?_); refine ⟨rfl, ?_⟩; apply Exists.intro; refine ⟨fun wz hz => ?_, ?_⟩; (focus (skip; go_simp; (first | done | exact ⟨rfl, rfl⟩ | trivial))); (go_simp; refine hK _ _ ?_; clear hK K))
        (refine lz_one rfl (fun K hK => ?_); refine ⟨rfl, ?_⟩; apply Exists.intro; refine ⟨fun wz hz => ?_, ?_⟩; (focus (skip; go_simp; (first | done | exact ⟨rfl, rfl⟩ | trivial))); (go_simp; refine hK _ _ ?_; clear hK K))
        (refine lz_one rfl (fun K hK => ?_); refine ⟨rfl, ?_⟩; apply Exists.intro; refine ⟨fun wz hz => ?_, ?_⟩; (focus (skip; go_simp; (first | done | exact ⟨rfl, rfl⟩ | trivial))); (go_simp; refine hK _ _ ?_; clear hK K))
        (refine lz_one rfl (fun K hK => ?_); refine ⟨rfl, ?_⟩; apply Exists.intro; refine ⟨fun wz hz => ?_, ?_⟩; (focus (obtain ⟨⟨y0, yl⟩, y1, y2, y3⟩ := HC.out wz hz; go_simp; (first | done | exact ⟨rfl, rfl⟩ | trivial))); (go_simp; refine hK _ _ ?_; clear hK K))
        (refine lz_many _ rfl (fun K hK => ?_); refine ⟨rfl, fun wz hz ha => ?_, fun vz wz hz hf => ?_⟩; (focus (go_simp; exact lm_call (by decide) hz (HApk.out _ (hXY.1.gr hz) (hXY.2.gr hz)))); (obtain rfl := hf; clear hz wz; go_simp; refine hK _ _ ?_; clear hK K))
        (refine lz_one rfl (fun K hK => ?_); refine ⟨rfl, ?_⟩; apply Exists.intro; refine ⟨fun wz hz => ?_, ?_⟩; (focus (skip; go_simp; (first | done | exact ⟨rfl, rfl⟩ | trivial))); (go_simp; refine hK _ _ ?_; clear hK K))
        (refine lz_one rfl (fun K hK => ?_); refine ⟨rfl, ?_⟩; apply Exists.intro; refine ⟨fun wz hz => ?_, ?_⟩; (focus (skip; go_simp; (first | done | exact ⟨rfl, rfl⟩ | trivial))); (go_simp; refine hK _ _ ?_; clear hK K))
        (refine lz_one rfl (fun K hK => ?_); refine ⟨rfl, ?_⟩; apply Exists.intro; refine ⟨fun wz hz => ?_, ?_⟩; (focus (skip; go_simp; (first | done | exact ⟨rfl, rfl⟩ | trivial))); (go_simp; refine hK _ _ ?_; clear hK K))
        (refine lz_many _ rfl (fun K hK => ?_); refine ⟨rfl, fun wz hz ha => ?_, fun vz wz hz hf => ?_⟩; (focus (go_simp; exact lm_made (by decide) hz (Nat.le_refl _) rfl)); (obtain ⟨gg, rfl, -, -⟩ := hf; clear hz wz; go_simp; refine hK _ _ ?_; clear hK K))
        (refine lz_many _ rfl (fun K hK => ?_); refine ⟨rfl, fun wz hz ha => ?_, fun vz wz hz hf => ?_⟩; (focus (obtain ⟨g', e', hb', ds, h1, h2⟩ := ha ⟨10, .data⟩ (by simp) rfl; cases e'; obtain ⟨y0, y1, rfl⟩ := two_of h1; obtain ⟨c0, c1, cf⟩ := h2.two; have cl := h2.lt; go_simp; exact lm_two hz hb' h2 rfl)); (obtain - := hf; clear hz wz; go_simp; refine hK _ _ ?_; clear hK K))
        (refine lz_one rfl (fun K hK => ?_); refine ⟨rfl, ?_⟩; apply Exists.intro; refine ⟨fun wz hz => ?_, ?_⟩; (focus (skip; go_simp; (first | done | exact ⟨rfl, rfl⟩ | trivial))); (go_simp; refine hK _ _ ?_; clear hK K))
        refine lz_nil ?_
        intro w2 hz hg
        clear hg
        have hW2 := hW.trans (hz.below.mono hW.size)
        clear HC hXY
        go_wp2_with fail
        ((try simp only [Exit.inBlock, Exit.then]); refine bodyPost_ret (v := .tuple #[.int .i64 0, .int .i64 0, .int .i64 5]) (by simp [results, Tryd.results28, go_sem]) rfl ?_)
        exact ⟨ret_three3 _ _ _ _ HN.out, Gr.of_below hW2⟩
    · obtain rfl : k = p := by omega
      have HN := Lib.hid (HRun.out _ (HR.out.trans (by rw [List.drop_of_length_le (by rw [HL.out]; omega), jyRun_nil])))
      clear HR
      go_wp2_with fail
      ((try simp only [Exit.inBlock, Exit.then]); refine bodyPost_ret (v := .tuple #[.int .i64 J.u, .int .i64 J.v, .int .i64 0]) (by simp [results, Tryd.results28, go_sem]) rfl ?_)
      exact ⟨ret_three3 _ _ _ _ HN.out, Gr.of_below hW⟩
end Go.Proofs.YtefhhigcplemaaaDoor
