/- Contracts of chapter 7: the program's iterator over the marks of parts. -/
import Derived.RangeFuncNested
import Derived.RangeFuncFrom
import Derived.RangeFuncBound
import Derived.RangeFuncCalls
import Derived.RangeFuncLeaves
import Derived.Shelf.Abstract
import Derived.Shelf.RegionOpen
import Derived.WalkKit
import Derived.OwnWalkIn
import Derived.TacticsInMore
import Derived.LoopNIn
import Derived.LoopIn
import Derived.Test.YtggflladheemoaaC07f
import Derived.Test.YtggflladheemoaaRx
namespace Go.Proofs.Ytggflladheemoaa
open Go.RowKit Go.Shelf
set_option linter.unusedVariables false
set_option linter.unusedSimpArgs false
attribute [local go_sem] Oper.semAt_some

/-- A block of cells of type T. -/
def isT (T : TypeId) : Obj → Bool
  | .cells _ t _ => t == T
  | _ => false
/-- Blocks of cells of type T lie as they lay. -/
structure KeepsT (T : TypeId) (W W' : World) : Prop where
  size : W.heap.size ≤ W'.heap.size
  same : ∀ (k : Nat) (o : Obj), W.heap[k]? = some o → isT T o = true → W'.heap[k]? = W.heap[k]?
theorem KeepsT.refl (T : TypeId) (W : World) : KeepsT T W W := ⟨Nat.le_refl _, fun _ _ _ _ => rfl⟩
theorem KeepsT.trans {T : TypeId} {A B C : World} (h : KeepsT T A B) (k : KeepsT T B C) : KeepsT T A C :=
  ⟨Nat.le_trans h.size k.size, fun i o hi ho => (k.same i o ((h.same i o hi ho).trans hi) ho).trans (h.same i o hi ho)⟩
theorem KeepsT.grown {T : TypeId} {W W' : World} {row : Option Nat} (hg : W.grownBy W' row) (hrow : ∀ r, row = some r → ∃ o : Obj, W.heap[r]? = some o ∧ isT T o = false) : KeepsT T W W' :=
  ⟨hg.size, fun k o hk ho => hg.block k (Array.getElem?_eq_some_iff.1 hk).1 (fun e => by
    obtain ⟨o', h1, h2⟩ := hrow k e.symm
    rw [hk] at h1
    cases h1
    rw [ho] at h2
    cases h2)⟩
theorem KeepsT.alloc (T : TypeId) (W : World) (o : Obj) : KeepsT T W (W.alloc o) := KeepsT.grown (World.grownBy_alloc W o none) (fun r e => by cases e)
theorem KeepsT.of_gr {T : TypeId} {W W' : World} (h : Gr W W') : KeepsT T W W' := ⟨h.below.size, fun k o hk _ => h.below.block k (Array.getElem?_eq_some_iff.1 hk).1⟩
theorem KeepsT.set {T : TypeId} {W : World} {B : Nat} {t : TypeId} {v : Value} (h : Boxed W B t v) (ht : (t == T) = false) (u : Value) : KeepsT T W (W.setCell ⟨B, 0, none⟩ u) :=
  KeepsT.grown (grownBy_setCell' W B u) (fun r e => by cases e; exact ⟨_, h, ht⟩)
/-- What a round keeps: what lay below n₀, and each block of type T. -/
def KM (T : TypeId) (n₀ : Nat) (W W' : World) : Prop := Below n₀ W W' ∧ KeepsT T W W'
theorem KM.refl (T : TypeId) (n₀ : Nat) (W : World) : KM T n₀ W W := ⟨Below.refl _ _, KeepsT.refl _ _⟩
theorem KM.t {T : TypeId} {n₀ : Nat} {A B C : World} (h : KM T n₀ A B) (k : KM T n₀ B C) : KM T n₀ A C := ⟨h.1.trans k.1, h.2.trans k.2⟩
theorem KM.b {T : TypeId} {n₀ : Nat} {w : World} (hn : n₀ ≤ w.heap.size) (W : World) (l : Nat) (o o' : Obj) (hl : w.heap.size ≤ l) (h : W.heap[l]? = some o) (hc : o.isCells = false) (hw : o.isWalk = false) : KM T n₀ W (W.putObj l o') :=
  ⟨belowK_b hn W l o o' hl h hc hw, KeepsT.grown (grownBy_putObj' W l o') (fun r e => by cases e; refine ⟨o, h, ?_⟩; cases o <;> simp_all [Obj.isCells, isT])⟩
theorem KM.alloc {T : TypeId} {n₀ : Nat} {W : World} (h : n₀ ≤ W.heap.size) (o : Obj) : KM T n₀ W (W.alloc o) := ⟨(Below.refl _ _).alloc h o, KeepsT.alloc _ _ _⟩
theorem KM.gr {T : TypeId} {n₀ : Nat} {W W' : World} (h : n₀ ≤ W.heap.size) (hg : Gr W W') : KM T n₀ W W' := ⟨hg.below.mono h, KeepsT.of_gr hg⟩
/-- Parts at an address, in a block below n₀ or of their own type. -/
def Rd3 (T : TypeId) (n₀ : Nat) (W : World) (A : Option Addr) (zs : List P3) : Prop :=
  ∀ k (h : k < (cells3 zs).length), ∃ g o : Nat, A = some ⟨g, o, none⟩ ∧ W.cell? ⟨g, o + k, none⟩ = some (cells3 zs)[k] ∧ (g < n₀ ∨ ∃ ob, W.heap[g]? = some ob ∧ isT T ob = true)
theorem Rd3.of_reads {T : TypeId} {n₀ : Nat} {W : World} {A : Option Addr} {zs : List P3} (h : Reads W n₀ A (cells3 zs)) : Rd3 T n₀ W A zs := fun k hk => by
  obtain ⟨g, o, e, hg, hc⟩ := h k hk
  exact ⟨g, o, e, hc, .inl hg⟩
theorem Rd3.of_row {T : TypeId} {n₀ : Nat} {W : World} {b : Nat} {zs : List P3} (h : Row W b T (cells3 zs)) : Rd3 T n₀ W (some ⟨b, 0, none⟩) zs := fun k hk =>
  ⟨b, 0, rfl, by rw [Nat.zero_add, h.cell, List.getElem?_eq_getElem hk], .inr ⟨_, h, by simp [isT]⟩⟩
theorem Rd3.keep {T : TypeId} {n₀ : Nat} {W W' : World} {A : Option Addr} {zs : List P3} (h : Rd3 T n₀ W A zs) (hk : KM T n₀ W W') : Rd3 T n₀ W' A zs := fun k hk' => by
  obtain ⟨g, o, e, hc, hg⟩ := h k hk'
  have hb : W'.heap[g]? = W.heap[g]? := by
    rcases hg with hg | ⟨ob, h1, h2⟩
    · exact hk.1.block g hg
    · exact hk.2.same g ob h1 h2
  refine ⟨g, o, e, (World.cell?_of_block hb).trans hc, ?_⟩
  rcases hg with hg | ⟨ob, h1, h2⟩
  · exact .inl hg
  · exact .inr ⟨ob, hb.trans h1, h2⟩
theorem Rd3.at3 {T : TypeId} {n₀ : Nat} {W : World} {A : Option Addr} {zs : List P3} (h : Rd3 T n₀ W A zs) {i : Nat} {p : P3} (hp : zs[i]? = some p) :
    ∃ g o : Nat, A = some ⟨g, o, none⟩ ∧ W.cell? ⟨g, o + i * 3, none⟩ = some (vi p.1) ∧ W.cell? ⟨g, o + i * 3 + 1, none⟩ = some (vi p.2.1) ∧ W.cell? ⟨g, o + i * 3 + 2, none⟩ = some (vi p.2.2) := by
  have hr : Reads W W.heap.size A (cells3 zs) := fun k hk => by
    obtain ⟨g, o, e, hc, -⟩ := h k hk
    exact ⟨g, o, e, World.block_lt_of_cell? W _ hc, hc⟩
  obtain ⟨g, o, e, -, x⟩ := hr.at3 hp
  exact ⟨g, o, e, x⟩

theorem frs_mono (p : P3) (j : Nat) : ∀ d : Nat, frs p j <+: frs p (j + d)
  | 0 => List.prefix_refl _
  | d + 1 => by
    rw [show j + (d + 1) = (j + d) + 1 from rfl, frs_succ]
    exact List.IsPrefix.trans (frs_mono p j d) (List.prefix_append _ _)
/-- One mark more: it is among all marks. -/
theorem frs_lt {zs : List P3} {k : Nat} {p : P3} (h : zs[k]? = some p) {j : Nat} (hj : j ≤ prN p) :
    (mks (zs.take k) ++ frs p j) <+: mks zs ∧ (j < prN p → (mks (zs.take k) ++ frs p j).length < (mks zs).length) := by
  obtain ⟨hk, e⟩ := List.getElem?_eq_some_iff.1 h
  have e4 : mks zs = (mks (zs.take k) ++ prM p) ++ mks (zs.drop (k + 1)) := by
    have e4 : zs = zs.take k ++ (p :: zs.drop (k + 1)) := by rw [← e, ← List.drop_eq_getElem_cons hk, List.take_append_drop]
    unfold mks
    conv => lhs; rw [e4]
    rw [List.flatMap_append, List.flatMap_cons, List.append_assoc]
  have e5 : frs p j <+: prM p := by
    obtain ⟨d, hd⟩ := Nat.exists_eq_add_of_le hj
    have h1 : prM p = frs p (j + d) := by rw [← hd]; rfl
    rw [h1]
    exact frs_mono p j d
  refine ⟨?_, fun hlt => ?_⟩
  · rw [e4]
    obtain ⟨t, ht⟩ := e5
    exact ⟨t ++ mks (zs.drop (k + 1)), by rw [← ht]; simp [List.append_assoc]⟩
  · rw [e4, List.length_append, List.length_append, List.length_append, frs_len, prM_len]
    omega

set_option maxRecDepth 100000 in
set_option maxHeartbeats 4000000 in
/-- The iterator: for every loop body that keeps where the parts are read, and the block of a part. -/
theorem marks1_in (n : Nat) (hn : 1 ≤ n) (n₀ : Nat) (Kp : World → World → Prop) (R : World → Prop) (A : Option Addr) (len c : Nat) (zs : List P3) (hl : zs.length = len) (hlN : len ≤ 16777216) (hok : ∀ p ∈ zs, ∃ a, ptOk a p = true ∧ 0 ≤ a) (l bp : Nat) (J Jx : List Int → World → Prop)
    (hJ : ∀ s W o, J s W → J s (W.alloc o)) (hRK : ∀ X Y, R X → Kp X Y → R Y) (hRA : ∀ X o, R X → R (X.alloc o))
    (hRR : ∀ X, R X → ∀ i p, zs[i]? = some p → ∃ g o : Nat, A = some ⟨g, o, none⟩ ∧ X.cell? ⟨g, o + i * 3, none⟩ = some (vi p.1) ∧ X.cell? ⟨g, o + i * 3 + 1, none⟩ = some (vi p.2.1) ∧ X.cell? ⟨g, o + i * 3 + 2, none⟩ = some (vi p.2.2))
    (hKB : ∀ X Y b vs, n₀ ≤ b → Kp X Y → X.heap[b]? = some (.cells vs 65 (0, 0)) → Y.heap[b]? = X.heap[b]?) (hKS : ∀ X Y, Kp X Y → X.heap.size ≤ Y.heap.size)
    (hY : ∀ pre y W, J pre W → pre ++ [y] <+: mks zs → YieldAt Fence.wide (n - 1) Try.prog l #[.int .i64 y] W fun e W' =>
      (e = .returned (.bool true) ∧ J (pre ++ [y]) W' ∧ Kp W W') ∨ (e = .returned (.bool false) ∧ Jx (pre ++ [y]) W'))
    (W : World) (hb : W.cell? ⟨bp, 0, none⟩ = some (.slice A len c)) (hn₀ : n₀ ≤ W.heap.size) (hR : R W) (h0 : J [] W) :
    CallsIn Fence.wide n Try.prog 65 #[.func (.yield l) #[] #[], .pointer (some ⟨bp, 0, none⟩)] W fun e W' => (∃ v, e = .returned v) ∧
      ((∃ ys, ys = mks zs ∧ J ys W') ∨ (∃ pre, pre <+: mks zs ∧ Jx pre W')) := by
  have HL := Lib.hid hl
  have HOK := Lib.hid (fun (k : Nat) (p : P3) (hp : zs[k]? = some p) => hok p (List.mem_of_getElem? hp))
  have HFR := Lib.hid (fun (k : Nat) (p : P3) (hp : zs[k]? = some p) (j : Nat) (hj : j ≤ prN p) => frs_lt hp hj)
  have HZ0 := Lib.hid (show mks (zs.take 0) = [] by simp [mks])
  clear hl hok
  refine callsIn_of_wp Try.func65 rfl trivial ?_ rfl
  simp only [Try.ntmps65, List.size_toArray, List.length_cons, List.length_nil, Nat.reduceAdd, Nat.reduceSub, Array.replicate_succ, Array.replicate_zero, List.push_toArray, List.append_toArray, List.nil_append, List.cons_append]
  gi_wp2
  gi_loopw [8] (fun i wr => ∃ k : Nat, k ≤ len ∧ i = .int .i64 k ∧ Hid (J (mks (zs.take k)) wr) ∧ Hid (R wr) ∧ n₀ ≤ wr.heap.size)
    (fun i wr => len - (intOf i).toNat)
  case atStart => exact ⟨0, by omega, rfl, by rw [HZ0.out]; exact Lib.hid h0, Lib.hid hR, hn₀⟩
  case round =>
    obtain ⟨k, hk, rfl, HJ, HR, hsz⟩ := hrel
    by_cases hlt : k < len
    · obtain ⟨z, hz⟩ := some_at (l := zs) (k := k) (by rw [HL.out]; exact hlt)
      obtain ⟨a, ho, ha⟩ := HOK.out k z hz
      obtain ⟨e1, e2⟩ := prN_is ho
      obtain ⟨p1, p2, p3, p4, -⟩ := (ptOk_iff _ _).1 ho
      have HT := Lib.hid (mks_take hz)
      have HFZ := Lib.hid (HFR.out k z hz)
      obtain ⟨g, o, rfl, x0, x1, x2⟩ := hRR _ HR.out _ _ hz
      obtain ⟨za, zb, zc⟩ := z
      simp only at *
      subst p1
      clear hz ho
      have hNl : (prN (za, zb, zc) : Int) ≤ 10000 := by
        have hm := Int.mul_le_mul_of_nonneg_right (show (1 : Int) ≤ zc by omega) (show (0 : Int) ≤ (prN (za, zb, zc) : Int) by omega)
        omega
      have HE1 := Lib.hid e1
      have HTF := Lib.hid (frs_all (za, zb, zc))
      clear e1
      generalize prN (za, zb, zc) = N at *
      gi_wp2
      clear x0 x1 x2
      have hnew := World.alloc_heap_new wr (.cells #[.int .i64 za, .int .i64 zb, .int .i64 zc] 65)
      have HSTART := Lib.hid (hJ _ _ (.cells #[.int .i64 za, .int .i64 zb, .int .i64 zc] 65) HJ.out)
      have HRS := Lib.hid (hRA _ (.cells #[.int .i64 za, .int .i64 zb, .int .i64 zc] 65) HR.out)
      have hbs0 := hsz
      have hszS : n₀ ≤ (wr.alloc (.cells #[.int .i64 za, .int .i64 zb, .int .i64 zc] 65)).heap.size := by simp; omega
      clear HJ HR
      generalize wr.alloc (.cells #[.int .i64 za, .int .i64 zb, .int .i64 zc] 65) = W0 at *
      generalize wr.heap.size = bs at *
      gi_loopw [5] (fun m wr2 => ∃ j : Nat, j ≤ N ∧ m = .int .i64 (za + zc * (j : Int)) ∧ Hid (J (mks (zs.take k) ++ frs (za, zb, zc) j) wr2) ∧ Hid (R wr2) ∧ n₀ ≤ wr2.heap.size ∧ wr2.heap[bs]? = some (.cells #[.int .i64 za, .int .i64 zb, .int .i64 zc] 65 (0, 0)))
        (fun m _ => (zb - intOf m).toNat)
      case atStart => exact ⟨0, by omega, by simp, Lib.hid (by simpa [frs] using HSTART.out), HRS, hszS, hnew⟩
      case round =>
        obtain ⟨j, hj, rfl, HJ2, HR2, hsz2, hbl⟩ := hrel
        have y0 : _ := cell_of_row wr bs 0 _ _ _ hbl
        have y1 : _ := cell_of_row wr bs 1 _ _ _ hbl
        have y2 : _ := cell_of_row wr bs 2 _ _ _ hbl
        simp at y0 y1 y2
        by_cases hltj : j < N
        · have hm := Int.mul_le_mul_of_nonneg_left (show ((j : Int) + 1) ≤ (N : Int) by omega) (show 0 ≤ zc by omega)
          rw [Int.mul_add, Int.mul_one] at hm
          have h0' : 0 ≤ zc * (j : Int) := Int.mul_nonneg (by omega) (by omega)
          have hq : za + zc * (j : Int) + zc ≤ zb := by have := HE1.out; omega
          have HS := Lib.hid (frs_succ (za, zb, zc) j)
          have HJJ := Lib.hid (show za + zc * ((j + 1 : Nat) : Int) = za + zc * (j : Int) + zc by rw [Int.natCast_add, Int.mul_add]; simp; omega)
          simp only at HS
          obtain ⟨fn, tmps, assign, body, hy, hR⟩ := hY (mks (zs.take k) ++ frs (za, zb, zc) j) (za + zc * (j : Int)) wr HJ2.out (by rw [List.append_assoc, ← HS.out]; exact (HFZ.out (j + 1) hltj).1)
          have HY := Lib.hid hR
          have HPX := Lib.hid (HFZ.out (j + 1) hltj).1
          clear hR hm
          generalize zc * (j : Int) = q at *
          gi_wp2
          refine HY.out.mono ?_
          rintro e W3 (⟨rfl, hJ3, hk3⟩ | ⟨rfl, hJx3⟩)
          · have hbl3 := (hKB _ _ _ _ hbs0 hk3 hbl).trans hbl
            have HR3 := Lib.hid (hRK _ _ HR2.out hk3)
            have hsz3 : n₀ ≤ W3.heap.size := Nat.le_trans hsz2 (hKS _ _ hk3)
            have HJ3 := Lib.hid hJ3
            have z2 : _ := cell_of_row W3 bs 2 _ _ _ hbl3
            simp at z2
            clear hJ3 hk3
            gi_wp2
            go_roundw
            case rel => exact ⟨j + 1, by omega, by rw [HJJ.out], by rw [HS.out, ← List.append_assoc]; exact HJ3, HR3, hsz3, hbl3⟩
            case measure => simp [intOf]; omega
          · gi_wp2
            refine bodyPost_ret (results_none rfl _ _ _) rfl ?_
            exact ⟨⟨_, rfl⟩, .inr ⟨_, by rw [List.append_assoc, ← HS.out]; exact HPX.out, hJx3⟩⟩
        · obtain rfl : j = N := by omega
          have hq : ¬ za + zc * (j : Int) < zb := by have := HE1.out; omega
          gi_wp2
          go_roundw
          case rel => exact ⟨k + 1, by omega, by go_num, by rw [HT.out, ← HTF.out]; exact HJ2, HR2, hsz2⟩
          case measure => simp [intOf]; omega
    · obtain rfl : k = len := by omega
      have HF := Lib.hid (show zs.take k = zs from List.take_of_length_le (by rw [HL.out]; omega))
      gi_wp2
      go_end0
      exact ⟨⟨_, rfl⟩, .inl ⟨_, rfl, by rw [← HF.out]; exact HJ.out⟩⟩

/-- A mark of these parts. -/
abbrev Mk (zs : List P3) := { x : Int // x ∈ mks zs }
def unM {zs : List P3} (l : List (Mk zs)) : List Int := l.map (·.1)
theorem unM_snoc {zs : List P3} (l : List (Mk zs)) (x : Mk zs) : unM (l ++ [x]) = unM l ++ [x.1] := by simp [unM]
theorem unM_len {zs : List P3} (l : List (Mk zs)) : (unM l).length = l.length := by simp [unM]
theorem marks_stops (n : Nat) (hn : 1 ≤ n) (n₀ : Nat) (A : Option Addr) (len c : Nat) (zs : List P3) (hl : zs.length = len) (hlN : len ≤ 16777216) (hok : ∀ p ∈ zs, ∃ a, ptOk a p = true ∧ 0 ≤ a) (bp : Nat) (w : World) (hb : w.cell? ⟨bp, 0, none⟩ = some (.slice A len c)) (hn₀ : n₀ ≤ w.heap.size) (hR : Rd3 65 n₀ w A zs) :
    SeqStopsK Fence.wide n Try.prog 65 #[.pointer (some ⟨bp, 0, none⟩)] (fun y : Mk zs => #[Value.int .i64 y.1]) (KM 65 n₀) (fun ys => unM ys = mks zs) (fun pre => unM pre <+: mks zs) (mks zs).length w := fun l J Jx W hW hJ _ hY h0 => by
  refine (marks1_in n hn n₀ (KM 65 n₀) (fun W => Rd3 65 n₀ W A zs ∧ n₀ ≤ W.heap.size) A len c zs hl hlN hok l bp (fun pre W => ∃ q : List (Mk zs), unM q = pre ∧ J q W) (fun pre W => ∃ q : List (Mk zs), unM q = pre ∧ Jx q W) ?_ (fun X Y h k => ⟨h.1.keep k, Nat.le_trans h.2 k.2.size⟩) (fun X o h => ⟨h.1.keep (KM.alloc h.2 o), by simp; omega⟩) (fun X h i p hp => h.1.at3 hp)
    (fun X Y b vs _ k hb => k.2.same _ _ hb (by simp [isT])) (fun X Y k => k.2.size) ?_ W
    ((hW.cell (p := ⟨bp, 0, none⟩) (World.block_lt_of_cell? w _ hb)).trans hb) (Nat.le_trans hn₀ hW.size) ⟨hR.keep ⟨hW.mono hn₀, hW.size, fun k o hk _ => hW.block k (Array.getElem?_eq_some_iff.1 hk).1⟩, Nat.le_trans hn₀ hW.size⟩ ⟨[], rfl, h0⟩).mono ?_
  · rintro s W o ⟨q, hq, hs⟩
    exact ⟨q, hq, hJ q W _ none hs (World.grownBy_alloc W o none) (fun r e => by cases e)⟩
  · rintro pre y W1 ⟨q, rfl, hq⟩ hp
    have hy : y ∈ mks zs := hp.subset (by simp)
    have hlen : q.length < (mks zs).length := by have := hp.length_le; rw [List.length_append, unM_len] at this; simp at this; omega
    obtain ⟨fn, tmps, assign, body, h1, h2⟩ := hY q ⟨y, hy⟩ W1 hq hlen
    refine ⟨fn, tmps, assign, body, h1, h2.mono ?_⟩
    rintro e W' (⟨rfl, h3, h4⟩ | ⟨rfl, h3⟩)
    · exact .inl ⟨rfl, ⟨_, unM_snoc q ⟨y, hy⟩, h3⟩, h4⟩
    · exact .inr ⟨rfl, ⟨_, unM_snoc q ⟨y, hy⟩, h3⟩⟩
  · rintro e W' ⟨hv, (⟨ys, rfl, q, h1, h2⟩ | ⟨pre, hp, q, rfl, h2⟩)⟩
    · exact ⟨hv, .inl ⟨q, h1, h2⟩⟩
    · exact ⟨hv, .inr ⟨q, hp, h2⟩⟩

/-- Parts at an address, in a block that is none of a list. -/
def RdX (bs : List Nat) (W : World) (A : Option Addr) (zs : List P3) : Prop :=
  ∀ k (h : k < (cells3 zs).length), ∃ g o : Nat, A = some ⟨g, o, none⟩ ∧ W.cell? ⟨g, o + k, none⟩ = some (cells3 zs)[k] ∧ g ∉ bs
theorem RdX.keep {bs : List Nat} {W W' : World} {A : Option Addr} {zs : List P3} (h : RdX bs W A zs) (hk : Kx bs W W') : RdX bs W' A zs := fun k hk' => by
  obtain ⟨g, o, e, hc, hg⟩ := h k hk'
  exact ⟨g, o, e, (World.cell?_of_block (hk.same g (World.block_lt_of_cell? W _ hc) hg)).trans hc, hg⟩
theorem RdX.at3 {bs : List Nat} {W : World} {A : Option Addr} {zs : List P3} (h : RdX bs W A zs) {i : Nat} {p : P3} (hp : zs[i]? = some p) :
    ∃ g o : Nat, A = some ⟨g, o, none⟩ ∧ W.cell? ⟨g, o + i * 3, none⟩ = some (vi p.1) ∧ W.cell? ⟨g, o + i * 3 + 1, none⟩ = some (vi p.2.1) ∧ W.cell? ⟨g, o + i * 3 + 2, none⟩ = some (vi p.2.2) := by
  have hr : Reads W W.heap.size A (cells3 zs) := fun k hk => by
    obtain ⟨g, o, e, hc, -⟩ := h k hk
    exact ⟨g, o, e, World.block_lt_of_cell? W _ hc, hc⟩
  obtain ⟨g, o, e, -, x⟩ := hr.at3 hp
  exact ⟨g, o, e, x⟩
/-- The iterator, for loop bodies that write into blocks of a list alone. -/
theorem marksX (n : Nat) (hn : 1 ≤ n) (A : Option Addr) (len c : Nat) (zs : List P3) (hl : zs.length = len) (hlN : len ≤ 16777216) (hok : ∀ p ∈ zs, ∃ a, ptOk a p = true ∧ 0 ≤ a) (bp : Nat) (w : World) (bs : List Nat) (hb : w.cell? ⟨bp, 0, none⟩ = some (.slice A len c)) (hR : RdX bs w A zs) :
    SeqX Fence.wide n Try.prog 65 #[.pointer (some ⟨bp, 0, none⟩)] (fun y : Mk zs => #[Value.int .i64 y.1]) bs (fun ys => unM ys = mks zs) (fun pre => unM pre <+: mks zs) (mks zs).length w := fun l J Jx W hW hbs hJ _ hY h0 => by
  refine (marks1_in n hn W.heap.size (Kx bs) (fun W => RdX bs W A zs) A len c zs hl hlN hok l bp (fun pre W => ∃ q : List (Mk zs), unM q = pre ∧ J q W) (fun pre W => ∃ q : List (Mk zs), unM q = pre ∧ Jx q W) ?_ (fun X Y h k => h.keep k) (fun X o h => h.keep (Kx.grown (World.grownBy_alloc X o none) (fun r e => by cases e))) (fun X h i p hp => h.at3 hp)
    (fun X Y b vs h1 k hb => k.same b (Array.getElem?_eq_some_iff.1 hb).1 (fun e => by have := hbs b e; omega)) (fun X Y k => k.size) ?_ W
    ((hW.cell (p := ⟨bp, 0, none⟩) (World.block_lt_of_cell? w _ hb)).trans hb) (Nat.le_refl _) (hR.keep (Kx.of_below hW)) ⟨[], rfl, h0⟩).mono ?_
  · rintro s W o ⟨q, hq, hs⟩
    exact ⟨q, hq, hJ.alloc o hs⟩
  · rintro pre y W1 ⟨q, rfl, hq⟩ hp
    have hy : y ∈ mks zs := hp.subset (by simp)
    have hlen : q.length < (mks zs).length := by have := hp.length_le; rw [List.length_append, unM_len] at this; simp at this; omega
    obtain ⟨fn, tmps, assign, body, h1, h2⟩ := hY q ⟨y, hy⟩ W1 hq hlen
    refine ⟨fn, tmps, assign, body, h1, h2.mono ?_⟩
    rintro e W' ⟨(⟨rfl, h3⟩ | ⟨rfl, h3⟩), h4⟩
    · exact .inl ⟨rfl, ⟨_, unM_snoc q ⟨y, hy⟩, h3⟩, h4⟩
    · exact .inr ⟨rfl, ⟨_, unM_snoc q ⟨y, hy⟩, h3⟩⟩
  · rintro e W' ⟨hv, (⟨ys, rfl, q, h1, h2⟩ | ⟨pre, hp, q, rfl, h2⟩)⟩
    · exact ⟨hv, .inl ⟨q, h1, h2⟩⟩
    · exact ⟨hv, .inr ⟨q, hp, h2⟩⟩

theorem boxed_gr {W W' : World} {B : Nat} {t : TypeId} {v : Value} (h : Boxed W B t v) (hg : Gr W W') : Boxed W' B t v := (hg.below.block B h.lt).trans h
theorem KO_gr {W W' : World} (h : Gr W W') : KeepsOthers W W' := ⟨h.below.size, fun k o hk _ => (h.below.block k (Array.getElem?_eq_some_iff.1 hk).1).trans hk⟩
/-- A round that ends in a store into a box of the caller's. -/
theorem round_set {T : TypeId} {n₀ : Nat} {W W1 : World} {B : Nat} {t : TypeId} {v : Value} (hg : Gr W W1) (h : Boxed W B t v) (ht : (t == T) = false) (hn : n₀ ≤ W.heap.size) (hB : n₀ ≤ B) (u : Value) :
    KeepsOthers W (W1.setCell ⟨B, 0, none⟩ u) ∧ KM T n₀ W (W1.setCell ⟨B, 0, none⟩ u) ∧ Boxed (W1.setCell ⟨B, 0, none⟩ u) B t u :=
  ⟨(KO_gr hg).trans (KeepsOthers.setCell _ _ _), (KM.gr hn hg).t ⟨(Below.refl _ _).setCell (p := ⟨B, 0, none⟩) hB _, KeepsT.set (boxed_gr h hg) ht u⟩, (boxed_gr h hg).set u⟩
/-- A round that appends to a list in a box keeps the blocks of another type. -/
theorem appended_T {T : TypeId} {W w1 : World} {n₀ B : Nat} {t e : TypeId} {size : Nat} {v v' : Value} {k : Nat} {xs : List Value} {tmp : Obj}
    (hv : Boxed W B t v) (hte : t ≠ e) (hrow : W.ownsRow n₀ e size v k xs) (hgrow : (W.alloc tmp).grownBy w1 v.ownBlock) (h1 : (t == T) = false) (h2 : (e == T) = false) : KeepsT T W (w1.setCell ⟨B, 0, none⟩ v') := by
  have hv1 : Boxed w1 B t v := (hv.alloc tmp).kept hgrow (hv.not_row hte hrow)
  refine ((KeepsT.alloc T W tmp).trans (KeepsT.grown hgrow fun j ej => ?_)).trans (KeepsT.set hv1 h1 v')
  rcases (hrow.alloc tmp).2 with ⟨rfl, _⟩ | ⟨g, cap, cur, rfl, _, hgb, _⟩
  · simp [Value.ownBlock] at ej
  · obtain rfl : g = j := by simpa [Value.ownBlock] using ej
    exact ⟨_, hgb, by simp only [isT]; exact h2⟩
theorem eachMark_any (A : Option Addr) (n c : Nat) (w : World) :
    Calls Try.prog 48 #[.slice A n c] w fun e w' => e = .returned (.func (.func 65) #[] #[.pointer (some ⟨w.heap.size, 0, none⟩)]) ∧ w' = w.alloc (.cells #[.slice A n c] 24) := by
  go_enter Try.func48, Try.ntmps48
  go_wp2
  go_ret
  exact ⟨rfl, rfl⟩
end Go.Proofs.Ytggflladheemoaa
