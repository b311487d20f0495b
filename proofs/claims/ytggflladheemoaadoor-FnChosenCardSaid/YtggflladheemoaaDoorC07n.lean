/- Contracts of chapter 7: whether the marks of a part are kept apart. -/
import Derived.Test.YtggflladheemoaaDoorC07l
namespace Go.Proofs.YtggflladheemoaaDoor
open Go.RowKit Go.Shelf
set_option linter.unusedVariables false
set_option linter.unusedSimpArgs false
attribute [local go_sem] Oper.semAt_some

/-- No distance of the marks of a part is below the limit. -/
def kaB (s l f t lim st : Int) : Bool := decide (ldM s l (prM (f, t, st)) < 0 ∨ lim ≤ ldM s l (prM (f, t, st)))
theorem kaB_all (s l f t lim st : Int) : kaB s l f t lim st = decide (∀ d ∈ gapsL s l (prM (f, t, st)), lim ≤ d) := by
  unfold kaB
  rw [decide_eq_decide]
  exact ldM_all s l lim _

set_option maxRecDepth 100000 in
set_option maxHeartbeats 4000000 in
theorem ka_any (s l f t lim st : Int) (w : World) (hs : sc s = true) (hl : ln l = true) (h1 : 1000 ≤ f) (h2 : f < t) (h3 : t ≤ 10000) (h4 : 1 ≤ st) (h5 : (t - f).tmod st = 0) (hD : Dcs w) :
    Calls Tryd.prog 86 #[.agg #[.int .i64 f, .int .i64 t, .int .i64 st], .int .i64 s, .int .i64 l, .int .i64 lim] w fun e w' => e = .returned (.bool (kaB s l f t lim st)) ∧ Below w.heap.size w w' := by
  have hpt : ptOk f (f, t, st) = true := (ptOk_iff _ _).2 ⟨rfl, show f + 1 ≤ t by omega, h3, h4, h5⟩
  have hmk : mks [(f, t, st)] = prM (f, t, st) := by unfold mks; simp
  have hmm : ∀ x ∈ mks [(f, t, st)], 1000 ≤ x ∧ x < 10000 := fun x hx => by
    rw [hmk] at hx
    have := (mem_prM hpt x).1 hx
    simp only at this
    omega
  have hok : ∀ p ∈ [(f, t, st)], ∃ a, ptOk a p = true ∧ 0 ≤ a := fun p hp => by
    rw [List.mem_singleton] at hp
    subst hp
    exact ⟨f, hpt, by omega⟩
  have HK := Lib.hid (kaB_all s l f t lim st)
  have HMK := Lib.hid hmk
  have hltD : 5 < w.heap.size := World.block_lt_of_cell? w _ (hD 0 (by omega))
  clear hmk hpt
  refine (callsIn_wide (n := 9)).1 ?_
  refine callsIn_of_wp_marks Tryd.func86 rfl trivial ?_ rfl
  simp only [Tryd.ntmps86, List.size_toArray, List.length_cons, List.length_nil, Nat.reduceAdd, Nat.reduceSub, Array.replicate_succ, Array.replicate_zero, List.push_toArray, List.append_toArray, List.nil_append, List.cons_append]
  gi_wp2_with (first
    | (refine ⟨trivial, ?_⟩; gi_at_call 89; refine (callsIn_wide.2 (eachMark_any _ _ _ _)).mono ?_; rintro e w' ⟨rfl, rfl⟩)
    | (refine ⟨trivial, ?_⟩; gi_at_call 88; refine (callsIn_wide.2 (eachGap_any _ _ _ _ _)).mono ?_; rintro e w' ⟨rfl, rfl⟩))
  have yL := ((Boxed.new (w.alloc (.cells #[.int .i64 f, .int .i64 t, .int .i64 st] 39)) 2 (.int .i64 lim)).alloc (.cells #[.bool false] 4)).alloc (.cells #[.int .i64 f, .int .i64 t, .int .i64 st] 39)
  have yB := (Boxed.new ((w.alloc (.cells #[.int .i64 f, .int .i64 t, .int .i64 st] 39)).alloc (.cells #[.int .i64 lim] 2)) 4 (.bool false)).alloc (.cells #[.int .i64 f, .int .i64 t, .int .i64 st] 39)
  have hrow := Row.new (((w.alloc (.cells #[.int .i64 f, .int .i64 t, .int .i64 st] 39)).alloc (.cells #[.int .i64 lim] 2)).alloc (.cells #[.bool false] 4)) 39 (cells3 [(f, t, st)])
  have G2 : Gr w ((((w.alloc (.cells #[.int .i64 f, .int .i64 t, .int .i64 st] 39)).alloc (.cells #[.int .i64 lim] 2)).alloc (.cells #[.bool false] 4)).alloc (.cells #[.int .i64 f, .int .i64 t, .int .i64 st] 39)) := (by repeat (first | with_reducible exact Gr.refl _ | with_reducible refine Gr.alloc ?_ _ | with_reducible refine Gr.gr ?_ _ _ | with_reducible refine Gr.drew ?_ | with_reducible refine Gr.drewN ?_ _))
  have hsz : ((((w.alloc (.cells #[.int .i64 f, .int .i64 t, .int .i64 st] 39)).alloc (.cells #[.int .i64 lim] 2)).alloc (.cells #[.bool false] 4)).alloc (.cells #[.int .i64 f, .int .i64 t, .int .i64 st] 39)).heap.size = w.heap.size + 1 + 1 + 1 + 1 := by simp
  have hce : (Obj.cells (cells3 [(f, t, st)]).toArray 39) = (.cells #[.int .i64 f, .int .i64 t, .int .i64 st] 39) := rfl
  rw [hce] at hrow
  simp only [World.size_alloc] at yL yB hrow
  clear hce
  obtain ⟨S, eS⟩ : ∃ S, w.heap.size = S := ⟨_, rfl⟩
  obtain ⟨S1, eS1⟩ : ∃ S1, S + 1 = S1 := ⟨_, rfl⟩
  obtain ⟨S2, eS2⟩ : ∃ S2, S1 + 1 = S2 := ⟨_, rfl⟩
  obtain ⟨S3, eS3⟩ : ∃ S3, S2 + 1 = S3 := ⟨_, rfl⟩
  obtain ⟨V, eV⟩ : ∃ V, S3 + 1 = V := ⟨_, rfl⟩
  generalize (((w.alloc (.cells #[.int .i64 f, .int .i64 t, .int .i64 st] 39)).alloc (.cells #[.int .i64 lim] 2)).alloc (.cells #[.bool false] 4)).alloc (.cells #[.int .i64 f, .int .i64 t, .int .i64 st] 39) = V0 at *
  rw [eS] at yL yB hrow hsz hltD ⊢
  rw [eS1] at yL yB hrow hsz ⊢
  rw [eS2] at yB hrow hsz ⊢
  rw [eS3] at hrow hsz ⊢
  rw [eV] at hsz ⊢
  obtain ⟨g1, g2, g3⟩ := gaps_ready s l hs hl (some ⟨S3, 0, none⟩) 1 1 [(f, t, st)] rfl (by omega) hok hmm V0 (hD.gr G2)
  have hWE : gapW V0 (.slice (some ⟨S3, 0, none⟩) 1 1) s l = (((V0.alloc (.cells #[.slice (some ⟨S3, 0, none⟩) 1 1] 26)).alloc (.cells #[.func (.func 143) #[] #[.pointer (some ⟨V, 0, none⟩)]] 97)).alloc (.cells #[.int .i64 s] 2)).alloc (.cells #[.int .i64 l] 2) := by unfold gapW; rw [hsz]
  rw [hsz] at g2 g3
  rw [← hWE]
  replace yL := boxed_gr yL g1
  replace yB := boxed_gr yB g1
  have G3 := G2.trans g1
  have HSS := Lib.hid eS
  generalize gapW V0 (.slice (some ⟨S3, 0, none⟩) 1 1) s l = W0 at *
  refine rangeX rfl (by omega) (gf := 141) (lb := #[.pointer (some ⟨V + 1, 0, none⟩), .pointer (some ⟨V + 1 + 1, 0, none⟩), .pointer (some ⟨V + 1 + 2, 0, none⟩)]) rfl trivial (enters_of Tryd.func141 (by kernel_rfl) rfl) (bs := [S2])
    (fun b hb => by simp at hb; omega)
    (g3 _ (fun b hb => by simp at hb; omega) (fun k hk => ⟨S3, 0, rfl, by rw [Nat.zero_add, hrow.cell, List.getElem?_eq_getElem hk], fun hm => by simp at hm; omega⟩) (by simp; omega)) (Below.refl _ _) ?hps
    (fun pre X => ((Boxed X S1 2 (.int .i64 lim) ∧ Boxed X S2 4 (.bool false)) ∧ (∀ d ∈ pre, lim ≤ d)) ∧ Below S w X)
    (fun pre X => (Boxed X S2 4 (.bool false) ∧ (∃ d ∈ pre, d < lim)) ∧ Below S w X)
    (AbX.and (AbX.and (AbX.and (abX_boxed (by omega) _ (fun _ => .int .i64 lim)) (abX_boxed (by omega) _ (fun _ => .bool false))) (abX_pure _ _)) (abX_below (by omega) (by omega)))
    (AbX.and (AbX.and (abX_boxed (by omega) _ (fun _ => .bool false)) (abX_pure _ _)) (abX_below (by omega) (by omega)))
    ⟨⟨⟨yL, yB⟩, by simp⟩, G3.below.mono (by omega)⟩
    (fun y => { tmps := #[.agg #[.int .i64 f, .int .i64 t, .int .i64 st], .int .i64 s, .int .i64 l, .int .i64 lim, .pointer (some ⟨S, 0, none⟩), undef, undef, .pointer (some ⟨S1, 0, none⟩), .pointer (some ⟨S2, 0, none⟩), .int .i64 y, .agg #[.int .i64 f, .int .i64 t, .int .i64 st], .slice (some ⟨S3, 0, none⟩) 1 1, .func (.func 143) #[] #[.pointer (some ⟨V, 0, none⟩)], .int .i64 s, .int .i64 l, .func (.func 141) #[] #[.pointer (some ⟨V + 1, 0, none⟩), .pointer (some ⟨V + 1 + 1, 0, none⟩), .pointer (some ⟨V + 1 + 2, 0, none⟩)], .int .i64 y, undef, undef, undef], defers := [] }) ?assign ?body ?done ?stop
  case hps => exact fun _ => rfl
  case assign =>
    intro l' y X K hK'
    gi_wp2
    exact hK'
  case body =>
    rintro l' pre y X ⟨⟨⟨b1, b2⟩, hall⟩, hB⟩ hlen hszX
    have HB := Lib.hid hB
    have HALL := Lib.hid hall
    have k1 := b1.cell
    have v2 := b2.frozen
    have k2 := b2.cell
    have HKx := Lib.hid (Kx.set [S2] X (B := S2) (by simp) (.bool false))
    clear hB hall
    by_cases hc : y < lim
    · gi_wp2
      exact ⟨HKx.out, ⟨b2.set _, y, by simp, hc⟩, HB.out.trans (HKx.out.below (by omega) (by simp; omega))⟩
    · gi_wp2
      exact ⟨Kx.refl _ _, ⟨⟨b1, b2⟩, fun d hd => by rcases List.mem_append.1 hd with h | h; exact HALL.out d h; simp at h; omega⟩, HB.out⟩
  case done =>
    rintro D ys X hD' hS' ⟨⟨⟨b1, b2⟩, hall⟩, hB⟩ hK'
    have hv : kaB s l f t lim st = true := by rw [HK.out]; exact decide_eq_true (by rw [← HMK.out, ← hS']; exact hall)
    have k2 := b2.cell
    have v2 := b2.frozen
    have hK2 := (KeepsOthers.setCell X ⟨S2, 0, none⟩ (.bool true)).same D _ hK' rfl
    clear hall
    gi_wp2
    refine ⟨by simp, .inl ⟨_, _, rfl, run_takeDeferred hK2, ?_⟩⟩
    have z2 := cell_kept (b2.set (.bool true)).cell (grownBy_putObj' _ D (.deferred none)) (fun r e => by cases e; exact ⟨_, hK2, rfl⟩)
    exact ⟨.bool true, by simp [results, Tryd.results86, go_sem, z2], (by first | rfl | rw [hv]), (by have h := (hB.setCell (p := ⟨S2, 0, none⟩) (by simp; omega) (.bool true)).trans (belowK_b (w := w) (n₀ := S) (by omega) _ D _ (.deferred none) (by omega) hK2 rfl rfl); first | exact h | (rw [eS]; exact h))⟩
  case stop =>
    rintro D pre X hD' hS' ⟨⟨b2, d, hd, hlt⟩, hB⟩ hK'
    have hv : kaB s l f t lim st = false := by rw [HK.out]; exact decide_eq_false (fun h => by have := h d (by rw [← HMK.out]; exact hS'.subset hd); omega)
    have k2 := b2.cell
    gi_wp2
    refine ⟨by simp, .inl ⟨_, _, rfl, run_takeDeferred hK', ?_⟩⟩
    have z2 := cell_kept b2.cell (grownBy_putObj' _ D (.deferred none)) (fun r e => by cases e; exact ⟨_, hK', rfl⟩)
    exact ⟨.bool false, by simp [results, Tryd.results86, go_sem, z2], (by first | rfl | rw [hv]), (by have h := hB.trans (belowK_b (w := w) (n₀ := S) (by omega) X D _ (.deferred none) (by omega) hK' rfl rfl); first | exact h | (rw [eS]; exact h))⟩
end Go.Proofs.YtggflladheemoaaDoor
