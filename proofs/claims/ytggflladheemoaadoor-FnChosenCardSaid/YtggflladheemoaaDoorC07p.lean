/- Contracts of chapter 7: the finest step, in the model and in the program. -/
import Derived.Test.YtggflladheemoaaDoorC07n
import Derived.Test.YtggflladheemoaaDoor7B
import Derived.Test.YtggflladheemoaaDoorC05c
namespace Go.Proofs.YtggflladheemoaaDoor
open Go.RowKit
set_option linter.unusedVariables false
set_option linter.unusedSimpArgs false

/-- The table of the usual steps lies as the program's text lays it. -/
def Uss (w : World) : Prop := ∀ (i : Nat) (x : Int), usual[i]? = some x → w.cell? ⟨1, i, none⟩ = some (.int .i64 x)
theorem Uss.gr {w w' : World} (h : Uss w) (hg : Gr w w') : Uss w' := fun i x hx =>
  (World.cell?_of_block (hg.below.block _ (World.block_lt_of_cell? w _ (h i x hx)))).trans (h i x hx)
theorem uss_of {w : World} (h : Lib.TabIs Tryd.prog w "loop.example/g00951/impl.usualSteps" .i64 [1, 2, 5, 10, 20, 50, 100, 200, 500]) : Uss w := by
  intro i x hx
  have hi : i < 9 := by
    obtain ⟨hk, -⟩ := List.getElem?_eq_some_iff.1 hx
    exact hk
  have := h.cell (g := 1) (by kernel_rfl) i hi
  rw [this]
  rcases (show i = 0 ∨ i = 1 ∨ i = 2 ∨ i = 3 ∨ i = 4 ∨ i = 5 ∨ i = 6 ∨ i = 7 ∨ i = 8 by omega) with rfl | rfl | rfl | rfl | rfl | rfl | rfl | rfl | rfl <;> (simp [usual] at hx; subst hx; rfl)
theorem uss_idx (k : Nat) (x : Int) (h : usual[k]? = some x) (W : World) : (Instr.index 93 (.agg #[.int .i64 1, .int .i64 2, .int .i64 5, .int .i64 10, .int .i64 20, .int .i64 50, .int .i64 100, .int .i64 200, .int .i64 500]) (.int .i64 (k : Int))).run Tryd.prog W = .ok (.int .i64 x) W := by
  have hi : k < 9 := by
    obtain ⟨hk, -⟩ := List.getElem?_eq_some_iff.1 h
    exact hk
  have i0 : ∀ w : World, (Instr.index 93 (.agg #[.int .i64 1, .int .i64 2, .int .i64 5, .int .i64 10, .int .i64 20, .int .i64 50, .int .i64 100, .int .i64 200, .int .i64 500]) (.int .i64 0)).run Tryd.prog w = .ok (.int .i64 1) w := fun _ => by kernel_rfl
  have i1 : ∀ w : World, (Instr.index 93 (.agg #[.int .i64 1, .int .i64 2, .int .i64 5, .int .i64 10, .int .i64 20, .int .i64 50, .int .i64 100, .int .i64 200, .int .i64 500]) (.int .i64 1)).run Tryd.prog w = .ok (.int .i64 2) w := fun _ => by kernel_rfl
  have i2 : ∀ w : World, (Instr.index 93 (.agg #[.int .i64 1, .int .i64 2, .int .i64 5, .int .i64 10, .int .i64 20, .int .i64 50, .int .i64 100, .int .i64 200, .int .i64 500]) (.int .i64 2)).run Tryd.prog w = .ok (.int .i64 5) w := fun _ => by kernel_rfl
  have i3 : ∀ w : World, (Instr.index 93 (.agg #[.int .i64 1, .int .i64 2, .int .i64 5, .int .i64 10, .int .i64 20, .int .i64 50, .int .i64 100, .int .i64 200, .int .i64 500]) (.int .i64 3)).run Tryd.prog w = .ok (.int .i64 10) w := fun _ => by kernel_rfl
  have i4 : ∀ w : World, (Instr.index 93 (.agg #[.int .i64 1, .int .i64 2, .int .i64 5, .int .i64 10, .int .i64 20, .int .i64 50, .int .i64 100, .int .i64 200, .int .i64 500]) (.int .i64 4)).run Tryd.prog w = .ok (.int .i64 20) w := fun _ => by kernel_rfl
  have i5 : ∀ w : World, (Instr.index 93 (.agg #[.int .i64 1, .int .i64 2, .int .i64 5, .int .i64 10, .int .i64 20, .int .i64 50, .int .i64 100, .int .i64 200, .int .i64 500]) (.int .i64 5)).run Tryd.prog w = .ok (.int .i64 50) w := fun _ => by kernel_rfl
  have i6 : ∀ w : World, (Instr.index 93 (.agg #[.int .i64 1, .int .i64 2, .int .i64 5, .int .i64 10, .int .i64 20, .int .i64 50, .int .i64 100, .int .i64 200, .int .i64 500]) (.int .i64 6)).run Tryd.prog w = .ok (.int .i64 100) w := fun _ => by kernel_rfl
  have i7 : ∀ w : World, (Instr.index 93 (.agg #[.int .i64 1, .int .i64 2, .int .i64 5, .int .i64 10, .int .i64 20, .int .i64 50, .int .i64 100, .int .i64 200, .int .i64 500]) (.int .i64 7)).run Tryd.prog w = .ok (.int .i64 200) w := fun _ => by kernel_rfl
  have i8 : ∀ w : World, (Instr.index 93 (.agg #[.int .i64 1, .int .i64 2, .int .i64 5, .int .i64 10, .int .i64 20, .int .i64 50, .int .i64 100, .int .i64 200, .int .i64 500]) (.int .i64 8)).run Tryd.prog w = .ok (.int .i64 500) w := fun _ => by kernel_rfl
  rcases (show k = 0 ∨ k = 1 ∨ k = 2 ∨ k = 3 ∨ k = 4 ∨ k = 5 ∨ k = 6 ∨ k = 7 ∨ k = 8 by omega) with rfl | rfl | rfl | rfl | rfl | rfl | rfl | rfl | rfl
  · simp [usual] at h; subst h; exact i0 W
  · simp [usual] at h; subst h; exact i1 W
  · simp [usual] at h; subst h; exact i2 W
  · simp [usual] at h; subst h; exact i3 W
  · simp [usual] at h; subst h; exact i4 W
  · simp [usual] at h; subst h; exact i5 W
  · simp [usual] at h; subst h; exact i6 W
  · simp [usual] at h; subst h; exact i7 W
  · simp [usual] at h; subst h; exact i8 W
theorem okF_parts (s l f t lim : Int) (hs : sc s = true) (hl : ln l = true) : okF s l f t lim = decide ((1000 ≤ f ∧ f ≤ t - 1) ∧ (1000 ≤ t ∧ t ≤ 10000) ∧ (0 ≤ lim ∧ lim ≤ 100000)) := by unfold okF; rw [hs, hl]; rfl

set_option maxHeartbeats 2000000 in
theorem fnR_spec (s l f t lim : Int) (w : World) (ht0 : -9223372036854775808 ≤ t ∧ t ≤ 9223372036854775807) :
    Calls Tryd.prog 17 #[.int .i64 s, .int .i64 l, .int .i64 f, .int .i64 t, .int .i64 lim] w fun e w' => e = .returned (.tuple #[.int .i64 (fnR s l f t lim).1, .int .i64 (fnR s l f t lim).2]) ∧ Below w.heap.size w w' := by
  have HS := Lib.hid (fun W => isScale_spec s W)
  have HLn := Lib.hid (fun W => isLength_spec l W)
  have HR := Lib.hid (fnR_rg s l f t lim)
  rcases sc_tf s with hs | hs
  rotate_left
  · have HC := Lib.hid (HR.out (by unfold okF; rw [hs]; rfl))
    rw [hs] at HS
    clear hs
    go_enter Tryd.func17, Tryd.ntmps17
    go_wp2_with (go_at_call 77; refine (HS.out _).mono ?_; rintro e w' ⟨rfl, rfl⟩)
    ((try simp only [Exit.inBlock, Exit.then]); refine bodyPost_ret (v := .tuple #[.int .i64 0, .int .i64 2]) (by simp [results, Tryd.results17, go_sem]) rfl ?_)
    exact ⟨by rw [HC.out], Below.refl _ _⟩
  rw [hs] at HS
  rcases ln_tf l with hl | hl
  rotate_left
  · have HC := Lib.hid (HR.out (by unfold okF; rw [hs, hl]; rfl))
    rw [hl] at HLn
    clear hs hl
    go_enter Tryd.func17, Tryd.ntmps17
    go_wp2_with (first | (go_at_call 77; refine (HS.out _).mono ?_; rintro e w' ⟨rfl, rfl⟩) | (go_at_call 78; refine (HLn.out _).mono ?_; rintro e w' ⟨rfl, rfl⟩))
    ((try simp only [Exit.inBlock, Exit.then]); refine bodyPost_ret (v := .tuple #[.int .i64 0, .int .i64 2]) (by simp [results, Tryd.results17, go_sem]) rfl ?_)
    exact ⟨by rw [HC.out], Below.refl _ _⟩
  rw [hl] at HLn
  have HOK := Lib.hid (okF_parts s l f t lim hs hl)
  have HT := Lib.hid (fun W => in_any t 1000 10000 W)
  have HM := Lib.hid (fun W => in_any lim 0 100000 W)
  by_cases ht : 1000 ≤ t ∧ t ≤ 10000
  rotate_left
  · have HC := Lib.hid (HR.out (by rw [HOK.out]; exact decide_eq_false (fun h => ht h.2.1)))
    rw [decide_eq_false ht] at HT
    clear hs hl
    by_cases hmin : t = -9223372036854775808
    · subst hmin
      have hw : IntKind.i64.wrap (-9223372036854775809) = 9223372036854775807 := by decide
      have HF := Lib.hid (fun W => in_any f 1000 9223372036854775807 W)
      rcases decb7 (1000 ≤ f ∧ f ≤ 9223372036854775807) with hf | hf
      all_goals
        rw [hf] at HF
        clear hf
        go_enter Tryd.func17, Tryd.ntmps17
        go_wp2_with (first | (go_at_call 77; refine (HS.out _).mono ?_; rintro e w' ⟨rfl, rfl⟩) | (go_at_call 78; refine (HLn.out _).mono ?_; rintro e w' ⟨rfl, rfl⟩) | (go_at_call 79; with_reducible refine (HF.out _).mono ?_; rintro e w' ⟨rfl, rfl⟩) | (go_at_call 79; with_reducible refine (HT.out _).mono ?_; rintro e w' ⟨rfl, rfl⟩))
        ((try simp only [Exit.inBlock, Exit.then]); refine bodyPost_ret (v := .tuple #[.int .i64 0, .int .i64 2]) (by simp [results, Tryd.results17, go_sem]) rfl ?_)
        exact ⟨by rw [HC.out], Below.refl _ _⟩
    · have hw1 : IntKind.i64.wrap (t - 1) = t - 1 := IntWalk.i64_in _ (by omega)
      have HF := Lib.hid (fun W => in_any f 1000 (t - 1) W)
      rcases decb7 (1000 ≤ f ∧ f ≤ t - 1) with hf | hf
      all_goals
        rw [hf] at HF
        clear hf
        go_enter Tryd.func17, Tryd.ntmps17
        go_wp2_with (first | (go_at_call 77; refine (HS.out _).mono ?_; rintro e w' ⟨rfl, rfl⟩) | (go_at_call 78; refine (HLn.out _).mono ?_; rintro e w' ⟨rfl, rfl⟩) | (go_at_call 79; with_reducible refine (HF.out _).mono ?_; rintro e w' ⟨rfl, rfl⟩) | (go_at_call 79; with_reducible refine (HT.out _).mono ?_; rintro e w' ⟨rfl, rfl⟩))
        ((try simp only [Exit.inBlock, Exit.then]); refine bodyPost_ret (v := .tuple #[.int .i64 0, .int .i64 2]) (by simp [results, Tryd.results17, go_sem]) rfl ?_)
        exact ⟨by rw [HC.out], Below.refl _ _⟩
  rw [decide_eq_true ht] at HT
  have hw1 : IntKind.i64.wrap (t - 1) = t - 1 := IntWalk.i64_in _ (by omega)
  have HF := Lib.hid (fun W => in_any f 1000 (t - 1) W)
  by_cases hf : 1000 ≤ f ∧ f ≤ t - 1
  rotate_left
  · have HC := Lib.hid (HR.out (by rw [HOK.out]; exact decide_eq_false (fun h => hf h.1)))
    rw [decide_eq_false hf] at HF
    clear hs hl
    go_enter Tryd.func17, Tryd.ntmps17
    go_wp2_with (first | (go_at_call 77; refine (HS.out _).mono ?_; rintro e w' ⟨rfl, rfl⟩) | (go_at_call 78; refine (HLn.out _).mono ?_; rintro e w' ⟨rfl, rfl⟩) | (go_at_call 79; with_reducible refine (HF.out _).mono ?_; rintro e w' ⟨rfl, rfl⟩))
    ((try simp only [Exit.inBlock, Exit.then]); refine bodyPost_ret (v := .tuple #[.int .i64 0, .int .i64 2]) (by simp [results, Tryd.results17, go_sem]) rfl ?_)
    exact ⟨by rw [HC.out], Below.refl _ _⟩
  rw [decide_eq_true hf] at HF
  by_cases hm : 0 ≤ lim ∧ lim ≤ 100000
  rotate_left
  · have HC := Lib.hid (HR.out (by rw [HOK.out]; exact decide_eq_false (fun h => hm h.2.2)))
    rw [decide_eq_false hm] at HM
    clear hs hl
    go_enter Tryd.func17, Tryd.ntmps17
    go_wp2_with (first | (go_at_call 77; refine (HS.out _).mono ?_; rintro e w' ⟨rfl, rfl⟩) | (go_at_call 78; refine (HLn.out _).mono ?_; rintro e w' ⟨rfl, rfl⟩) | (go_at_call 79; with_reducible refine (HF.out _).mono ?_; rintro e w' ⟨rfl, rfl⟩) | (go_at_call 79; with_reducible refine (HT.out _).mono ?_; rintro e w' ⟨rfl, rfl⟩) | (go_at_call 79; with_reducible refine (HM.out _).mono ?_; rintro e w' ⟨rfl, rfl⟩))
    ((try simp only [Exit.inBlock, Exit.then]); refine bodyPost_ret (v := .tuple #[.int .i64 0, .int .i64 2]) (by simp [results, Tryd.results17, go_sem]) rfl ?_)
    exact ⟨by rw [HC.out], Below.refl _ _⟩
  rw [decide_eq_true hm] at HM
  have hok : okF s l f t lim = true := by rw [HOK.out]; exact decide_eq_true ⟨hf, ht, hm⟩
  have HFin := Lib.hid (fun W => fin_spec s l f t lim W hs hl hf.1 (by omega) ht.2)
  have HNO := Lib.hid (fnR_no s l f t lim hok)
  have HYES := Lib.hid (fnR_ok s l f t lim hok)
  clear hs hl hok
  by_cases h0 : fnS s l f t lim = 0
  · have HC := Lib.hid (HNO.out h0)
    rw [h0] at HFin
    clear h0
    go_enter Tryd.func17, Tryd.ntmps17
    go_wp2_with (first | (go_at_call 77; refine (HS.out _).mono ?_; rintro e w' ⟨rfl, rfl⟩) | (go_at_call 78; refine (HLn.out _).mono ?_; rintro e w' ⟨rfl, rfl⟩) | (go_at_call 79; with_reducible refine (HF.out _).mono ?_; rintro e w' ⟨rfl, rfl⟩) | (go_at_call 79; with_reducible refine (HT.out _).mono ?_; rintro e w' ⟨rfl, rfl⟩) | (go_at_call 79; with_reducible refine (HM.out _).mono ?_; rintro e w' ⟨rfl, rfl⟩) | (go_at_call 80; refine (HFin.out _).mono ?_; rintro e w' ⟨rfl, hb⟩))
    ((try simp only [Exit.inBlock, Exit.then]); refine bodyPost_ret (v := .tuple #[.int .i64 0, .int .i64 4]) (by simp [results, Tryd.results17, go_sem]) rfl ?_)
    exact ⟨by rw [HC.out], hb⟩
  · have HC := Lib.hid (HYES.out h0)
    generalize fnS s l f t lim = x at *
    go_enter Tryd.func17, Tryd.ntmps17
    go_wp2_with (first | (go_at_call 77; refine (HS.out _).mono ?_; rintro e w' ⟨rfl, rfl⟩) | (go_at_call 78; refine (HLn.out _).mono ?_; rintro e w' ⟨rfl, rfl⟩) | (go_at_call 79; with_reducible refine (HF.out _).mono ?_; rintro e w' ⟨rfl, rfl⟩) | (go_at_call 79; with_reducible refine (HT.out _).mono ?_; rintro e w' ⟨rfl, rfl⟩) | (go_at_call 79; with_reducible refine (HM.out _).mono ?_; rintro e w' ⟨rfl, rfl⟩) | (go_at_call 80; refine (HFin.out _).mono ?_; rintro e w' ⟨rfl, hb⟩))
    ((try simp only [Exit.inBlock, Exit.then]); refine bodyPost_ret (v := .tuple #[.int .i64 x, .int .i64 0]) (by simp [results, Tryd.results17, go_sem]) rfl ?_)
    exact ⟨by rw [HC.out], hb⟩
end Go.Proofs.YtggflladheemoaaDoor
