/- Contracts of chapter 7: the model's least distance. -/
import Derived.Test.YtggflladheemoaaC07d
import Derived.Test.YtggflladheemoaaMC
import Derived.Test.YtggflladheemoaaC05d
import Derived.Test.YtggflladheemoaaC05a
namespace Go.Proofs.Ytggflladheemoaa
open Go.RowKit
set_option linter.unusedVariables false
set_option linter.unusedSimpArgs false

set_option maxHeartbeats 1000000 in
theorem middle_spec (s y l : Int) (w : World) (hs : sc s = true) (hl : ln l = true) (y1 : 1000 ≤ y) (y2 : y ≤ 9999) :
    Calls Try.prog 77 #[.int .i64 s, .int .i64 y, .int .i64 l] w fun e w' => e = .returned (.int .i64 (mdl s l y)) ∧ Gr w w' := by
  have hfg : fg y 0 = true := (fg_iff _ _).2 ⟨⟨y1, y2⟩, by omega⟩
  obtain ⟨p1, p2, p3, p4, -⟩ := pl_bd s y 0 l hfg hl
  obtain ⟨r1, r2, r3, r4⟩ := psn_bd s y 0 hfg
  obtain ⟨l1, l2⟩ := (ln_iff l).1 hl
  have HP := Lib.hid (fun W => position_spec s y 0 W hfg hs (lgb_ok hfg))
  have HC := Lib.hid (fun W => place_spec (psn s y 0).1 (psn s y 0).2 l W r1 r2 r3 r4 l1 l2)
  have HE := Lib.hid (show plc (psn s y 0).1 (psn s y 0).2 l = pl s y 0 l from rfl)
  rw [HE.out] at HC
  have HMd := Lib.hid (show mdl s l y = ((pl s y 0 l).1 + (pl s y 0 l).2).fdiv 2 from rfl)
  clear HE r1 r2 r3 r4
  generalize (psn s y 0).1 = q1 at *
  generalize (psn s y 0).2 = q2 at *
  generalize (pl s y 0 l).1 = a at *
  generalize (pl s y 0 l).2 = b at *
  have HF := Lib.hid (fun W => floor_any (a + b) 2 W (by omega) (by omega) (by omega) (by omega) (by omega))
  rw [← HMd.out] at HF
  go_enter Try.func77, Try.ntmps77
  go_wp2_with (first
    | (go_at_call 83; refine (HP.out _).mono ?_; rintro e w' ⟨rfl, kk, os, rfl⟩)
    | (go_at_call 82; refine (HC.out _).mono ?_; rintro e w' ⟨rfl, kk2, os2, rfl⟩)
    | (go_at_call 84; refine (HF.out _).mono ?_; rintro e w' ⟨rfl, rfl⟩))
  ((try simp only [Exit.inBlock, Exit.then]); refine bodyPost_ret (v := .int .i64 (mdl s l y)) (by simp [results, Try.results77, go_sem]) rfl ?_)
  exact ⟨rfl, (by repeat (first | with_reducible exact Gr.refl _ | with_reducible refine Gr.alloc ?_ _ | with_reducible refine Gr.gr ?_ _ _ | with_reducible refine Gr.drew ?_ | with_reducible refine Gr.drewN ?_ _))⟩

theorem mdl_bd (s y l : Int) (hl : ln l = true) (y1 : 1000 ≤ y) (y2 : y ≤ 9999) : -400000 ≤ mdl s l y ∧ mdl s l y ≤ 620000 := by
  obtain ⟨p1, p2, p3, p4, -⟩ := pl_bd s y 0 l ((fg_iff _ _).2 ⟨⟨y1, y2⟩, by omega⟩) hl
  unfold mdl
  rw [Int.fdiv_eq_ediv_of_nonneg _ (by omega)]
  omega
theorem take_snoc7 {L : List Int} {k : Nat} {x : Int} (h : L[k]? = some x) : L.take (k + 1) = L.take k ++ [x] := by
  obtain ⟨hk, e⟩ := List.getElem?_eq_some_iff.1 h
  rw [List.take_succ_eq_append_getElem hk, e]
theorem lmM7_snoc (s l : Int) (L : List Int) (y : Int) : (if L ++ [y] = [] then 0 else mdl s l (lst0 (L ++ [y]))) = mdl s l y := by rw [if_neg (by simp), lst0_snoc]

end Go.Proofs.Ytggflladheemoaa
