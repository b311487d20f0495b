/- Contracts of chapter 4: figures by their numbers, and the search for them, in the program and in the model. -/
import Derived.Test.Ytphebmbapllinaa3A
import Derived.Test.YtphebmbapllinaaMB
import Derived.Deep.Draws
import Derived.Deep.QuietTactic
import Derived.Sort.Walk0
import Derived.Shelf.Abstract
import Derived.WalkKit
import Derived.IntWalk
namespace Go.Proofs.Ytphebmbapllinaa
open Go.RowKit Go.Shelf
set_option linter.unusedVariables false
set_option linter.unusedSimpArgs false

theorem areUnits_any (u : Int) (w : World) :
    Calls Try.prog 80 #[.int .i64 u] w fun e w' => e = .returned (.bool (un u)) ∧ w = w' := by
  have hc : u < -31457280 ∨ (-31457280 ≤ u ∧ 31457280 < u) ∨ (-31457280 ≤ u ∧ u ≤ 31457280) := by omega
  rcases hc with h | ⟨h, h1⟩ | ⟨h, h1⟩
  all_goals
    go_enter Try.func80, Try.ntmps80
    go_wp2
    go_ret
    exact ⟨ret_bool (by unfold un; first | exact (decide_eq_true (by omega)).symm | exact (decide_eq_false (by omega)).symm | exact decide_eq_decide.2 ⟨fun _ => by omega, fun _ => by omega⟩), rfl⟩
theorem units_spec (u : Int) (w : World) :
    Calls Try.prog 83 #[.int .i64 u] w fun e w' => e = .returned (.bool (un u)) ∧ w = w' := by
  have U := Lib.hid (show un u = decide (-31457280 ≤ u ∧ u ≤ 31457280) from rfl)
  go_enter Try.func83, Try.ntmps83
  go_wp2_with (go_at_call 48; refine (in_any _ _ _ _).mono ?_; rintro e w' ⟨rfl, rfl⟩)
  go_ret
  exact ⟨ret_bool (by rw [U.out, Bool.decide_and]), rfl⟩

theorem nfR_at (n : Int) (h : -270000 ≤ n ∧ n ≤ 278999) (i : Int) (hi : i = n + 270000) : nfR n = ((1000 + i.tmod 9000, i.tdiv 9000 - 30), 0) := by
  rw [nfR_ok n h, Int.tmod_eq_emod_of_nonneg (by omega), Int.tdiv_eq_ediv_of_nonneg (by omega)]
  have e1 : n % 9000 = i % 9000 := by omega
  have e2 : n / 9000 = i / 9000 - 30 := by omega
  rw [e1, e2]
/-- The program counts from 0. -/
theorem numbered_any (n : Int) (w : World) (h1 : -1000000000000 ≤ n) (h2 : n ≤ 1000000000000) :
    Calls Try.prog 104 #[.int .i64 (n + 270000)] w fun e w' => e = .returned (.tuple #[.agg #[.int .i64 (nfR n).1.1, .int .i64 (nfR n).1.2], .int .i64 (nfR n).2]) ∧ Gr w w' := by
  have hc : n + 270000 < 0 ∨ (0 ≤ n + 270000 ∧ 549000 ≤ n + 270000) ∨ (0 ≤ n + 270000 ∧ n + 270000 < 549000) := by omega
  rcases hc with h | ⟨h, h'⟩ | ⟨h, h'⟩
  · have H := Lib.hid (nfR_no n (by omega))
    go_enter Try.func104, Try.ntmps104
    go_wp2
    ((try simp only [Exit.inBlock, Exit.then]); refine bodyPost_ret (v := .tuple #[.agg #[.int .i64 0, .int .i64 0], .int .i64 4]) (by simp [results, Try.results104, go_sem]) rfl ?_)
    exact ⟨ret_fig (by rw [H.out]) (by rw [H.out]) (by rw [H.out]), (by repeat (first | with_reducible exact Gr.refl _ | with_reducible refine Gr.alloc ?_ _ | with_reducible refine Gr.gr ?_ _ _ | with_reducible refine Gr.drew ?_ | with_reducible refine Gr.drewN ?_ _))⟩
  · have H := Lib.hid (nfR_no n (by omega))
    go_enter Try.func104, Try.ntmps104
    go_wp2
    ((try simp only [Exit.inBlock, Exit.then]); refine bodyPost_ret (v := .tuple #[.agg #[.int .i64 0, .int .i64 0], .int .i64 4]) (by simp [results, Try.results104, go_sem]) rfl ?_)
    exact ⟨ret_fig (by rw [H.out]) (by rw [H.out]) (by rw [H.out]), (by repeat (first | with_reducible exact Gr.refl _ | with_reducible refine Gr.alloc ?_ _ | with_reducible refine Gr.gr ?_ _ _ | with_reducible refine Gr.drew ?_ | with_reducible refine Gr.drewN ?_ _))⟩
  · have e1 : (n + 270000) % 9000 = n % 9000 := by omega
    have e2 : (n + 270000) / 9000 = n / 9000 + 30 := by omega
    have H := Lib.hid (nfR_ok n (by omega))
    have E1 := Lib.hid e1
    have E2 := Lib.hid e2
    clear e1 e2
    go_enter Try.func104, Try.ntmps104
    go_wp2
    ((try simp only [Exit.inBlock, Exit.then]); refine bodyPost_ret (v := .tuple #[.agg #[.int .i64 (1000 + (n + 270000) % 9000), .int .i64 ((n + 270000) / 9000 - 30)], .int .i64 0]) (by simp [results, Try.results104, go_sem]) rfl ?_)
    exact ⟨ret_fig (by rw [H.out, E1.out]) (by rw [H.out, E2.out]; simp only; omega) (by rw [H.out]), (by repeat (first | with_reducible exact Gr.refl _ | with_reducible refine Gr.alloc ?_ _ | with_reducible refine Gr.gr ?_ _ _ | with_reducible refine Gr.drew ?_ | with_reducible refine Gr.drewN ?_ _))⟩

theorem at_spec (n : Int) (w : World) (h1 : -1000000000000 ≤ n) (h2 : n ≤ 1000000000000) :
    Calls Try.prog 106 #[.int .i64 n] w fun e w' => e = .returned (.agg #[.int .i64 (1000 + n % 9000), .int .i64 (n / 9000)]) ∧ Gr w w' := by
  have e := Lib.hid (show n.fdiv 9000 = n / 9000 from Int.fdiv_eq_ediv_of_nonneg _ (by omega))
  go_enter Try.func106, Try.ntmps106
  go_wp2_with (first
    | (go_at_call 116; refine (mod_spec _ _ _ (by omega) (by omega) (by omega) (by omega)).mono ?_; rintro e w' ⟨rfl, k, os, rfl⟩)
    | (go_at_call 117; refine (floor_any _ _ _ (by omega) (by omega) (by omega) (by omega) (by omega)).mono ?_; rintro e w' ⟨rfl, rfl⟩))
  ((try simp only [Exit.inBlock, Exit.then]); refine bodyPost_ret (v := .agg #[.int .i64 (1000 + n % 9000), .int .i64 (n.fdiv 9000)]) (by simp [results, Try.results106, go_sem]) rfl ?_)
  exact ⟨ret_agg rfl (by rw [e.out]), (by repeat (first | with_reducible exact Gr.refl _ | with_reducible refine Gr.alloc ?_ _ | with_reducible refine Gr.gr ?_ _ _ | with_reducible refine Gr.drew ?_ | with_reducible refine Gr.drewN ?_ _))⟩

/-- A field of an interval that lies in no memory. -/
@[go_sem] theorem field_itv0 (x y : Int) (w : World) : (Instr.field 32 (.agg #[.int .i64 x, .int .i64 y]) 0).run Try.prog w = .ok (.int .i64 x) w := by kernel_rfl
@[go_sem] theorem field_itv1 (x y : Int) (w : World) : (Instr.field 32 (.agg #[.int .i64 x, .int .i64 y]) 1).run Try.prog w = .ok (.int .i64 y) w := by kernel_rfl

set_option maxRecDepth 100000 in
theorem holds_spec (n u : Int) (hi : Bool) (w : World) (h1 : -270000 ≤ n) (h2 : n ≤ 278999) :
    Calls Try.prog 118 #[.agg #[.int .i64 (1000 + n % 9000), .int .i64 (n / 9000)], .int .i64 u, .bool hi] w fun e w' => e = .returned (.bool (ovr hi u n)) ∧ Gr w w' := by
  have S := Lib.hid (fun W => figure_spec3 _ _ W (fn_fg n h1 h2))
  have T := Lib.hid (ovr_t u n)
  have F := Lib.hid (ovr_f u n)
  rw [fnl_eq] at T F
  generalize 1000 + n % 9000 = d at *
  generalize n / 9000 = t at *
  generalize (flg d t).1 = x at *
  generalize (flg d t).2 = y at *
  cases hi
  · rw [F.out]
    clear T F
    go_enter Try.func118, Try.ntmps118
    go_wp2_with (go_at_call 76; refine (S.out _).mono ?_; rintro e w' ⟨rfl, k, os, rfl⟩)
    go_ret
    exact ⟨rfl, (by repeat (first | with_reducible exact Gr.refl _ | with_reducible refine Gr.alloc ?_ _ | with_reducible refine Gr.gr ?_ _ _ | with_reducible refine Gr.drew ?_ | with_reducible refine Gr.drewN ?_ _))⟩
  · rw [T.out]
    clear T F
    go_enter Try.func118, Try.ntmps118
    go_wp2_with (go_at_call 76; refine (S.out _).mono ?_; rintro e w' ⟨rfl, k, os, rfl⟩)
    go_ret
    exact ⟨rfl, (by repeat (first | with_reducible exact Gr.refl _ | with_reducible refine Gr.alloc ?_ _ | with_reducible refine Gr.gr ?_ _ _ | with_reducible refine Gr.drew ?_ | with_reducible refine Gr.drewN ?_ _))⟩

set_option maxHeartbeats 1000000 in
/-- The model's search. -/
theorem first_spec (u : Int) (hi : Bool) (w : World) :
    Calls Try.prog 107 #[.int .i64 u, .bool hi] w fun e w' => e = .returned (.int .i64 (ff hi u)) ∧ Gr w w' := by
  have M := Lib.hid (fun a b (x : -270000 ≤ a) (y : a ≤ b) (z : b ≤ 278999) => ovr_mono hi u x y z)
  have FI := Lib.hid (ff_is hi u)
  go_enter Try.func107, Try.ntmps107
  go_wp2
  go_loopw [5, 6] (fun x y wr => ∃ lo top : Int, x = .int .i64 lo ∧ y = .int .i64 top ∧ -270001 ≤ lo ∧ lo < top ∧ top ≤ 279000 ∧ Hid ((∀ n, -270000 ≤ n → n ≤ lo → ovr hi u n = false) ∧ (∀ n, top ≤ n → n ≤ 278999 → ovr hi u n = true)) ∧ Gr w wr) (fun x y _ => (intOf y - intOf x).toNat)
  case atStart => exact ⟨-270001, 279000, rfl, rfl, by omega, by omega, by omega, Lib.hid ⟨fun n a b => by omega, fun n a b => by omega⟩, Gr.refl _⟩
  case round =>
    obtain ⟨lo, top, rfl, rfl, h1, h2, h3, I, hG⟩ := hrel
    by_cases hlt : 1 < top - lo
    · have ef := Lib.hid (show (lo + top).fdiv 2 = (lo + top) / 2 from Int.fdiv_eq_ediv_of_nonneg _ (by omega))
      have b1 : lo < (lo + top) / 2 := by omega
      have b2 : (lo + top) / 2 < top := by omega
      have hs := Lib.hid (fun W => holds_spec ((lo + top) / 2) u hi W (by omega) (by omega))
      cases hp : ovr hi u ((lo + top) / 2)
      · rw [hp] at hs
        have HP := Lib.hid hp
        clear hp
        go_wp2_with (first
          | (go_at_call 117; refine (floor_any _ _ _ (by omega) (by omega) (by omega) (by omega) (by omega)).mono ?_; rw [ef.out]; rintro e w' ⟨rfl, rfl⟩)
          | (go_at_call 106; refine (at_spec _ _ (by omega) (by omega)).mono ?_; rintro e w1 ⟨rfl, hg1⟩)
          | (go_at_call 118; refine (hs.out _).mono ?_; rintro e w2 ⟨rfl, hg2⟩))
        go_roundw
        case rel => exact ⟨(lo + top) / 2, top, rfl, rfl, by omega, b2, h3, Lib.hid ⟨fun n a b => (by
            cases hn : ovr hi u n
            · rfl
            · have := M.out n ((lo + top) / 2) a b (by omega) hn
              rw [HP.out] at this; cases this), I.out.2⟩, (hG.trans hg1).trans hg2⟩
        case measure => simp [intOf]; omega
      · rw [hp] at hs
        have HP := Lib.hid hp
        clear hp
        go_wp2_with (first
          | (go_at_call 117; refine (floor_any _ _ _ (by omega) (by omega) (by omega) (by omega) (by omega)).mono ?_; rw [ef.out]; rintro e w' ⟨rfl, rfl⟩)
          | (go_at_call 106; refine (at_spec _ _ (by omega) (by omega)).mono ?_; rintro e w1 ⟨rfl, hg1⟩)
          | (go_at_call 118; refine (hs.out _).mono ?_; rintro e w2 ⟨rfl, hg2⟩))
        go_roundw
        case rel => exact ⟨lo, (lo + top) / 2, rfl, rfl, h1, b1, by omega, Lib.hid ⟨I.out.1, fun n a b => M.out ((lo + top) / 2) n (by omega) a b HP.out⟩, (hG.trans hg1).trans hg2⟩
        case measure => simp [intOf]; omega
    · have e := FI.out top (by omega) h3 (fun n a b => I.out.1 n a (by omega)) I.out.2
      have E := Lib.hid e
      clear e
      go_wp2
      go_ret
      exact ⟨ret_int (by rw [E.out]), hG⟩

set_option maxHeartbeats 1000000 in
/-- The library's search, for a condition that stays true once it is. -/
theorem search_any (g : Nat) (cb : Array Value) (N : Nat) (hN : N ≤ 1000000) (p : Nat → Bool) (w : World) (eg : ∀ args w, (callFunc g args).run Try.prog w = .ok (.enter g args) w)
    (hf : ∀ W, Gr w W → ∀ i : Nat, i < N → Calls Try.prog g (#[.int .i64 i] ++ cb) W fun e w' => e = .returned (.bool (p i)) ∧ Gr W w')
    (hm : ∀ a b, a ≤ b → b < N → p a = true → p b = true) :
    Calls Try.prog 114 #[.int .i64 N, .func (.func g) #[] cb] w fun e w' => e = .returned (.int .i64 (cntF p N : Nat)) ∧ Gr w w' := by
  have HF := Lib.hid hf
  have M := Lib.hid hm
  have TH := Lib.hid (cntF_thr p N)
  clear hf hm
  go_enter Try.func114, Try.ntmps114
  go_wp2
  go_loopw [5, 6] (fun x y wr => ∃ lo hi : Nat, x = .int .i64 lo ∧ y = .int .i64 hi ∧ lo ≤ hi ∧ hi ≤ N ∧ Hid ((∀ t, t < lo → p t = false) ∧ (∀ t, hi ≤ t → t < N → p t = true)) ∧ Gr w wr) (fun x y _ => (intOf y - intOf x).toNat)
  case atStart => exact ⟨0, N, rfl, rfl, by omega, by omega, Lib.hid ⟨fun t h => by omega, fun t a b => by omega⟩, Gr.refl _⟩
  case round =>
    obtain ⟨lo, hi, rfl, rfl, hlh, hin, I, hG⟩ := hrel
    by_cases hlt : lo < hi
    · have hc := HF.out wr hG ((lo + hi) / 2) (by omega)
      rw [show (((lo + hi) / 2 : Nat) : Int) = ((lo : Int) + (hi : Int)) / 2 by omega] at hc
      cases hp : p ((lo + hi) / 2)
      · rw [hp] at hc
        have HP := Lib.hid hp
        clear hp
        go_wp2_with (go_at_fn g; refine hc.mono ?_; rintro e w' ⟨rfl, hg⟩)
        go_roundw
        case rel => exact ⟨(lo + hi) / 2 + 1, hi, by rw [show ((lo : Int) + (hi : Int)) / 2 + 1 = (((lo + hi) / 2 + 1 : Nat) : Int) by omega], rfl, by omega, hin, Lib.hid ⟨fun t ht => (by
            cases h : p t
            · rfl
            · have := M.out t ((lo + hi) / 2) (by omega) (by omega) h
              rw [HP.out] at this; cases this), I.out.2⟩, hG.trans hg⟩
        case measure => simp [intOf]; omega
      · rw [hp] at hc
        have HP := Lib.hid hp
        clear hp
        go_wp2_with (go_at_fn g; refine hc.mono ?_; rintro e w' ⟨rfl, hg⟩)
        go_roundw
        case rel => exact ⟨lo, (lo + hi) / 2, rfl, by rw [show ((lo : Int) + (hi : Int)) / 2 = (((lo + hi) / 2 : Nat) : Int) by omega], by omega, by omega, Lib.hid ⟨I.out.1, fun t ht htn => M.out ((lo + hi) / 2) t ht htn HP.out⟩, hG.trans hg⟩
        case measure => simp [intOf]; omega
    · obtain rfl : hi = lo := by omega
      have e := TH.out hi hin I.out.1 I.out.2
      have E := Lib.hid e
      clear e
      go_wp2
      go_ret
      exact ⟨ret_int (by rw [E.out]), hG⟩
end Go.Proofs.Ytphebmbapllinaa
