/- Contracts of chapter 4: figures by their numbers, and the search for them, in the program and in the model. -/
import Derived.Test.YtefhhigcplemaaaGreatDoor3A
import Derived.Test.YtefhhigcplemaaaGreatDoorMB
import Derived.Deep.Draws
import Derived.Deep.QuietTactic
import Derived.Sort.Walk0
import Derived.Shelf.Abstract
import Derived.WalkKit
import Derived.IntWalk
namespace Go.Proofs.YtefhhigcplemaaaGreatDoor
open Go.RowKit Go.Shelf
set_option linter.unusedVariables false
set_option linter.unusedSimpArgs false

theorem nfR_at (n : Int) (h : -270000 ≤ n ∧ n ≤ 278999) (i : Int) (hi : i = n + 270000) : nfR n = ((1000 + i.tmod 9000, i.tdiv 9000 - 30), 0) := by
  rw [nfR_ok n h, Int.tmod_eq_emod_of_nonneg (by omega), Int.tdiv_eq_ediv_of_nonneg (by omega)]
  have e1 : n % 9000 = i % 9000 := by omega
  have e2 : n / 9000 = i / 9000 - 30 := by omega
  rw [e1, e2]
set_option maxHeartbeats 1000000 in
/-- The library's search, for a condition that stays true once it is. -/
theorem search_any (g : Nat) (cb : Array Value) (N : Nat) (hN : N ≤ 1000000) (p : Nat → Bool) (w : World) (eg : ∀ args w, (callFunc g args).run Tryz.prog w = .ok (.enter g args) w)
    (hf : ∀ W, Gr w W → ∀ i : Nat, i < N → Calls Tryz.prog g (#[.int .i64 i] ++ cb) W fun e w' => e = .returned (.bool (p i)) ∧ Gr W w')
    (hm : ∀ a b, a ≤ b → b < N → p a = true → p b = true) :
    Calls Tryz.prog 212 #[.int .i64 N, .func (.func g) #[] cb] w fun e w' => e = .returned (.int .i64 (cntF p N : Nat)) ∧ Gr w w' := by
  have HF := Lib.hid hf
  have M := Lib.hid hm
  have TH := Lib.hid (cntF_thr p N)
  clear hf hm
  go_enter Tryz.func212, Tryz.ntmps212
  go_wp2
  go_loopw [5, 6] (fun x y wr => ∃ lo hi : Nat, x = .int .i64 lo ∧ y = .int .i64 hi ∧ lo ≤ hi ∧ hi ≤ N ∧ Hid ((∀ t, t < lo → p t = false) ∧ (∀ t, hi ≤ t → t < N → p t = true)) ∧ Gr w wr) (fun x y _ => (intOf y - intOf x).toNat)
  case atStart => exact ⟨0, N, rfl, rfl, by omega, by omega, Lib.hid ⟨fun t h => by omega, fun t a b => by omega⟩, Gr.refl _⟩
  case round =>
    obtain ⟨lo, hi, rfl, rfl, hlh, hin, I, hG⟩ := hrel
    by_cases hlt : lo < hi
    · have hc := HF.out wr hG ((lo + hi) / 2) (by omega)
      rw [show (((lo + hi) / 2 : Nat) : Int) = ((lo : Int) + (hi : Int)) / 2 by omega] at hc
      cases hp : p ((lo + hi) / 2)
      · rw [hp] at hc
        have HP := Lib.hid hp
        clear hp
        go_wp2_with (go_at_fn g; refine hc.mono ?_; rintro e w' ⟨rfl, hg⟩)
        go_roundw
        case rel => exact ⟨(lo + hi) / 2 + 1, hi, by rw [show ((lo : Int) + (hi : Int)) / 2 + 1 = (((lo + hi) / 2 + 1 : Nat) : Int) by omega], rfl, by omega, hin, Lib.hid ⟨fun t ht => (by
            cases h : p t
            · rfl
            · have := M.out t ((lo + hi) / 2) (by omega) (by omega) h
              rw [HP.out] at this; cases this), I.out.2⟩, hG.trans hg⟩
        case measure => simp [intOf]; omega
      · rw [hp] at hc
        have HP := Lib.hid hp
        clear hp
        go_wp2_with (go_at_fn g; refine hc.mono ?_; rintro e w' ⟨rfl, hg⟩)
        go_roundw
        case rel => exact ⟨lo, (lo + hi) / 2, rfl, by rw [show ((lo : Int) + (hi : Int)) / 2 = (((lo + hi) / 2 : Nat) : Int) by omega], by omega, by omega, Lib.hid ⟨I.out.1, fun t ht htn => M.out ((lo + hi) / 2) t ht htn HP.out⟩, hG.trans hg⟩
        case measure => simp [intOf]; omega
    · obtain rfl : hi = lo := by omega
      have e := TH.out hi hin I.out.1 I.out.2
      have E := Lib.hid e
      clear e
      go_wp2
      go_ret
      exact ⟨ret_int (by rw [E.out]), hG⟩
end Go.Proofs.YtefhhigcplemaaaGreatDoor
