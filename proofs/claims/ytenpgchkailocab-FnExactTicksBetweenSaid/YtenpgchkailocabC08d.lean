/- Contracts of chapter 8: how many ticks stand between two bounds. -/
import Derived.Test.YtenpgchkailocabC08c
namespace Go.Proofs.Ytenpgchkailocab
open Go.RowKit
set_option linter.unusedVariables false
set_option linter.unusedSimpArgs false

theorem tb_cases (zs : List P3) (f t : Int) : (tkE zs (vl f && vl t) ≠ 0 ∧ tbE zs f t = tkE zs (vl f && vl t) ∧ tbV zs f t = 0) ∨ (tkE zs (vl f && vl t) = 0 ∧ tbE zs f t = 0 ∧ tbV zs f t = cntB zs f t zs.length) := by
  by_cases h : tkE zs (vl f && vl t) = 0
  · exact .inr ⟨h, h, by unfold tbV tbE; rw [if_pos h]⟩
  · exact .inl ⟨h, rfl, by unfold tbV tbE; rw [if_neg h]⟩

set_option maxRecDepth 100000 in
set_option maxHeartbeats 2000000 in
theorem tb_spec (A : Option Addr) (n c : Nat) (zs : List P3) (f t : Int) (w : World) (hn : zs.length = n) (hN : n ≤ 16777216) (hA : Reads w w.heap.size A (cells3 zs)) :
    Calls Try.prog 12 #[.slice A n c, .int .i64 f, .int .i64 t] w fun e w' => e = .returned (.tuple #[.int .i64 (tbV zs f t), .int .i64 (tbE zs f t)]) ∧ Gr w w' := by
  have HL := Lib.hid hn
  have HA := Lib.hid hA
  have HC := Lib.hid (tkcode_spec A n c zs w hn hN hA)
  have HI := Lib.hid (is_any f)
  have HJ := Lib.hid (is_any t)
  clear hA
  by_cases h0 : tkE zs true = 0
  rotate_left
  · have e1 := tkE_same zs (vl f && vl t) h0
    rcases tb_cases zs f t with ⟨h1, h2, h3⟩ | ⟨h1, -⟩
    rotate_left
    · exact absurd h1 (by rw [e1]; exact h0)
    rw [h2, h3, e1]
    clear h1 h2 h3 e1
    generalize tkE zs true = cd at *
    have hc0 : (cd == 0) = false := by simpa using h0
    go_enter Try.func12, Try.ntmps12
    go_wp2_with (go_at_call 22; refine (HC.out).mono ?_; rintro e w' ⟨rfl, rfl⟩)
    ((try simp only [Exit.inBlock, Exit.then]); refine bodyPost_ret (v := .tuple #[.int .i64 0, .int .i64 cd]) (by simp [results, Try.results12, go_sem]) rfl ?_)
    exact ⟨rfl, Gr.refl _⟩
  rw [h0] at HC
  by_cases hv : (vl f && vl t) = true
  rotate_left
  · have hv0 : (vl f && vl t) = false := by simpa using hv
    rcases tb_cases zs f t with ⟨h1, h2, h3⟩ | ⟨h1, -⟩
    rotate_left
    · rw [hv0, tkE_false _ h0] at h1; omega
    rw [h2, h3, hv0, tkE_false _ h0]
    have hor : vl f = false ∨ (vl f = true ∧ vl t = false) := by
      cases h4 : vl f
      · exact .inl rfl
      · rw [h4] at hv0
        exact .inr ⟨rfl, by simpa using hv0⟩
    clear h0 h1 h2 h3 hv hv0 hn
    rcases hor with hf | ⟨hf, ht⟩
    · rw [hf] at HI
      clear hf
      go_enter Try.func12, Try.ntmps12
      go_wp2_with (first | (go_at_call 22; with_reducible refine (HC.out).mono ?_; rintro e w' ⟨rfl, rfl⟩) | (go_at_call 23; with_reducible refine (HI.out _).mono ?_; rintro e w' ⟨rfl, rfl⟩))
      ((try simp only [Exit.inBlock, Exit.then]); refine bodyPost_ret (v := .tuple #[.int .i64 0, .int .i64 2]) (by simp [results, Try.results12, go_sem]) rfl ?_)
      exact ⟨rfl, Gr.refl _⟩
    · rw [hf] at HI
      rw [ht] at HJ
      clear hf ht
      go_enter Try.func12, Try.ntmps12
      go_wp2_with (first | (go_at_call 22; with_reducible refine (HC.out).mono ?_; rintro e w' ⟨rfl, rfl⟩) | (go_at_call 23; with_reducible refine (HI.out _).mono ?_; rintro e w' ⟨rfl, rfl⟩) | (go_at_call 23; with_reducible refine (HJ.out _).mono ?_; rintro e w' ⟨rfl, rfl⟩))
      ((try simp only [Exit.inBlock, Exit.then]); refine bodyPost_ret (v := .tuple #[.int .i64 0, .int .i64 2]) (by simp [results, Try.results12, go_sem]) rfl ?_)
      exact ⟨rfl, Gr.refl _⟩
  rcases tb_cases zs f t with ⟨h1, -⟩ | ⟨-, h2, h3⟩
  · rw [hv] at h1; exact absurd h0 h1
  rw [h2, h3, hn]
  rw [Bool.and_eq_true] at hv
  rw [hv.1] at HI
  rw [hv.2] at HJ
  clear h0 h2 h3 hv hn
  go_enter Try.func12, Try.ntmps12
  go_wp2_with (first | (go_at_call 22; with_reducible refine (HC.out).mono ?_; rintro e w' ⟨rfl, rfl⟩) | (go_at_call 23; with_reducible refine (HI.out _).mono ?_; rintro e w' ⟨rfl, rfl⟩) | (go_at_call 23; with_reducible refine (HJ.out _).mono ?_; rintro e w' ⟨rfl, rfl⟩))
  go_loop [9, 10] (fun b i => ∃ k : Nat, k ≤ n ∧ i = .int .i64 k ∧ b = .int .i64 (cntB zs f t k)) (fun _ i => n - (intOf i).toNat)
  case atStart => exact ⟨0, by omega, rfl, by simp [cntB]⟩
  case round =>
    obtain ⟨k, hk, rfl, rfl⟩ := hrel
    by_cases hlt : k < n
    · obtain ⟨z, hz⟩ := some_at (l := zs) (k := k) (by rw [HL.out]; exact hlt)
      have HS := Lib.hid (cntB_succ zs f t k)
      rw [tkP_at hz] at HS
      have hcb := cntB_bd zs f t k
      generalize cntB zs f t k = cb at *
      obtain ⟨g, o, rfl, hg, -, x1, -⟩ := HA.out.at3 hz
      obtain ⟨za, zb, zc⟩ := z
      simp only at *
      clear hz
      have HB := Lib.hid (fun W => in_any zb f t W)
      by_cases hcc : f ≤ zb ∧ zb ≤ t
      · rw [if_pos hcc] at HS
        rw [decide_eq_true hcc] at HB
        go_wp2_with (go_at_call 29; refine (HB.out _).mono ?_; rintro e w' ⟨rfl, rfl⟩)
        go_round
        case rel => exact ⟨k + 1, by omega, by go_num, by rw [HS.out]⟩
        case measure => simp [intOf]; omega
      · rw [if_neg hcc] at HS
        rw [decide_eq_false hcc] at HB
        go_wp2_with (go_at_call 29; refine (HB.out _).mono ?_; rintro e w' ⟨rfl, rfl⟩)
        go_round
        case rel => exact ⟨k + 1, by omega, by go_num, by rw [HS.out]⟩
        case measure => simp [intOf]; omega
    · obtain rfl : k = n := by omega
      go_wp2
      ((try simp only [Exit.inBlock, Exit.then]); refine bodyPost_ret (v := .tuple #[.int .i64 (cntB zs f t k), .int .i64 0]) (by simp [results, Try.results12, go_sem]) rfl ?_)
      exact ⟨rfl, Gr.refl _⟩

set_option maxRecDepth 100000 in
set_option maxHeartbeats 2000000 in
theorem tb_impl (A : Option Addr) (n c : Nat) (zs : List P3) (f t : Int) (w : World) (hn : zs.length = n) (hN : n ≤ 16777216) (hA : Reads w w.heap.size A (cells3 zs)) :
    Calls Try.prog 13 #[.slice A n c, .int .i64 f, .int .i64 t] w fun e w' => e = .returned (.tuple #[.int .i64 (tbV zs f t), .int .i64 (tbE zs f t)]) ∧ Gr w w' := by
  have HL := Lib.hid hn
  have HA := Lib.hid hA
  have HC := Lib.hid (fun d => tkcode_impl A (some ⟨w.heap.size, 0, none⟩) n c 2 d zs [f, t] (w.alloc (.cells #[.int .i64 f, .int .i64 t] 2)) hn hN (hA.gr ((Gr.refl w).alloc _)) rfl (by omega) (Row.new w 2 [vi f, vi t]).reads)
  rw [allv_two] at HC
  clear hA
  rcases tb_cases zs f t with ⟨h1, h2, h3⟩ | ⟨h1, h2, h3⟩
  · rw [h2, h3]
    clear h2 h3
    generalize tkE zs (vl f && vl t) = cd at *
    have hc0 : (cd == 0) = false := by simpa using h1
    go_enter Try.func13, Try.ntmps13
    go_wp2_with (go_at_call 26; refine (HC.out _).mono ?_; rintro e w' ⟨rfl, kk, os, rfl⟩)
    ((try simp only [Exit.inBlock, Exit.then]); refine bodyPost_ret (v := .tuple #[.int .i64 0, .int .i64 cd]) (by simp [results, Try.results13, go_sem]) rfl ?_)
    exact ⟨rfl, (by repeat (first | with_reducible exact Gr.refl _ | with_reducible refine Gr.alloc ?_ _ | with_reducible refine Gr.gr ?_ _ _ | with_reducible refine Gr.drew ?_ | with_reducible refine Gr.drewN ?_ _))⟩
  rw [h2, h3, hn]
  rw [h1] at HC
  clear h1 h2 h3 hn
  go_enter Try.func13, Try.ntmps13
  go_wp2_with (go_at_call 26; refine (HC.out _).mono ?_; rintro e w' ⟨rfl, kk, os, rfl⟩)
  go_loopw [9, 22] (fun b i wr => ∃ k : Nat, k ≤ n ∧ i = .int .i64 k ∧ b = .int .i64 (cntB zs f t k) ∧ Gr w wr) (fun _ i _ => n - (intOf i).toNat)
  case atStart => exact ⟨0, by omega, rfl, by simp [cntB], (by repeat (first | with_reducible exact Gr.refl _ | with_reducible refine Gr.alloc ?_ _ | with_reducible refine Gr.gr ?_ _ _ | with_reducible refine Gr.drew ?_ | with_reducible refine Gr.drewN ?_ _))⟩
  case round =>
    obtain ⟨k, hk, rfl, rfl, hG⟩ := hrel
    by_cases hlt : k < n
    · obtain ⟨z, hz⟩ := some_at (l := zs) (k := k) (by rw [HL.out]; exact hlt)
      have HS := Lib.hid (cntB_succ zs f t k)
      rw [tkP_at hz] at HS
      have hcb := cntB_bd zs f t k
      generalize cntB zs f t k = cb at *
      obtain ⟨g, o, rfl, hg, x0, x1, x2⟩ := (HA.out.gr hG).at3 hz
      have HG := Lib.hid hG
      obtain ⟨za, zb, zc⟩ := z
      simp only at *
      clear hz hG
      by_cases h1 : f ≤ zb
      · by_cases h2 : zb ≤ t
        · rw [if_pos ⟨h1, h2⟩] at HS
          go_wp2
          go_roundw
          case rel => exact ⟨k + 1, by omega, by go_num, by rw [HS.out], HG.out.trans (by repeat (first | with_reducible exact Gr.refl _ | with_reducible refine Gr.alloc ?_ _ | with_reducible refine Gr.gr ?_ _ _ | with_reducible refine Gr.drew ?_ | with_reducible refine Gr.drewN ?_ _))⟩
          case measure => simp [intOf]; omega
        · rw [if_neg (fun h => h2 h.2)] at HS
          go_wp2
          go_roundw
          case rel => exact ⟨k + 1, by omega, by go_num, by rw [HS.out], HG.out.trans (by repeat (first | with_reducible exact Gr.refl _ | with_reducible refine Gr.alloc ?_ _ | with_reducible refine Gr.gr ?_ _ _ | with_reducible refine Gr.drew ?_ | with_reducible refine Gr.drewN ?_ _))⟩
          case measure => simp [intOf]; omega
      · rw [if_neg (fun h => h1 h.1)] at HS
        go_wp2
        go_roundw
        case rel => exact ⟨k + 1, by omega, by go_num, by rw [HS.out], HG.out.trans (by repeat (first | with_reducible exact Gr.refl _ | with_reducible refine Gr.alloc ?_ _ | with_reducible refine Gr.gr ?_ _ _ | with_reducible refine Gr.drew ?_ | with_reducible refine Gr.drewN ?_ _))⟩
        case measure => simp [intOf]; omega
    · obtain rfl : k = n := by omega
      go_wp2
      ((try simp only [Exit.inBlock, Exit.then]); refine bodyPost_ret (v := .tuple #[.int .i64 (cntB zs f t k), .int .i64 0]) (by simp [results, Try.results13, go_sem]) rfl ?_)
      exact ⟨rfl, hG⟩
end Go.Proofs.Ytenpgchkailocab
