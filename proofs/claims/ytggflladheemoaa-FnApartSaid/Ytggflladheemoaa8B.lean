/- Plain mathematics, merged. -/
import Derived.Test.YtggflladheemoaaC08a
import Derived.Test.Ytggflladheemoaa1A
import Derived.BigQuiet
/- Contracts of chapter 8: the code of ticks, the nearest one, how many between two bounds. -/
namespace Go.Proofs.Ytggflladheemoaa
open Go.RowKit
set_option linter.unusedVariables false
set_option linter.unusedSimpArgs false

theorem tkcode_spec (A : Option Addr) (n c : Nat) (zs : List P3) (w : World) (hn : zs.length = n) (hN : n ≤ 16777216) (hA : Reads w w.heap.size A (cells3 zs)) :
    Calls Try.prog 56 #[.slice A n c] w fun e w' => e = .returned (.int .i64 (tkE zs true)) ∧ w = w' := by
  have HL := Lib.hid hn
  have HA := Lib.hid hA
  clear hA
  by_cases hb : 150 < n
  · have HE := Lib.hid (show tkE zs true = 3 by unfold tkE; rw [if_pos (by omega)])
    clear hn
    go_enter Try.func56, Try.ntmps56
    go_wp2
    go_ret
    exact ⟨ret_int HE.out.symm, rfl⟩
  have HE := Lib.hid (show tkE zs true = if allP zs = true then 0 else 2 by unfold tkE; rw [if_neg (by omega)]; simp)
  clear hn
  go_enter Try.func56, Try.ntmps56
  go_wp2
  go_loop [3] (fun i => ∃ k : Nat, k ≤ n ∧ i = .int .i64 k ∧ Hid (allP (zs.take k) = true)) (fun i => n - (intOf i).toNat)
  case atStart => exact ⟨0, by omega, rfl, Lib.hid (by simp [allP])⟩
  case round =>
    obtain ⟨k, hk, rfl, ha⟩ := hrel
    by_cases hlt : k < n
    · obtain ⟨z, hz⟩ := some_at (l := zs) (k := k) (by rw [HL.out]; exact hlt)
      obtain ⟨g, o, rfl, hg, x0, x1, x2⟩ := HA.out.at3 hz
      have HZ := Lib.hid hz
      clear hz
      by_cases hv : vl z.2.1 = true
      · have HV := Lib.hid hv
        clear hv
        go_wp2_with (go_at_call 57; refine (is_any _ _).mono ?_; rw [HV.out]; rintro e w' ⟨rfl, rfl⟩)
        go_round
        case rel => exact ⟨k + 1, by omega, by go_num, Lib.hid (allP_take HZ.out ha.out HV.out)⟩
        case measure => simp [intOf]; omega
      · have HV := Lib.hid (show vl z.2.1 = false by cases h : vl z.2.1 <;> simp_all)
        clear hv
        have HQ := Lib.hid (show tkE zs true = 2 by rw [HE.out, if_neg (by rw [allP_bad HZ.out HV.out]; simp)])
        go_wp2_with (go_at_call 57; refine (is_any _ _).mono ?_; rw [HV.out]; rintro e w' ⟨rfl, rfl⟩)
        go_ret
        exact ⟨ret_int HQ.out.symm, rfl⟩
    · obtain rfl : k = n := by omega
      have HF := Lib.hid (show zs.take k = zs from List.take_of_length_le (by rw [HL.out]; omega))
      have HQ := Lib.hid (show tkE zs true = 0 by rw [HE.out, if_pos (by rw [← HF.out]; exact ha.out)])
      go_wp2
      go_ret
      exact ⟨ret_int HQ.out.symm, rfl⟩

theorem tkcode_impl (A B : Option Addr) (n c m d : Nat) (zs : List P3) (ps : List Int) (w : World) (hn : zs.length = n) (hN : n ≤ 16777216) (hA : Reads w w.heap.size A (cells3 zs)) (hm : ps.length = m) (hM : m ≤ 16777216) (hB : Reads w w.heap.size B (ps.map vi)) :
    Calls Try.prog 55 #[.slice A n c, .slice B m d] w fun e w' => e = .returned (.int .i64 (tkE zs (allv ps))) ∧ Gr w w' := by
  have HL := Lib.hid hn
  have HA := Lib.hid hA
  have HV := Lib.hid (areValues_any B m d ps w hm hM hB)
  clear hA hm hB
  by_cases hb : 150 < n
  · have HE := Lib.hid (show tkE zs (allv ps) = 3 by unfold tkE; rw [if_pos (by omega)])
    clear hn
    go_enter Try.func55, Try.ntmps55
    go_wp2
    go_ret
    exact ⟨ret_int HE.out.symm, Gr.refl _⟩
  have HE := Lib.hid (show tkE zs (allv ps) = if (allv ps && allP zs) = true then 0 else 2 by unfold tkE; rw [if_neg (by omega)])
  clear hn
  rcases Bool.eq_false_or_eq_true (allv ps) with hq | hq
  rotate_left
  · have HQ := Lib.hid (show tkE zs (allv ps) = 2 by rw [HE.out, hq]; rfl)
    rw [hq] at HV
    clear hq
    go_enter Try.func55, Try.ntmps55
    go_wp2_with (go_at_call 68; refine (HV.out).mono ?_; rintro e w' ⟨rfl, rfl⟩)
    go_ret
    exact ⟨ret_int HQ.out.symm, Gr.refl _⟩
  have HE2 := Lib.hid (show tkE zs (allv ps) = if allP zs = true then 0 else 2 by rw [HE.out, hq, Bool.true_and])
  rw [hq] at HV
  clear hq HE
  go_enter Try.func55, Try.ntmps55
  go_wp2_with (go_at_call 68; refine (HV.out).mono ?_; rintro e w' ⟨rfl, rfl⟩)
  go_loopw [15] (fun i wr => ∃ k : Nat, k ≤ n ∧ i = .int .i64 k ∧ Hid (allP (zs.take k) = true) ∧ Gr w wr) (fun i _ => n - (intOf i).toNat)
  case atStart => exact ⟨0, by omega, rfl, Lib.hid (by simp [allP]), Gr.refl _⟩
  case round =>
    obtain ⟨k, hk, rfl, ha, hG⟩ := hrel
    by_cases hlt : k < n
    · obtain ⟨z, hz⟩ := some_at (l := zs) (k := k) (by rw [HL.out]; exact hlt)
      obtain ⟨g, o, rfl, hg, x0, x1, x2⟩ := (HA.out.gr hG).at3 hz
      have HZ := Lib.hid hz
      clear hz
      obtain ⟨za, zb, zc⟩ := z
      simp only at x0 x1 x2
      by_cases hv : vl zb = true
      · have HV := Lib.hid hv
        clear hv
        go_wp2_with (go_at_call 69; refine (isValue_any _ _).mono ?_; rw [HV.out]; rintro e w' ⟨rfl, rfl⟩)
        go_roundw
        case rel => exact ⟨k + 1, by omega, by go_num, Lib.hid (allP_take HZ.out ha.out HV.out), hG.trans (by repeat (first | with_reducible exact Gr.refl _ | with_reducible refine Gr.alloc ?_ _ | with_reducible refine Gr.gr ?_ _ _ | with_reducible refine Gr.drew ?_ | with_reducible refine Gr.drewN ?_ _))⟩
        case measure => simp [intOf]; omega
      · have HV := Lib.hid (show vl zb = false by cases h : vl zb <;> simp_all)
        clear hv
        have HQ := Lib.hid (show tkE zs (allv ps) = 2 by rw [HE2.out, if_neg (by rw [allP_bad HZ.out HV.out]; simp)])
        go_wp2_with (go_at_call 69; refine (isValue_any _ _).mono ?_; rw [HV.out]; rintro e w' ⟨rfl, rfl⟩)
        go_ret
        exact ⟨ret_int HQ.out.symm, hG.trans (by repeat (first | with_reducible exact Gr.refl _ | with_reducible refine Gr.alloc ?_ _ | with_reducible refine Gr.gr ?_ _ _ | with_reducible refine Gr.drew ?_ | with_reducible refine Gr.drewN ?_ _))⟩
    · obtain rfl : k = n := by omega
      have HF := Lib.hid (show zs.take k = zs from List.take_of_length_le (by rw [HL.out]; omega))
      have HQ := Lib.hid (show tkE zs (allv ps) = 0 by rw [HE2.out, if_pos (by rw [← HF.out]; exact ha.out)])
      go_wp2
      go_ret
      exact ⟨ret_int HQ.out.symm, hG⟩

/-- The answer of the nearest tick, by cases. -/
theorem nt_cases (zs : List P3) (p : Int) : (tkE zs (vl p) ≠ 0 ∧ ntE zs p = tkE zs (vl p) ∧ ntV zs p = 0) ∨ (tkE zs (vl p) = 0 ∧ zs.length = 0 ∧ ntE zs p = 4 ∧ ntV zs p = 0) ∨
    (tkE zs (vl p) = 0 ∧ 0 < zs.length ∧ ntE zs p = 0 ∧ ntV zs p = (argm (tkD zs p) zs.length : Int)) := by
  by_cases h : tkE zs (vl p) = 0
  · by_cases h2 : zs.length = 0
    · have e : ntE zs p = 4 := by unfold ntE; rw [if_pos h, if_pos h2]
      exact .inr (.inl ⟨h, h2, e, by unfold ntV; rw [if_neg (by omega)]⟩)
    · have e : ntE zs p = 0 := by unfold ntE; rw [if_pos h, if_neg h2]
      exact .inr (.inr ⟨h, by omega, e, by unfold ntV; rw [if_pos e]⟩)
  · have e : ntE zs p = tkE zs (vl p) := by unfold ntE; rw [if_neg h]
    exact .inl ⟨h, e, by unfold ntV; rw [if_neg (by omega)]⟩
theorem tkE_zero {zs : List P3} {q : Bool} (h : tkE zs q = 0) : zs.length ≤ 150 ∧ q = true ∧ allP zs = true ∧ tkE zs true = 0 := by
  rcases tkE_cases zs q with ⟨-, e⟩ | ⟨h1, rfl, h3, e⟩ | ⟨-, -, e⟩
  · omega
  · exact ⟨h1, rfl, h3, e⟩
  · omega

set_option maxRecDepth 100000 in
set_option maxHeartbeats 2000000 in
theorem nt_spec (A : Option Addr) (n c : Nat) (zs : List P3) (p : Int) (w : World) (hn : zs.length = n) (hN : n ≤ 16777216) (hA : Reads w w.heap.size A (cells3 zs)) :
    Calls Try.prog 25 #[.slice A n c, .int .i64 p] w fun e w' => e = .returned (.tuple #[.int .i64 (ntV zs p), .int .i64 (ntE zs p)]) ∧ Gr w w' := by
  have HL := Lib.hid hn
  have HA := Lib.hid hA
  have HC := Lib.hid (tkcode_spec A n c zs w hn hN hA)
  have HI := Lib.hid (is_any p)
  clear hA
  by_cases h0 : tkE zs true = 0
  rotate_left
  · have e1 := tkE_same zs (vl p) h0
    rcases nt_cases zs p with ⟨h1, h2, h3⟩ | ⟨h1, -⟩ | ⟨h1, -⟩
    rotate_left
    · exact absurd h1 (by rw [e1]; exact h0)
    · exact absurd h1 (by rw [e1]; exact h0)
    rw [h2, h3, e1]
    clear h1 h2 h3 e1
    generalize tkE zs true = cd at *
    have hc0 : (cd == 0) = false := by simpa using h0
    go_enter Try.func25, Try.ntmps25
    go_wp2_with (go_at_call 56; refine (HC.out).mono ?_; rintro e w' ⟨rfl, rfl⟩)
    ((try simp only [Exit.inBlock, Exit.then]); refine bodyPost_ret (v := .tuple #[.int .i64 0, .int .i64 cd]) (by simp [results, Try.results25, go_sem]) rfl ?_)
    exact ⟨rfl, Gr.refl _⟩
  rw [h0] at HC
  rcases Bool.eq_false_or_eq_true (vl p) with hv | hv
  rotate_left
  · rw [hv] at HI
    rcases nt_cases zs p with ⟨h1, h2, h3⟩ | ⟨h1, -⟩ | ⟨h1, -⟩
    rotate_left
    · rw [hv, tkE_false _ h0] at h1; omega
    · rw [hv, tkE_false _ h0] at h1; omega
    rw [h2, h3, hv, tkE_false _ h0]
    clear h0 h1 h2 h3 hv hn
    go_enter Try.func25, Try.ntmps25
    go_wp2_with (first | (go_at_call 56; with_reducible refine (HC.out).mono ?_; rintro e w' ⟨rfl, rfl⟩) | (go_at_call 57; with_reducible refine (HI.out _).mono ?_; rintro e w' ⟨rfl, rfl⟩))
    ((try simp only [Exit.inBlock, Exit.then]); refine bodyPost_ret (v := .tuple #[.int .i64 0, .int .i64 2]) (by simp [results, Try.results25, go_sem]) rfl ?_)
    exact ⟨rfl, Gr.refl _⟩
  rw [hv] at HI
  rcases nt_cases zs p with ⟨h1, -⟩ | ⟨-, h1, h2, h3⟩ | ⟨-, h1, h2, h3⟩
  · rw [hv] at h1; exact absurd h0 h1
  · rw [h2, h3]
    obtain rfl : n = 0 := by omega
    clear h0 h1 h2 h3 hv hn
    go_enter Try.func25, Try.ntmps25
    go_wp2_with (first | (go_at_call 56; with_reducible refine (HC.out).mono ?_; rintro e w' ⟨rfl, rfl⟩) | (go_at_call 57; with_reducible refine (HI.out _).mono ?_; rintro e w' ⟨rfl, rfl⟩))
    ((try simp only [Exit.inBlock, Exit.then]); refine bodyPost_ret (v := .tuple #[.int .i64 0, .int .i64 4]) (by simp [results, Try.results25, go_sem]) rfl ?_)
    exact ⟨rfl, Gr.refl _⟩
  rw [h2, h3, hn]
  have hn0 : 0 < n := by omega
  have hnz : ((n : Int) == 0) = false := by simp; omega
  obtain ⟨-, -, hP, -⟩ := tkE_zero h0
  have HP := Lib.hid (tkP_bd hP)
  have hp := (vl_iff p).1 hv
  clear h0 h1 h2 h3 hv hn hP
  go_enter Try.func25, Try.ntmps25
  go_wp2_with (first | (go_at_call 56; with_reducible refine (HC.out).mono ?_; rintro e w' ⟨rfl, rfl⟩) | (go_at_call 57; with_reducible refine (HI.out _).mono ?_; rintro e w' ⟨rfl, rfl⟩))
  go_loopw [7, 8] (fun b i wr => ∃ k : Nat, k ≤ n ∧ i = .int .i64 k ∧ b = .int .i64 (argm (tkD zs p) k : Int) ∧ Gr w wr) (fun _ i _ => n - (intOf i).toNat)
  case atStart => exact ⟨0, by omega, rfl, by simp [argm], Gr.refl _⟩
  case round =>
    obtain ⟨k, hk, rfl, rfl, hG⟩ := hrel
    by_cases hlt : k < n
    · obtain ⟨z, hz⟩ := some_at (l := zs) (k := k) (by rw [HL.out]; exact hlt)
      have hj : argm (tkD zs p) k < n := by
        rcases Nat.eq_zero_or_pos k with h | h
        · subst h; simpa [argm] using hn0
        · have := argm_lt (tkD zs p) k h; omega
      have HS := Lib.hid (argm_succ (tkD zs p) k)
      have e1 : tkD zs p k = ((z.2.1 - p).natAbs : Int) := by unfold tkD; rw [tkP_at hz]
      have b1 := HP.out k
      rw [tkP_at hz] at b1
      generalize argm (tkD zs p) k = j at *
      obtain ⟨y, hy⟩ := some_at (l := zs) (k := j) (by rw [HL.out]; exact hj)
      have e2 : tkD zs p j = ((y.2.1 - p).natAbs : Int) := by unfold tkD; rw [tkP_at hy]
      have b2 := HP.out j
      rw [tkP_at hy] at b2
      obtain ⟨g, o, rfl, hg, -, x1, -⟩ := (HA.out.gr hG).at3 hz
      obtain ⟨g2, o2, eg, -, -, y1, -⟩ := (HA.out.gr hG).at3 hy
      injection eg with eg
      injection eg with eg1 eg2
      subst eg1 eg2
      rw [e1, e2] at HS
      obtain ⟨za, zb, zc⟩ := z
      obtain ⟨ya, yb, yc⟩ := y
      simp only at *
      clear hz hy e1 e2
      have HD1 := Lib.hid (fun W => abs_any (zb - p) W (by omega) (by omega))
      have HD2 := Lib.hid (fun W => abs_any (yb - p) W (by omega) (by omega))
      have hw1 : IntKind.i64.wrap (zb - p) = zb - p := IntWalk.i64_in _ (by omega)
      have hw2 : IntKind.i64.wrap (yb - p) = yb - p := IntWalk.i64_in _ (by omega)
      have HG := Lib.hid hG
      clear hG
      go_wp2
      ((first | refine region_gr_on (by kernel_rfl) (by kernel_rfl) ?_ | refine region_gr (by kernel_rfl) (by kernel_rfl) ?_); (repeat (quiet_step (first | with_reducible exact Calls.gr_same (HD1.out _) | with_reducible exact Calls.gr_same (HD2.out _)))); refine wpQuiet_nil ?_; intro _ hw'; obtain ⟨⟨kq, oq⟩, hw''⟩ := hw'; subst hw'')
      by_cases hcc : ((zb - p).natAbs : Int) < ((yb - p).natAbs : Int)
      · rw [if_pos hcc] at HS
        go_wp2
        go_roundw
        case rel => exact ⟨k + 1, by omega, by go_num, by rw [HS.out], HG.out.trans (by repeat (first | with_reducible exact Gr.refl _ | with_reducible refine Gr.alloc ?_ _ | with_reducible refine Gr.gr ?_ _ _ | with_reducible refine Gr.drew ?_ | with_reducible refine Gr.drewN ?_ _))⟩
        case measure => simp [intOf]; omega
      · rw [if_neg hcc] at HS
        go_wp2
        go_roundw
        case rel => exact ⟨k + 1, by omega, by go_num, by rw [HS.out], HG.out.trans (by repeat (first | with_reducible exact Gr.refl _ | with_reducible refine Gr.alloc ?_ _ | with_reducible refine Gr.gr ?_ _ _ | with_reducible refine Gr.drew ?_ | with_reducible refine Gr.drewN ?_ _))⟩
        case measure => simp [intOf]; omega
    · obtain rfl : k = n := by omega
      go_wp2
      ((try simp only [Exit.inBlock, Exit.then]); refine bodyPost_ret (v := .tuple #[.int .i64 (argm (tkD zs p) k : Int), .int .i64 0]) (by simp [results, Try.results25, go_sem]) rfl ?_)
      exact ⟨rfl, hG⟩
end Go.Proofs.Ytggflladheemoaa

/- Contracts of chapter 8: the program's nearest tick. -/
namespace Go.Proofs.Ytggflladheemoaa
open Go.RowKit
set_option linter.unusedVariables false
set_option linter.unusedSimpArgs false

theorem allv_one (p : Int) : allv [p] = vl p := by unfold allv; simp
theorem allv_two (p q : Int) : allv [p, q] = (vl p && vl q) := by unfold allv; simp
theorem Row.one (w : World) (t : TypeId) (x : Value) : Row (w.alloc (.cells #[x] t)) w.heap.size t [x] := Row.new w t [x]

set_option maxRecDepth 100000 in
set_option maxHeartbeats 1000000 in
theorem nt_impl (A : Option Addr) (n c : Nat) (zs : List P3) (p : Int) (w : World) (hn : zs.length = n) (hN : n ≤ 16777216) (hA : Reads w w.heap.size A (cells3 zs)) :
    Calls Try.prog 24 #[.slice A n c, .int .i64 p] w fun e w' => e = .returned (.tuple #[.int .i64 (ntV zs p), .int .i64 (ntE zs p)]) ∧ Gr w w' := by
  have HL := Lib.hid hn
  have HA := Lib.hid hA
  have HC := Lib.hid (fun d => tkcode_impl A (some ⟨w.heap.size, 0, none⟩) n c 1 d zs [p] (w.alloc (.cells #[.int .i64 p] 2)) hn hN (hA.gr ((Gr.refl w).alloc _)) rfl (by omega) (Row.one w _ _).reads)
  rw [allv_one] at HC
  clear hA
  rcases nt_cases zs p with ⟨h1, h2, h3⟩ | ⟨h1, h1b, h2, h3⟩ | ⟨h1, h1b, h2, h3⟩
  · rw [h2, h3]
    clear h2 h3
    generalize tkE zs (vl p) = cd at *
    have hc0 : (cd == 0) = false := by simpa using h1
    go_enter Try.func24, Try.ntmps24
    go_wp2_with (go_at_call 55; refine (HC.out _).mono ?_; rintro e w' ⟨rfl, kk, os, rfl⟩)
    ((try simp only [Exit.inBlock, Exit.then]); refine bodyPost_ret (v := .tuple #[.int .i64 0, .int .i64 cd]) (by simp [results, Try.results24, go_sem]) rfl ?_)
    exact ⟨rfl, (by repeat (first | with_reducible exact Gr.refl _ | with_reducible refine Gr.alloc ?_ _ | with_reducible refine Gr.gr ?_ _ _ | with_reducible refine Gr.drew ?_ | with_reducible refine Gr.drewN ?_ _))⟩
  · rw [h2, h3]
    rw [h1] at HC
    obtain rfl : n = 0 := by omega
    clear h1 h2 h3 hn
    go_enter Try.func24, Try.ntmps24
    go_wp2_with (go_at_call 55; refine (HC.out _).mono ?_; rintro e w' ⟨rfl, kk, os, rfl⟩)
    ((try simp only [Exit.inBlock, Exit.then]); refine bodyPost_ret (v := .tuple #[.int .i64 0, .int .i64 4]) (by simp [results, Try.results24, go_sem]) rfl ?_)
    exact ⟨rfl, (by repeat (first | with_reducible exact Gr.refl _ | with_reducible refine Gr.alloc ?_ _ | with_reducible refine Gr.gr ?_ _ _ | with_reducible refine Gr.drew ?_ | with_reducible refine Gr.drewN ?_ _))⟩
  rw [h2, h3, hn]
  rw [h1] at HC
  have hn0 : 0 < n := by omega
  have hnz : ((n : Int) == 0) = false := by simp; omega
  obtain ⟨-, hv, hP, -⟩ := tkE_zero h1
  have HP := Lib.hid (tkP_bd hP)
  have hp := (vl_iff p).1 hv
  clear h1 h2 h3 hv hn hP
  go_enter Try.func24, Try.ntmps24
  go_wp2_with (go_at_call 55; refine (HC.out _).mono ?_; rintro e w' ⟨rfl, kk, os, rfl⟩)
  go_loopw [7, 22] (fun b i wr => ∃ k : Nat, k ≤ n ∧ i = .int .i64 k ∧ b = .int .i64 (argm (tkD zs p) k : Int) ∧ Gr w wr) (fun _ i _ => n - (intOf i).toNat)
  case atStart => exact ⟨0, by omega, rfl, by simp [argm], (by repeat (first | with_reducible exact Gr.refl _ | with_reducible refine Gr.alloc ?_ _ | with_reducible refine Gr.gr ?_ _ _ | with_reducible refine Gr.drew ?_ | with_reducible refine Gr.drewN ?_ _))⟩
  case round =>
    obtain ⟨k, hk, rfl, rfl, hG⟩ := hrel
    by_cases hlt : k < n
    · obtain ⟨z, hz⟩ := some_at (l := zs) (k := k) (by rw [HL.out]; exact hlt)
      have hj : argm (tkD zs p) k < n := by
        rcases Nat.eq_zero_or_pos k with h | h
        · subst h; simpa [argm] using hn0
        · have := argm_lt (tkD zs p) k h; omega
      have HS := Lib.hid (argm_succ (tkD zs p) k)
      have e1 : tkD zs p k = ((z.2.1 - p).natAbs : Int) := by unfold tkD; rw [tkP_at hz]
      have b1 := HP.out k
      rw [tkP_at hz] at b1
      generalize argm (tkD zs p) k = j at *
      obtain ⟨y, hy⟩ := some_at (l := zs) (k := j) (by rw [HL.out]; exact hj)
      have e2 : tkD zs p j = ((y.2.1 - p).natAbs : Int) := by unfold tkD; rw [tkP_at hy]
      have b2 := HP.out j
      rw [tkP_at hy] at b2
      obtain ⟨g, o, rfl, hg, x0, x1, x2⟩ := (HA.out.gr hG).at3 hz
      obtain ⟨g2, o2, eg, -, -, y1, -⟩ := (HA.out.gr hG).at3 hy
      injection eg with eg
      injection eg with eg1 eg2
      subst eg1 eg2
      rw [e1, e2] at HS
      obtain ⟨za, zb, zc⟩ := z
      obtain ⟨ya, yb, yc⟩ := y
      simp only at *
      clear hz hy e1 e2
      have HD1 := Lib.hid (fun W => distance_any zb p W (by omega) (by omega) (by omega) (by omega))
      have HD2 := Lib.hid (fun W => distance_any yb p W (by omega) (by omega) (by omega) (by omega))
      have HG := Lib.hid hG
      clear hG
      go_wp2
      ((first | refine region_gr_on (by kernel_rfl) (by kernel_rfl) ?_ | refine region_gr (by kernel_rfl) (by kernel_rfl) ?_); (repeat (quiet_step (first | with_reducible exact Calls.gr_same (HD1.out _) | with_reducible exact Calls.gr_same (HD2.out _)))); refine wpQuiet_nil ?_; intro _ hw'; obtain ⟨⟨kq, oq⟩, hw''⟩ := hw'; subst hw'')
      by_cases hcc : ((zb - p).natAbs : Int) < ((yb - p).natAbs : Int)
      · rw [if_pos hcc] at HS
        go_wp2
        go_roundw
        case rel => exact ⟨k + 1, by omega, by go_num, by rw [HS.out], HG.out.trans (by repeat (first | with_reducible exact Gr.refl _ | with_reducible refine Gr.alloc ?_ _ | with_reducible refine Gr.gr ?_ _ _ | with_reducible refine Gr.drew ?_ | with_reducible refine Gr.drewN ?_ _))⟩
        case measure => simp [intOf]; omega
      · rw [if_neg hcc] at HS
        go_wp2
        go_roundw
        case rel => exact ⟨k + 1, by omega, by go_num, by rw [HS.out], HG.out.trans (by repeat (first | with_reducible exact Gr.refl _ | with_reducible refine Gr.alloc ?_ _ | with_reducible refine Gr.gr ?_ _ _ | with_reducible refine Gr.drew ?_ | with_reducible refine Gr.drewN ?_ _))⟩
        case measure => simp [intOf]; omega
    · obtain rfl : k = n := by omega
      go_wp2
      ((try simp only [Exit.inBlock, Exit.then]); refine bodyPost_ret (v := .tuple #[.int .i64 (argm (tkD zs p) k : Int), .int .i64 0]) (by simp [results, Try.results24, go_sem]) rfl ?_)
      exact ⟨rfl, hG⟩
end Go.Proofs.Ytggflladheemoaa

/- Contracts of chapter 8: how many ticks stand between two bounds. -/
namespace Go.Proofs.Ytggflladheemoaa
open Go.RowKit
set_option linter.unusedVariables false
set_option linter.unusedSimpArgs false

theorem tb_cases (zs : List P3) (f t : Int) : (tkE zs (vl f && vl t) ≠ 0 ∧ tbE zs f t = tkE zs (vl f && vl t) ∧ tbV zs f t = 0) ∨ (tkE zs (vl f && vl t) = 0 ∧ tbE zs f t = 0 ∧ tbV zs f t = cntB zs f t zs.length) := by
  by_cases h : tkE zs (vl f && vl t) = 0
  · exact .inr ⟨h, h, by unfold tbV tbE; rw [if_pos h]⟩
  · exact .inl ⟨h, rfl, by unfold tbV tbE; rw [if_neg h]⟩

set_option maxRecDepth 100000 in
set_option maxHeartbeats 2000000 in
theorem tb_spec (A : Option Addr) (n c : Nat) (zs : List P3) (f t : Int) (w : World) (hn : zs.length = n) (hN : n ≤ 16777216) (hA : Reads w w.heap.size A (cells3 zs)) :
    Calls Try.prog 28 #[.slice A n c, .int .i64 f, .int .i64 t] w fun e w' => e = .returned (.tuple #[.int .i64 (tbV zs f t), .int .i64 (tbE zs f t)]) ∧ Gr w w' := by
  have HL := Lib.hid hn
  have HA := Lib.hid hA
  have HC := Lib.hid (tkcode_spec A n c zs w hn hN hA)
  have HI := Lib.hid (is_any f)
  have HJ := Lib.hid (is_any t)
  clear hA
  by_cases h0 : tkE zs true = 0
  rotate_left
  · have e1 := tkE_same zs (vl f && vl t) h0
    rcases tb_cases zs f t with ⟨h1, h2, h3⟩ | ⟨h1, -⟩
    rotate_left
    · exact absurd h1 (by rw [e1]; exact h0)
    rw [h2, h3, e1]
    clear h1 h2 h3 e1
    generalize tkE zs true = cd at *
    have hc0 : (cd == 0) = false := by simpa using h0
    go_enter Try.func28, Try.ntmps28
    go_wp2_with (go_at_call 56; refine (HC.out).mono ?_; rintro e w' ⟨rfl, rfl⟩)
    ((try simp only [Exit.inBlock, Exit.then]); refine bodyPost_ret (v := .tuple #[.int .i64 0, .int .i64 cd]) (by simp [results, Try.results28, go_sem]) rfl ?_)
    exact ⟨rfl, Gr.refl _⟩
  rw [h0] at HC
  by_cases hv : (vl f && vl t) = true
  rotate_left
  · have hv0 : (vl f && vl t) = false := by simpa using hv
    rcases tb_cases zs f t with ⟨h1, h2, h3⟩ | ⟨h1, -⟩
    rotate_left
    · rw [hv0, tkE_false _ h0] at h1; omega
    rw [h2, h3, hv0, tkE_false _ h0]
    have hor : vl f = false ∨ (vl f = true ∧ vl t = false) := by
      cases h4 : vl f
      · exact .inl rfl
      · rw [h4] at hv0
        exact .inr ⟨rfl, by simpa using hv0⟩
    clear h0 h1 h2 h3 hv hv0 hn
    rcases hor with hf | ⟨hf, ht⟩
    · rw [hf] at HI
      clear hf
      go_enter Try.func28, Try.ntmps28
      go_wp2_with (first | (go_at_call 56; with_reducible refine (HC.out).mono ?_; rintro e w' ⟨rfl, rfl⟩) | (go_at_call 57; with_reducible refine (HI.out _).mono ?_; rintro e w' ⟨rfl, rfl⟩))
      ((try simp only [Exit.inBlock, Exit.then]); refine bodyPost_ret (v := .tuple #[.int .i64 0, .int .i64 2]) (by simp [results, Try.results28, go_sem]) rfl ?_)
      exact ⟨rfl, Gr.refl _⟩
    · rw [hf] at HI
      rw [ht] at HJ
      clear hf ht
      go_enter Try.func28, Try.ntmps28
      go_wp2_with (first | (go_at_call 56; with_reducible refine (HC.out).mono ?_; rintro e w' ⟨rfl, rfl⟩) | (go_at_call 57; with_reducible refine (HI.out _).mono ?_; rintro e w' ⟨rfl, rfl⟩) | (go_at_call 57; with_reducible refine (HJ.out _).mono ?_; rintro e w' ⟨rfl, rfl⟩))
      ((try simp only [Exit.inBlock, Exit.then]); refine bodyPost_ret (v := .tuple #[.int .i64 0, .int .i64 2]) (by simp [results, Try.results28, go_sem]) rfl ?_)
      exact ⟨rfl, Gr.refl _⟩
  rcases tb_cases zs f t with ⟨h1, -⟩ | ⟨-, h2, h3⟩
  · rw [hv] at h1; exact absurd h0 h1
  rw [h2, h3, hn]
  rw [Bool.and_eq_true] at hv
  rw [hv.1] at HI
  rw [hv.2] at HJ
  clear h0 h2 h3 hv hn
  go_enter Try.func28, Try.ntmps28
  go_wp2_with (first | (go_at_call 56; with_reducible refine (HC.out).mono ?_; rintro e w' ⟨rfl, rfl⟩) | (go_at_call 57; with_reducible refine (HI.out _).mono ?_; rintro e w' ⟨rfl, rfl⟩) | (go_at_call 57; with_reducible refine (HJ.out _).mono ?_; rintro e w' ⟨rfl, rfl⟩))
  go_loop [9, 10] (fun b i => ∃ k : Nat, k ≤ n ∧ i = .int .i64 k ∧ b = .int .i64 (cntB zs f t k)) (fun _ i => n - (intOf i).toNat)
  case atStart => exact ⟨0, by omega, rfl, by simp [cntB]⟩
  case round =>
    obtain ⟨k, hk, rfl, rfl⟩ := hrel
    by_cases hlt : k < n
    · obtain ⟨z, hz⟩ := some_at (l := zs) (k := k) (by rw [HL.out]; exact hlt)
      have HS := Lib.hid (cntB_succ zs f t k)
      rw [tkP_at hz] at HS
      have hcb := cntB_bd zs f t k
      generalize cntB zs f t k = cb at *
      obtain ⟨g, o, rfl, hg, -, x1, -⟩ := HA.out.at3 hz
      obtain ⟨za, zb, zc⟩ := z
      simp only at *
      clear hz
      have HB := Lib.hid (fun W => in_any zb f t W)
      by_cases hcc : f ≤ zb ∧ zb ≤ t
      · rw [if_pos hcc] at HS
        rw [decide_eq_true hcc] at HB
        go_wp2_with (go_at_call 49; refine (HB.out _).mono ?_; rintro e w' ⟨rfl, rfl⟩)
        go_round
        case rel => exact ⟨k + 1, by omega, by go_num, by rw [HS.out]⟩
        case measure => simp [intOf]; omega
      · rw [if_neg hcc] at HS
        rw [decide_eq_false hcc] at HB
        go_wp2_with (go_at_call 49; refine (HB.out _).mono ?_; rintro e w' ⟨rfl, rfl⟩)
        go_round
        case rel => exact ⟨k + 1, by omega, by go_num, by rw [HS.out]⟩
        case measure => simp [intOf]; omega
    · obtain rfl : k = n := by omega
      go_wp2
      ((try simp only [Exit.inBlock, Exit.then]); refine bodyPost_ret (v := .tuple #[.int .i64 (cntB zs f t k), .int .i64 0]) (by simp [results, Try.results28, go_sem]) rfl ?_)
      exact ⟨rfl, Gr.refl _⟩

set_option maxRecDepth 100000 in
set_option maxHeartbeats 2000000 in
theorem tb_impl (A : Option Addr) (n c : Nat) (zs : List P3) (f t : Int) (w : World) (hn : zs.length = n) (hN : n ≤ 16777216) (hA : Reads w w.heap.size A (cells3 zs)) :
    Calls Try.prog 27 #[.slice A n c, .int .i64 f, .int .i64 t] w fun e w' => e = .returned (.tuple #[.int .i64 (tbV zs f t), .int .i64 (tbE zs f t)]) ∧ Gr w w' := by
  have HL := Lib.hid hn
  have HA := Lib.hid hA
  have HC := Lib.hid (fun d => tkcode_impl A (some ⟨w.heap.size, 0, none⟩) n c 2 d zs [f, t] (w.alloc (.cells #[.int .i64 f, .int .i64 t] 2)) hn hN (hA.gr ((Gr.refl w).alloc _)) rfl (by omega) (Row.new w 2 [vi f, vi t]).reads)
  rw [allv_two] at HC
  clear hA
  rcases tb_cases zs f t with ⟨h1, h2, h3⟩ | ⟨h1, h2, h3⟩
  · rw [h2, h3]
    clear h2 h3
    generalize tkE zs (vl f && vl t) = cd at *
    have hc0 : (cd == 0) = false := by simpa using h1
    go_enter Try.func27, Try.ntmps27
    go_wp2_with (go_at_call 55; refine (HC.out _).mono ?_; rintro e w' ⟨rfl, kk, os, rfl⟩)
    ((try simp only [Exit.inBlock, Exit.then]); refine bodyPost_ret (v := .tuple #[.int .i64 0, .int .i64 cd]) (by simp [results, Try.results27, go_sem]) rfl ?_)
    exact ⟨rfl, (by repeat (first | with_reducible exact Gr.refl _ | with_reducible refine Gr.alloc ?_ _ | with_reducible refine Gr.gr ?_ _ _ | with_reducible refine Gr.drew ?_ | with_reducible refine Gr.drewN ?_ _))⟩
  rw [h2, h3, hn]
  rw [h1] at HC
  clear h1 h2 h3 hn
  go_enter Try.func27, Try.ntmps27
  go_wp2_with (go_at_call 55; refine (HC.out _).mono ?_; rintro e w' ⟨rfl, kk, os, rfl⟩)
  go_loopw [9, 22] (fun b i wr => ∃ k : Nat, k ≤ n ∧ i = .int .i64 k ∧ b = .int .i64 (cntB zs f t k) ∧ Gr w wr) (fun _ i _ => n - (intOf i).toNat)
  case atStart => exact ⟨0, by omega, rfl, by simp [cntB], (by repeat (first | with_reducible exact Gr.refl _ | with_reducible refine Gr.alloc ?_ _ | with_reducible refine Gr.gr ?_ _ _ | with_reducible refine Gr.drew ?_ | with_reducible refine Gr.drewN ?_ _))⟩
  case round =>
    obtain ⟨k, hk, rfl, rfl, hG⟩ := hrel
    by_cases hlt : k < n
    · obtain ⟨z, hz⟩ := some_at (l := zs) (k := k) (by rw [HL.out]; exact hlt)
      have HS := Lib.hid (cntB_succ zs f t k)
      rw [tkP_at hz] at HS
      have hcb := cntB_bd zs f t k
      generalize cntB zs f t k = cb at *
      obtain ⟨g, o, rfl, hg, x0, x1, x2⟩ := (HA.out.gr hG).at3 hz
      have HG := Lib.hid hG
      obtain ⟨za, zb, zc⟩ := z
      simp only at *
      clear hz hG
      by_cases h1 : f ≤ zb
      · by_cases h2 : zb ≤ t
        · rw [if_pos ⟨h1, h2⟩] at HS
          go_wp2
          go_roundw
          case rel => exact ⟨k + 1, by omega, by go_num, by rw [HS.out], HG.out.trans (by repeat (first | with_reducible exact Gr.refl _ | with_reducible refine Gr.alloc ?_ _ | with_reducible refine Gr.gr ?_ _ _ | with_reducible refine Gr.drew ?_ | with_reducible refine Gr.drewN ?_ _))⟩
          case measure => simp [intOf]; omega
        · rw [if_neg (fun h => h2 h.2)] at HS
          go_wp2
          go_roundw
          case rel => exact ⟨k + 1, by omega, by go_num, by rw [HS.out], HG.out.trans (by repeat (first | with_reducible exact Gr.refl _ | with_reducible refine Gr.alloc ?_ _ | with_reducible refine Gr.gr ?_ _ _ | with_reducible refine Gr.drew ?_ | with_reducible refine Gr.drewN ?_ _))⟩
          case measure => simp [intOf]; omega
      · rw [if_neg (fun h => h1 h.1)] at HS
        go_wp2
        go_roundw
        case rel => exact ⟨k + 1, by omega, by go_num, by rw [HS.out], HG.out.trans (by repeat (first | with_reducible exact Gr.refl _ | with_reducible refine Gr.alloc ?_ _ | with_reducible refine Gr.gr ?_ _ _ | with_reducible refine Gr.drew ?_ | with_reducible refine Gr.drewN ?_ _))⟩
        case measure => simp [intOf]; omega
    · obtain rfl : k = n := by omega
      go_wp2
      ((try simp only [Exit.inBlock, Exit.then]); refine bodyPost_ret (v := .tuple #[.int .i64 (cntB zs f t k), .int .i64 0]) (by simp [results, Try.results27, go_sem]) rfl ?_)
      exact ⟨rfl, hG⟩
end Go.Proofs.Ytggflladheemoaa

/- Contracts of chapter 8: the closest ticks. -/
namespace Go.Proofs.Ytggflladheemoaa
open Go.RowKit
set_option linter.unusedVariables false
set_option linter.unusedSimpArgs false

theorem ct_cases (zs : List P3) : (tkE zs true ≠ 0 ∧ ctE zs = tkE zs true ∧ ctA zs = 0 ∧ ctB zs = 0) ∨ (tkE zs true = 0 ∧ zs.length < 2 ∧ ctE zs = 4 ∧ ctA zs = 0 ∧ ctB zs = 0) ∨
    (tkE zs true = 0 ∧ 2 ≤ zs.length ∧ ctE zs = 0 ∧ ctA zs = ((clI (Dp zs) zs.length zs.length).1 : Int) ∧ ctB zs = ((clI (Dp zs) zs.length zs.length).2 : Int)) := by
  by_cases h : tkE zs true = 0
  · by_cases h2 : zs.length < 2
    · have e : ctE zs = 4 := by unfold ctE; rw [if_pos h, if_pos h2]
      exact .inr (.inl ⟨h, h2, e, by unfold ctA; rw [if_neg (by omega)], by unfold ctB; rw [if_neg (by omega)]⟩)
    · have e : ctE zs = 0 := by unfold ctE; rw [if_pos h, if_neg h2]
      exact .inr (.inr ⟨h, by omega, e, by unfold ctA; rw [if_pos e], by unfold ctB; rw [if_pos e]⟩)
  · have e : ctE zs = tkE zs true := by unfold ctE; rw [if_neg h]
    exact .inl ⟨h, e, by unfold ctA; rw [if_neg (by omega)], by unfold ctB; rw [if_neg (by omega)]⟩
/-- What the inner loop knows of the pair so far. -/
theorem cl_in {zs : List P3} {n : Nat} (hn : zs.length = n) (h2 : 2 ≤ n) {i m : Nat} (hi : i < n) (hm : i + 1 + m ≤ n) :
    (clJ (Dp zs) i (clI (Dp zs) n i) m).1 < (clJ (Dp zs) i (clI (Dp zs) n i) m).2 ∧ (clJ (Dp zs) i (clI (Dp zs) n i) m).2 < n :=
  clJ_lt _ n i _ (clI_lt _ n h2 i (by omega)) m hm
theorem tk_at {zs : List P3} {k : Nat} (h : k < zs.length) : ∃ za zc, zs[k]? = some (za, tkP zs k, zc) := by
  obtain ⟨⟨za, zb, zc⟩, hz⟩ := some_at h
  exact ⟨za, zc, by rw [tkP_at hz]; exact hz⟩
theorem Dp_is (zs : List P3) (i j : Nat) : Dp zs i j = ((tkP zs i - tkP zs j).natAbs : Int) := rfl

def clK (D : Nat → Nat → Int) (i : Nat) (s : Nat × Nat) (j : Nat) : Nat × Nat := clJ D i s (j - (i + 1))
theorem clK_start (D : Nat → Nat → Int) (i : Nat) (s : Nat × Nat) : clK D i s (i + 1) = s := by unfold clK; rw [Nat.sub_self]; rfl
theorem clK_succ (D : Nat → Nat → Int) (i : Nat) (s : Nat × Nat) (j : Nat) (h : i + 1 ≤ j) : clK D i s (j + 1) = if D i j < D (clK D i s j).1 (clK D i s j).2 then (i, j) else clK D i s j := by
  unfold clK
  rw [show j + 1 - (i + 1) = j - (i + 1) + 1 by omega, clJ_succ, show i + 1 + (j - (i + 1)) = j by omega]
theorem clK_end (D : Nat → Nat → Int) (n i : Nat) : clI D n (i + 1) = clK D i (clI D n i) n := rfl

set_option maxRecDepth 100000 in
set_option maxHeartbeats 4000000 in
theorem ct_spec (A : Option Addr) (n c : Nat) (zs : List P3) (w : World) (hn : zs.length = n) (hN : n ≤ 16777216) (hA : Reads w w.heap.size A (cells3 zs)) :
    Calls Try.prog 31 #[.slice A n c] w fun e w' => e = .returned (.tuple #[.int .i64 (ctA zs), .int .i64 (ctB zs), .int .i64 (ctE zs)]) ∧ Gr w w' := by
  have HL := Lib.hid hn
  have HA := Lib.hid hA
  have HC := Lib.hid (tkcode_spec A n c zs w hn hN hA)
  clear hA
  rcases ct_cases zs with ⟨h1, h2, h3, h4⟩ | ⟨h1, h5, h2, h3, h4⟩ | ⟨h1, h5, h2, h3, h4⟩
  · rw [h2, h3, h4]
    clear h2 h3 h4 hn
    generalize tkE zs true = cd at *
    have hc0 : (cd == 0) = false := by simpa using h1
    go_enter Try.func31, Try.ntmps31
    go_wp2_with (go_at_call 56; refine (HC.out).mono ?_; rintro e w' ⟨rfl, rfl⟩)
    ((try simp only [Exit.inBlock, Exit.then]); refine bodyPost_ret (v := .tuple #[.int .i64 0, .int .i64 0, .int .i64 cd]) (by simp [results, Try.results31, go_sem]) rfl ?_)
    exact ⟨rfl, Gr.refl _⟩
  · rw [h2, h3, h4]
    rw [h1] at HC
    have hlt2 : n < 2 := by omega
    clear h1 h2 h3 h4 h5 hn
    go_enter Try.func31, Try.ntmps31
    go_wp2_with (go_at_call 56; refine (HC.out).mono ?_; rintro e w' ⟨rfl, rfl⟩)
    ((try simp only [Exit.inBlock, Exit.then]); refine bodyPost_ret (v := .tuple #[.int .i64 0, .int .i64 0, .int .i64 4]) (by simp [results, Try.results31, go_sem]) rfl ?_)
    exact ⟨rfl, Gr.refl _⟩
  rw [h2, h3, h4, hn]
  rw [h1] at HC
  rw [hn] at h5
  obtain ⟨-, -, hP, -⟩ := tkE_zero h1
  have HP := Lib.hid (tkP_bd hP)
  clear h1 h2 h3 h4 hn hP
  obtain ⟨a0, c0, z0⟩ := tk_at (zs := zs) (k := 0) (by rw [HL.out]; omega)
  obtain ⟨a1, c1, z1⟩ := tk_at (zs := zs) (k := 1) (by rw [HL.out]; omega)
  obtain ⟨g, o, rfl, hg, -, x0, -⟩ := HA.out.at3 z0
  obtain ⟨g2, o2, eg, -, -, x1, -⟩ := HA.out.at3 z1
  injection eg with eg
  injection eg with eg1 eg2
  subst eg1 eg2
  simp only [Nat.zero_mul, Nat.one_mul, Nat.add_zero] at x0 x1
  have n0 : 0 < n := by omega
  have n1 : 1 < n := by omega
  have n1' : (1 : Int) < (n : Int) := by omega
  have n2 : decide ((n : Int) < 2) = false := decide_eq_false (by omega)
  have b0 := HP.out 0
  have b1 := HP.out 1
  have HD := Lib.hid (show Dp zs 0 1 = ((tkP zs 0 - tkP zs 1).natAbs : Int) from rfl)
  generalize tkP zs 0 = p0 at *
  generalize tkP zs 1 = p1 at *
  have hw1 : IntKind.i64.wrap (p0 - p1) = p0 - p1 := IntWalk.i64_in _ (by omega)
  have HA1 := Lib.hid (fun W => abs_any (p0 - p1) W (by omega) (by omega))
  rw [← HD.out] at HA1
  clear z0 z1 HD
  go_enter Try.func31, Try.ntmps31
  go_wp2_with (go_at_call 56; refine (HC.out).mono ?_; rintro e w' ⟨rfl, rfl⟩)
  ((first | refine region_gr_on (by kernel_rfl) (by kernel_rfl) ?_ | refine region_gr (by kernel_rfl) (by kernel_rfl) ?_); (repeat (quiet_step (exact Calls.gr_same (HA1.out _)))); refine wpQuiet_nil ?_; intro _ hw'; obtain ⟨⟨kq, oq⟩, hw''⟩ := hw'; subst hw'')
  clear x0 x1 b0 b1 hw1 HA1
  go_wp2
  go_loopw [6, 7, 8, 9] (fun a b l i wr => ∃ k : Nat, k ≤ n ∧ i = .int .i64 k ∧ a = .int .i64 ((clI (Dp zs) n k).1 : Int) ∧ b = .int .i64 ((clI (Dp zs) n k).2 : Int) ∧ l = .int .i64 (Dp zs (clI (Dp zs) n k).1 (clI (Dp zs) n k).2) ∧ Gr w wr) (fun _ _ _ i _ => n - (intOf i).toNat)
  case atStart => exact ⟨0, by omega, rfl, rfl, rfl, rfl, (by repeat (first | with_reducible exact Gr.refl _ | with_reducible refine Gr.alloc ?_ _ | with_reducible refine Gr.gr ?_ _ _ | with_reducible refine Gr.drew ?_ | with_reducible refine Gr.drewN ?_ _))⟩
  case round =>
    obtain ⟨k, hk, rfl, rfl, rfl, rfl, hG⟩ := hrel
    by_cases hlt : k < n
    · have HK := Lib.hid (clK_end (Dp zs) n k)
      generalize clI (Dp zs) n k = s at *
      go_wp2
      go_loopw [6, 7, 8, 10] (fun a b l i wr => ∃ m : Nat, k + 1 ≤ m ∧ m ≤ n ∧ i = .int .i64 m ∧ a = .int .i64 ((clK (Dp zs) k s m).1 : Int) ∧ b = .int .i64 ((clK (Dp zs) k s m).2 : Int) ∧ l = .int .i64 (Dp zs (clK (Dp zs) k s m).1 (clK (Dp zs) k s m).2) ∧ Gr w wr) (fun _ _ _ i _ => n - (intOf i).toNat)
      case atStart => exact ⟨k + 1, by omega, by omega, by simp, by rw [clK_start], by rw [clK_start], by rw [clK_start], hG⟩
      case round =>
        obtain ⟨m, hm0, hm, rfl, rfl, rfl, rfl, hG⟩ := hrel
        by_cases hlt2 : m < n
        · have HS := Lib.hid (clK_succ (Dp zs) k s m hm0)
          have HJ := Lib.hid (Dp_is zs k m)
          obtain ⟨ak, ck, zk⟩ := tk_at (zs := zs) (k := k) (by rw [HL.out]; exact hlt)
          obtain ⟨aj, cj, zj⟩ := tk_at (zs := zs) (k := m) (by rw [HL.out]; exact hlt2)
          have bk := HP.out k
          have bj := HP.out m
          obtain ⟨g2, o2, eg, hg2, -, x0, -⟩ := (HA.out.gr hG).at3 zk
          obtain ⟨g3, o3, eg3, -, -, x1, -⟩ := (HA.out.gr hG).at3 zj
          injection eg with eg
          injection eg with eg1 eg2
          subst eg1 eg2
          injection eg3 with eg3
          injection eg3 with eg1 eg2
          subst eg1 eg2
          simp only at x0 x1
          generalize clK (Dp zs) k s m = r at *
          obtain ⟨ra, rb⟩ := r
          simp only at HS ⊢
          generalize tkP zs k = pk at *
          generalize tkP zs m = pj at *
          generalize hdr : Dp zs ra rb = dr at *
          have HDr := Lib.hid hdr
          clear hdr
          have hw1 : IntKind.i64.wrap (pk - pj) = pk - pj := IntWalk.i64_in _ (by omega)
          have HA1 := Lib.hid (fun W => abs_any (pk - pj) W (by omega) (by omega))
          rw [← HJ.out] at HA1
          have HG := Lib.hid hG
          clear zk zj hG HJ
          generalize hdk : Dp zs k m = dk at *
          have HDk := Lib.hid hdk
          clear hdk
          go_wp2
          ((first | refine region_gr_on (by kernel_rfl) (by kernel_rfl) ?_ | refine region_gr (by kernel_rfl) (by kernel_rfl) ?_); (repeat (quiet_step (exact Calls.gr_same (HA1.out _)))); refine wpQuiet_nil ?_; intro _ hw'; obtain ⟨⟨kq, oq⟩, hw''⟩ := hw'; subst hw'')
          by_cases hcc : dk < dr
          · rw [if_pos hcc] at HS
            go_wp2
            go_roundw
            case rel => exact ⟨m + 1, by omega, by omega, by go_num, by rw [HS.out], by rw [HS.out], by rw [HS.out]; exact (congrArg (Value.int IntKind.i64) HDk.out).symm, HG.out.trans (by repeat (first | with_reducible exact Gr.refl _ | with_reducible refine Gr.alloc ?_ _ | with_reducible refine Gr.gr ?_ _ _ | with_reducible refine Gr.drew ?_ | with_reducible refine Gr.drewN ?_ _))⟩
            case measure => simp [intOf]; omega
          · rw [if_neg hcc] at HS
            go_wp2
            go_roundw
            case rel => exact ⟨m + 1, by omega, by omega, by go_num, by rw [HS.out], by rw [HS.out], by rw [HS.out]; exact (congrArg (Value.int IntKind.i64) HDr.out).symm, HG.out.trans (by repeat (first | with_reducible exact Gr.refl _ | with_reducible refine Gr.alloc ?_ _ | with_reducible refine Gr.gr ?_ _ _ | with_reducible refine Gr.drew ?_ | with_reducible refine Gr.drewN ?_ _))⟩
            case measure => simp [intOf]; omega
        · obtain rfl : m = n := by omega
          have HE := Lib.hid HK.out
          go_wp2
          go_roundw
          case rel => exact ⟨k + 1, by omega, by go_num, by rw [HE.out], by rw [HE.out], by rw [HE.out], hG⟩
          case measure => simp [intOf]; omega
    · obtain rfl : k = n := by omega
      go_wp2
      ((try simp only [Exit.inBlock, Exit.then]); refine bodyPost_ret (v := .tuple #[.int .i64 ((clI (Dp zs) k k).1 : Int), .int .i64 ((clI (Dp zs) k k).2 : Int), .int .i64 0]) (by simp [results, Try.results31, go_sem]) rfl ?_)
      exact ⟨rfl, hG⟩
theorem distT_any (a b c x y z : Int) (w : World) (b1 : -1000000000000 ≤ b ∧ b ≤ 1000000000000) (y1 : -1000000000000 ≤ y ∧ y ≤ 1000000000000) :
    Calls Try.prog 58 #[.agg #[.int .i64 a, .int .i64 b, .int .i64 c], .agg #[.int .i64 x, .int .i64 y, .int .i64 z]] w fun e w' => e = .returned (.int .i64 ((b - y).natAbs : Int)) ∧ Gr w w' := by
  have HD := Lib.hid (fun W => distance_any b y W (by omega) (by omega) (by omega) (by omega))
  go_enter Try.func58, Try.ntmps58
  go_wp2_with (go_at_call 51; refine (HD.out _).mono ?_; rintro e w' ⟨rfl, rfl⟩)
  ((try simp only [Exit.inBlock, Exit.then]); refine bodyPost_ret (v := .int .i64 ((b - y).natAbs : Int)) (by simp [results, Try.results58, go_sem]) rfl ?_)
  exact ⟨rfl, (by repeat (first | with_reducible exact Gr.refl _ | with_reducible refine Gr.alloc ?_ _ | with_reducible refine Gr.gr ?_ _ _ | with_reducible refine Gr.drew ?_ | with_reducible refine Gr.drewN ?_ _))⟩

set_option maxRecDepth 100000 in
set_option maxHeartbeats 4000000 in
theorem ct_impl (A : Option Addr) (n c : Nat) (zs : List P3) (w : World) (hn : zs.length = n) (hN : n ≤ 16777216) (hA : Reads w w.heap.size A (cells3 zs)) :
    Calls Try.prog 30 #[.slice A n c] w fun e w' => e = .returned (.tuple #[.int .i64 (ctA zs), .int .i64 (ctB zs), .int .i64 (ctE zs)]) ∧ Gr w w' := by
  have HL := Lib.hid hn
  have HA := Lib.hid hA
  have HC := Lib.hid (tkcode_impl A none n c 0 0 zs [] w hn hN hA rfl (by omega) (Reads.nil _ _ _))
  rw [show allv [] = true from rfl] at HC
  clear hA
  rcases ct_cases zs with ⟨h1, h2, h3, h4⟩ | ⟨h1, h5, h2, h3, h4⟩ | ⟨h1, h5, h2, h3, h4⟩
  · rw [h2, h3, h4]
    clear h2 h3 h4 hn
    generalize tkE zs true = cd at *
    have hc0 : (cd == 0) = false := by simpa using h1
    go_enter Try.func30, Try.ntmps30
    go_wp2_with (go_at_call 55; refine (HC.out).mono ?_; rintro e w' ⟨rfl, kk, os, rfl⟩)
    ((try simp only [Exit.inBlock, Exit.then]); refine bodyPost_ret (v := .tuple #[.int .i64 0, .int .i64 0, .int .i64 cd]) (by simp [results, Try.results30, go_sem]) rfl ?_)
    exact ⟨rfl, (by repeat (first | with_reducible exact Gr.refl _ | with_reducible refine Gr.alloc ?_ _ | with_reducible refine Gr.gr ?_ _ _ | with_reducible refine Gr.drew ?_ | with_reducible refine Gr.drewN ?_ _))⟩
  · rw [h2, h3, h4]
    rw [h1] at HC
    have hlt2 : n < 2 := by omega
    clear h1 h2 h3 h4 h5 hn
    go_enter Try.func30, Try.ntmps30
    go_wp2_with (go_at_call 55; refine (HC.out).mono ?_; rintro e w' ⟨rfl, kk, os, rfl⟩)
    ((try simp only [Exit.inBlock, Exit.then]); refine bodyPost_ret (v := .tuple #[.int .i64 0, .int .i64 0, .int .i64 4]) (by simp [results, Try.results30, go_sem]) rfl ?_)
    exact ⟨rfl, (by repeat (first | with_reducible exact Gr.refl _ | with_reducible refine Gr.alloc ?_ _ | with_reducible refine Gr.gr ?_ _ _ | with_reducible refine Gr.drew ?_ | with_reducible refine Gr.drewN ?_ _))⟩
  rw [h2, h3, h4, hn]
  rw [h1] at HC
  rw [hn] at h5
  obtain ⟨-, -, hP, -⟩ := tkE_zero h1
  have HP := Lib.hid (tkP_bd hP)
  have HI0 := Lib.hid (fun (i : Nat) (hi : i ≤ n) => clI_lt (Dp zs) n h5 i hi)
  have HI := Lib.hid (fun (i m : Nat) (hi : i < n) (hm : i + 1 + m ≤ n) => cl_in hn h5 hi hm)
  have n2 : decide ((n : Int) < 2) = false := decide_eq_false (by omega)
  clear h1 h2 h3 h4 hn hP
  go_enter Try.func30, Try.ntmps30
  go_wp2_with (go_at_call 55; refine (HC.out).mono ?_; rintro e w' ⟨rfl, kk, os, rfl⟩)
  go_loopw [6, 7, 21] (fun a b i wr => ∃ k : Nat, k ≤ n ∧ i = .int .i64 k ∧ a = .int .i64 ((clI (Dp zs) n k).1 : Int) ∧ b = .int .i64 ((clI (Dp zs) n k).2 : Int) ∧ Gr w wr) (fun _ _ i _ => n - (intOf i).toNat)
  case atStart => exact ⟨0, by omega, rfl, rfl, rfl, (by repeat (first | with_reducible exact Gr.refl _ | with_reducible refine Gr.alloc ?_ _ | with_reducible refine Gr.gr ?_ _ _ | with_reducible refine Gr.drew ?_ | with_reducible refine Gr.drewN ?_ _))⟩
  case round =>
    obtain ⟨k, hk, rfl, rfl, rfl, hG⟩ := hrel
    by_cases hlt : k < n
    · have HK := Lib.hid (clK_end (Dp zs) n k)
      have HKI := Lib.hid (fun (m : Nat) (h1 : k + 1 ≤ m) (h2 : m ≤ n) => show (clK (Dp zs) k (clI (Dp zs) n k) m).1 < (clK (Dp zs) k (clI (Dp zs) n k) m).2 ∧ (clK (Dp zs) k (clI (Dp zs) n k) m).2 < n from HI.out k (m - (k + 1)) hlt (by omega))
      generalize clI (Dp zs) n k = s at *
      obtain ⟨ak, ck, zk⟩ := tk_at (zs := zs) (k := k) (by rw [HL.out]; exact hlt)
      have bk := HP.out k
      obtain ⟨g, o, rfl, hg, x0, x1, x2⟩ := (HA.out.gr hG).at3 zk
      have HDk := Lib.hid (fun m => Dp_is zs k m)
      simp only at x0 x1 x2
      generalize hpk : tkP zs k = pk at *
      clear hpk zk
      have HG := Lib.hid hG
      have hsz : wr.heap.size < wr.heap.size + 1 := by omega
      have HX := Lib.hid (Gr.trans hG ((Gr.refl wr).alloc (.cells #[vi ak, vi pk, vi ck] 51)))
      have y0 : (wr.alloc (.cells #[vi ak, vi pk, vi ck] 51)).cell? ⟨wr.heap.size, 0, none⟩ = some (vi ak) := by simp
      have y1 : (wr.alloc (.cells #[vi ak, vi pk, vi ck] 51)).cell? ⟨wr.heap.size, 1, none⟩ = some (vi pk) := by simp
      have y2 : (wr.alloc (.cells #[vi ak, vi pk, vi ck] 51)).cell? ⟨wr.heap.size, 2, none⟩ = some (vi ck) := by simp
      have hwl : wr.heap.size < (wr.alloc (.cells #[vi ak, vi pk, vi ck] 51)).heap.size := by simp
      clear hG
      go_wp2
      generalize wr.alloc (.cells #[vi ak, vi pk, vi ck] 51) = w1 at *
      generalize wr.heap.size = tb at *
      clear x0 x1 x2 hg hsz HG
      go_loopw [6, 7, 10] (fun a b i wr2 => ∃ m : Nat, k + 1 ≤ m ∧ m ≤ n ∧ i = .int .i64 m ∧ a = .int .i64 ((clK (Dp zs) k s m).1 : Int) ∧ b = .int .i64 ((clK (Dp zs) k s m).2 : Int) ∧ Gr w1 wr2) (fun _ _ i _ => n - (intOf i).toNat)
      case atStart => exact ⟨k + 1, by omega, by omega, by simp, by rw [clK_start], by rw [clK_start], Gr.refl _⟩
      case round =>
        obtain ⟨m, hm0, hm, rfl, rfl, rfl, hG2⟩ := hrel
        obtain ⟨k0, os0, rfl⟩ := hG2
        by_cases hlt2 : m < n
        · have HS := Lib.hid (clK_succ (Dp zs) k s m hm0)
          have hr := HKI.out m hm0 hm
          generalize clK (Dp zs) k s m = r at *
          obtain ⟨ra, rb⟩ := r
          simp only at HS hr ⊢
          obtain ⟨aj, cj, zj⟩ := tk_at (zs := zs) (k := m) (by rw [HL.out]; exact hlt2)
          obtain ⟨au, cu, zu⟩ := tk_at (zs := zs) (k := ra) (by rw [HL.out]; omega)
          obtain ⟨av, cv, zv⟩ := tk_at (zs := zs) (k := rb) (by rw [HL.out]; omega)
          have bj := HP.out m
          have bu := HP.out ra
          have bv := HP.out rb
          obtain ⟨g3, o3, eg3, hg3, j0, j1, j2⟩ := (HA.out.gr HX.out).at3 zj
          injection eg3 with eg3
          injection eg3 with eg1 eg2
          subst eg1 eg2
          obtain ⟨g3, o3, eg3, -, u0, u1, u2⟩ := (HA.out.gr HX.out).at3 zu
          injection eg3 with eg3
          injection eg3 with eg1 eg2
          subst eg1 eg2
          obtain ⟨g3, o3, eg3, -, v0, v1, v2⟩ := (HA.out.gr HX.out).at3 zv
          injection eg3 with eg3
          injection eg3 with eg1 eg2
          subst eg1 eg2
          simp only at j0 j1 j2 u0 u1 u2 v0 v1 v2
          have HE1 := Lib.hid (HDk.out m)
          have HE2 := Lib.hid (Dp_is zs ra rb)
          clear zj zu zv
          generalize tkP zs m = pj at *
          generalize tkP zs ra = pu at *
          generalize tkP zs rb = pv at *
          have HF1 := Lib.hid (fun W => distT_any ak pk ck aj pj cj W bk bj)
          have HF2 := Lib.hid (fun W => distT_any au pu cu av pv cv W bu bv)
          rw [← HE1.out] at HF1
          rw [← HE2.out] at HF2
          clear HE1 HE2 bj bu bv
          generalize hdr : Dp zs ra rb = dr at *
          generalize hdk : Dp zs k m = dk at *
          have hra : ra < n := by omega
          have hrb : rb < n := by omega
          clear hdr hdk hr
          go_wp2
          ((first | refine region_gr_on (by kernel_rfl) (by kernel_rfl) ?_ | refine region_gr (by kernel_rfl) (by kernel_rfl) ?_); (repeat (quiet_step (first | with_reducible exact Calls.gr_of (HF1.out _) | with_reducible exact Calls.gr_of (HF2.out _)))); refine wpQuiet_nil ?_; intro _ hw'; obtain ⟨⟨kq, oq⟩, hw''⟩ := hw'; subst hw'')
          by_cases hcc : dk < dr
          · rw [if_pos hcc] at HS
            go_wp2
            go_roundw
            case rel => exact ⟨m + 1, by omega, by omega, by go_num, by rw [HS.out], by rw [HS.out], (by repeat (first | with_reducible exact Gr.refl _ | with_reducible refine Gr.alloc ?_ _ | with_reducible refine Gr.gr ?_ _ _ | with_reducible refine Gr.drew ?_ | with_reducible refine Gr.drewN ?_ _))⟩
            case measure => simp [intOf]; omega
          · rw [if_neg hcc] at HS
            go_wp2
            go_roundw
            case rel => exact ⟨m + 1, by omega, by omega, by go_num, by rw [HS.out], by rw [HS.out], (by repeat (first | with_reducible exact Gr.refl _ | with_reducible refine Gr.alloc ?_ _ | with_reducible refine Gr.gr ?_ _ _ | with_reducible refine Gr.drew ?_ | with_reducible refine Gr.drewN ?_ _))⟩
            case measure => simp [intOf]; omega
        · obtain rfl : m = n := by omega
          have HE := Lib.hid HK.out
          go_wp2
          go_roundw
          case rel => exact ⟨k + 1, by omega, by go_num, by rw [HE.out], by rw [HE.out], HX.out.gr _ _⟩
          case measure => simp [intOf]; omega
    · obtain rfl : k = n := by omega
      go_wp2
      ((try simp only [Exit.inBlock, Exit.then]); refine bodyPost_ret (v := .tuple #[.int .i64 ((clI (Dp zs) k k).1 : Int), .int .i64 ((clI (Dp zs) k k).2 : Int), .int .i64 0]) (by simp [results, Try.results30, go_sem]) rfl ?_)
      exact ⟨rfl, hG⟩
end Go.Proofs.Ytggflladheemoaa
