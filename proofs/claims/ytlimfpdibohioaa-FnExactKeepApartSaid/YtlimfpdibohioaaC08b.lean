/- Contracts of chapter 8: the code of ticks, the nearest one, how many between two bounds. -/
import Derived.Test.YtlimfpdibohioaaC08a
import Derived.Test.YtlimfpdibohioaaC01b
import Derived.BigQuiet
namespace Go.Proofs.Ytlimfpdibohioaa
open Go.RowKit
set_option linter.unusedVariables false
set_option linter.unusedSimpArgs false

theorem tkcode_spec (A : Option Addr) (n c : Nat) (zs : List P3) (w : World) (hn : zs.length = n) (hN : n ≤ 16777216) (hA : Reads w w.heap.size A (cells3 zs)) :
    Calls Try.prog 56 #[.slice A n c] w fun e w' => e = .returned (.int .i64 (tkE zs true)) ∧ w = w' := by
  have HL := Lib.hid hn
  have HA := Lib.hid hA
  clear hA
  by_cases hb : 150 < n
  · have HE := Lib.hid (show tkE zs true = 3 by unfold tkE; rw [if_pos (by omega)])
    clear hn
    go_enter Try.func56, Try.ntmps56
    go_wp2
    go_ret
    exact ⟨ret_int HE.out.symm, rfl⟩
  have HE := Lib.hid (show tkE zs true = if allP zs = true then 0 else 2 by unfold tkE; rw [if_neg (by omega)]; simp)
  clear hn
  go_enter Try.func56, Try.ntmps56
  go_wp2
  go_loop [3] (fun i => ∃ k : Nat, k ≤ n ∧ i = .int .i64 k ∧ Hid (allP (zs.take k) = true)) (fun i => n - (intOf i).toNat)
  case atStart => exact ⟨0, by omega, rfl, Lib.hid (by simp [allP])⟩
  case round =>
    obtain ⟨k, hk, rfl, ha⟩ := hrel
    by_cases hlt : k < n
    · obtain ⟨z, hz⟩ := some_at (l := zs) (k := k) (by rw [HL.out]; exact hlt)
      obtain ⟨g, o, rfl, hg, x0, x1, x2⟩ := HA.out.at3 hz
      have HZ := Lib.hid hz
      clear hz
      by_cases hv : vl z.2.1 = true
      · have HV := Lib.hid hv
        clear hv
        go_wp2_with (go_at_call 57; refine (is_any _ _).mono ?_; rw [HV.out]; rintro e w' ⟨rfl, rfl⟩)
        go_round
        case rel => exact ⟨k + 1, by omega, by go_num, Lib.hid (allP_take HZ.out ha.out HV.out)⟩
        case measure => simp [intOf]; omega
      · have HV := Lib.hid (show vl z.2.1 = false by cases h : vl z.2.1 <;> simp_all)
        clear hv
        have HQ := Lib.hid (show tkE zs true = 2 by rw [HE.out, if_neg (by rw [allP_bad HZ.out HV.out]; simp)])
        go_wp2_with (go_at_call 57; refine (is_any _ _).mono ?_; rw [HV.out]; rintro e w' ⟨rfl, rfl⟩)
        go_ret
        exact ⟨ret_int HQ.out.symm, rfl⟩
    · obtain rfl : k = n := by omega
      have HF := Lib.hid (show zs.take k = zs from List.take_of_length_le (by rw [HL.out]; omega))
      have HQ := Lib.hid (show tkE zs true = 0 by rw [HE.out, if_pos (by rw [← HF.out]; exact ha.out)])
      go_wp2
      go_ret
      exact ⟨ret_int HQ.out.symm, rfl⟩

theorem tkcode_impl (A B : Option Addr) (n c m d : Nat) (zs : List P3) (ps : List Int) (w : World) (hn : zs.length = n) (hN : n ≤ 16777216) (hA : Reads w w.heap.size A (cells3 zs)) (hm : ps.length = m) (hM : m ≤ 16777216) (hB : Reads w w.heap.size B (ps.map vi)) :
    Calls Try.prog 55 #[.slice A n c, .slice B m d] w fun e w' => e = .returned (.int .i64 (tkE zs (allv ps))) ∧ Gr w w' := by
  have HL := Lib.hid hn
  have HA := Lib.hid hA
  have HV := Lib.hid (areValues_any B m d ps w hm hM hB)
  clear hA hm hB
  by_cases hb : 150 < n
  · have HE := Lib.hid (show tkE zs (allv ps) = 3 by unfold tkE; rw [if_pos (by omega)])
    clear hn
    go_enter Try.func55, Try.ntmps55
    go_wp2
    go_ret
    exact ⟨ret_int HE.out.symm, Gr.refl _⟩
  have HE := Lib.hid (show tkE zs (allv ps) = if (allv ps && allP zs) = true then 0 else 2 by unfold tkE; rw [if_neg (by omega)])
  clear hn
  rcases Bool.eq_false_or_eq_true (allv ps) with hq | hq
  rotate_left
  · have HQ := Lib.hid (show tkE zs (allv ps) = 2 by rw [HE.out, hq]; rfl)
    rw [hq] at HV
    clear hq
    go_enter Try.func55, Try.ntmps55
    go_wp2_with (go_at_call 68; refine (HV.out).mono ?_; rintro e w' ⟨rfl, rfl⟩)
    go_ret
    exact ⟨ret_int HQ.out.symm, Gr.refl _⟩
  have HE2 := Lib.hid (show tkE zs (allv ps) = if allP zs = true then 0 else 2 by rw [HE.out, hq, Bool.true_and])
  rw [hq] at HV
  clear hq HE
  go_enter Try.func55, Try.ntmps55
  go_wp2_with (go_at_call 68; refine (HV.out).mono ?_; rintro e w' ⟨rfl, rfl⟩)
  go_loopw [15] (fun i wr => ∃ k : Nat, k ≤ n ∧ i = .int .i64 k ∧ Hid (allP (zs.take k) = true) ∧ Gr w wr) (fun i _ => n - (intOf i).toNat)
  case atStart => exact ⟨0, by omega, rfl, Lib.hid (by simp [allP]), Gr.refl _⟩
  case round =>
    obtain ⟨k, hk, rfl, ha, hG⟩ := hrel
    by_cases hlt : k < n
    · obtain ⟨z, hz⟩ := some_at (l := zs) (k := k) (by rw [HL.out]; exact hlt)
      obtain ⟨g, o, rfl, hg, x0, x1, x2⟩ := (HA.out.gr hG).at3 hz
      have HZ := Lib.hid hz
      clear hz
      obtain ⟨za, zb, zc⟩ := z
      simp only at x0 x1 x2
      by_cases hv : vl zb = true
      · have HV := Lib.hid hv
        clear hv
        go_wp2_with (go_at_call 69; refine (isValue_any _ _).mono ?_; rw [HV.out]; rintro e w' ⟨rfl, rfl⟩)
        go_roundw
        case rel => exact ⟨k + 1, by omega, by go_num, Lib.hid (allP_take HZ.out ha.out HV.out), hG.trans (by repeat (first | with_reducible exact Gr.refl _ | with_reducible refine Gr.alloc ?_ _ | with_reducible refine Gr.gr ?_ _ _ | with_reducible refine Gr.drew ?_ | with_reducible refine Gr.drewN ?_ _))⟩
        case measure => simp [intOf]; omega
      · have HV := Lib.hid (show vl zb = false by cases h : vl zb <;> simp_all)
        clear hv
        have HQ := Lib.hid (show tkE zs (allv ps) = 2 by rw [HE2.out, if_neg (by rw [allP_bad HZ.out HV.out]; simp)])
        go_wp2_with (go_at_call 69; refine (isValue_any _ _).mono ?_; rw [HV.out]; rintro e w' ⟨rfl, rfl⟩)
        go_ret
        exact ⟨ret_int HQ.out.symm, hG.trans (by repeat (first | with_reducible exact Gr.refl _ | with_reducible refine Gr.alloc ?_ _ | with_reducible refine Gr.gr ?_ _ _ | with_reducible refine Gr.drew ?_ | with_reducible refine Gr.drewN ?_ _))⟩
    · obtain rfl : k = n := by omega
      have HF := Lib.hid (show zs.take k = zs from List.take_of_length_le (by rw [HL.out]; omega))
      have HQ := Lib.hid (show tkE zs (allv ps) = 0 by rw [HE2.out, if_pos (by rw [← HF.out]; exact ha.out)])
      go_wp2
      go_ret
      exact ⟨ret_int HQ.out.symm, hG⟩

/-- The answer of the nearest tick, by cases. -/
theorem nt_cases (zs : List P3) (p : Int) : (tkE zs (vl p) ≠ 0 ∧ ntE zs p = tkE zs (vl p) ∧ ntV zs p = 0) ∨ (tkE zs (vl p) = 0 ∧ zs.length = 0 ∧ ntE zs p = 4 ∧ ntV zs p = 0) ∨
    (tkE zs (vl p) = 0 ∧ 0 < zs.length ∧ ntE zs p = 0 ∧ ntV zs p = (argm (tkD zs p) zs.length : Int)) := by
  by_cases h : tkE zs (vl p) = 0
  · by_cases h2 : zs.length = 0
    · have e : ntE zs p = 4 := by unfold ntE; rw [if_pos h, if_pos h2]
      exact .inr (.inl ⟨h, h2, e, by unfold ntV; rw [if_neg (by omega)]⟩)
    · have e : ntE zs p = 0 := by unfold ntE; rw [if_pos h, if_neg h2]
      exact .inr (.inr ⟨h, by omega, e, by unfold ntV; rw [if_pos e]⟩)
  · have e : ntE zs p = tkE zs (vl p) := by unfold ntE; rw [if_neg h]
    exact .inl ⟨h, e, by unfold ntV; rw [if_neg (by omega)]⟩
theorem tkE_zero {zs : List P3} {q : Bool} (h : tkE zs q = 0) : zs.length ≤ 150 ∧ q = true ∧ allP zs = true ∧ tkE zs true = 0 := by
  rcases tkE_cases zs q with ⟨-, e⟩ | ⟨h1, rfl, h3, e⟩ | ⟨-, -, e⟩
  · omega
  · exact ⟨h1, rfl, h3, e⟩
  · omega

set_option maxRecDepth 100000 in
set_option maxHeartbeats 2000000 in
theorem nt_spec (A : Option Addr) (n c : Nat) (zs : List P3) (p : Int) (w : World) (hn : zs.length = n) (hN : n ≤ 16777216) (hA : Reads w w.heap.size A (cells3 zs)) :
    Calls Try.prog 25 #[.slice A n c, .int .i64 p] w fun e w' => e = .returned (.tuple #[.int .i64 (ntV zs p), .int .i64 (ntE zs p)]) ∧ Gr w w' := by
  have HL := Lib.hid hn
  have HA := Lib.hid hA
  have HC := Lib.hid (tkcode_spec A n c zs w hn hN hA)
  have HI := Lib.hid (is_any p)
  clear hA
  by_cases h0 : tkE zs true = 0
  rotate_left
  · have e1 := tkE_same zs (vl p) h0
    rcases nt_cases zs p with ⟨h1, h2, h3⟩ | ⟨h1, -⟩ | ⟨h1, -⟩
    rotate_left
    · exact absurd h1 (by rw [e1]; exact h0)
    · exact absurd h1 (by rw [e1]; exact h0)
    rw [h2, h3, e1]
    clear h1 h2 h3 e1
    generalize tkE zs true = cd at *
    have hc0 : (cd == 0) = false := by simpa using h0
    go_enter Try.func25, Try.ntmps25
    go_wp2_with (go_at_call 56; refine (HC.out).mono ?_; rintro e w' ⟨rfl, rfl⟩)
    ((try simp only [Exit.inBlock, Exit.then]); refine bodyPost_ret (v := .tuple #[.int .i64 0, .int .i64 cd]) (by simp [results, Try.results25, go_sem]) rfl ?_)
    exact ⟨rfl, Gr.refl _⟩
  rw [h0] at HC
  rcases Bool.eq_false_or_eq_true (vl p) with hv | hv
  rotate_left
  · rw [hv] at HI
    rcases nt_cases zs p with ⟨h1, h2, h3⟩ | ⟨h1, -⟩ | ⟨h1, -⟩
    rotate_left
    · rw [hv, tkE_false _ h0] at h1; omega
    · rw [hv, tkE_false _ h0] at h1; omega
    rw [h2, h3, hv, tkE_false _ h0]
    clear h0 h1 h2 h3 hv hn
    go_enter Try.func25, Try.ntmps25
    go_wp2_with (first | (go_at_call 56; with_reducible refine (HC.out).mono ?_; rintro e w' ⟨rfl, rfl⟩) | (go_at_call 57; with_reducible refine (HI.out _).mono ?_; rintro e w' ⟨rfl, rfl⟩))
    ((try simp only [Exit.inBlock, Exit.then]); refine bodyPost_ret (v := .tuple #[.int .i64 0, .int .i64 2]) (by simp [results, Try.results25, go_sem]) rfl ?_)
    exact ⟨rfl, Gr.refl _⟩
  rw [hv] at HI
  rcases nt_cases zs p with ⟨h1, -⟩ | ⟨-, h1, h2, h3⟩ | ⟨-, h1, h2, h3⟩
  · rw [hv] at h1; exact absurd h0 h1
  · rw [h2, h3]
    obtain rfl : n = 0 := by omega
    clear h0 h1 h2 h3 hv hn
    go_enter Try.func25, Try.ntmps25
    go_wp2_with (first | (go_at_call 56; with_reducible refine (HC.out).mono ?_; rintro e w' ⟨rfl, rfl⟩) | (go_at_call 57; with_reducible refine (HI.out _).mono ?_; rintro e w' ⟨rfl, rfl⟩))
    ((try simp only [Exit.inBlock, Exit.then]); refine bodyPost_ret (v := .tuple #[.int .i64 0, .int .i64 4]) (by simp [results, Try.results25, go_sem]) rfl ?_)
    exact ⟨rfl, Gr.refl _⟩
  rw [h2, h3, hn]
  have hn0 : 0 < n := by omega
  have hnz : ((n : Int) == 0) = false := by simp; omega
  obtain ⟨-, -, hP, -⟩ := tkE_zero h0
  have HP := Lib.hid (tkP_bd hP)
  have hp := (vl_iff p).1 hv
  clear h0 h1 h2 h3 hv hn hP
  go_enter Try.func25, Try.ntmps25
  go_wp2_with (first | (go_at_call 56; with_reducible refine (HC.out).mono ?_; rintro e w' ⟨rfl, rfl⟩) | (go_at_call 57; with_reducible refine (HI.out _).mono ?_; rintro e w' ⟨rfl, rfl⟩))
  go_loopw [7, 8] (fun b i wr => ∃ k : Nat, k ≤ n ∧ i = .int .i64 k ∧ b = .int .i64 (argm (tkD zs p) k : Int) ∧ Gr w wr) (fun _ i _ => n - (intOf i).toNat)
  case atStart => exact ⟨0, by omega, rfl, by simp [argm], Gr.refl _⟩
  case round =>
    obtain ⟨k, hk, rfl, rfl, hG⟩ := hrel
    by_cases hlt : k < n
    · obtain ⟨z, hz⟩ := some_at (l := zs) (k := k) (by rw [HL.out]; exact hlt)
      have hj : argm (tkD zs p) k < n := by
        rcases Nat.eq_zero_or_pos k with h | h
        · subst h; simpa [argm] using hn0
        · have := argm_lt (tkD zs p) k h; omega
      have HS := Lib.hid (argm_succ (tkD zs p) k)
      have e1 : tkD zs p k = ((z.2.1 - p).natAbs : Int) := by unfold tkD; rw [tkP_at hz]
      have b1 := HP.out k
      rw [tkP_at hz] at b1
      generalize argm (tkD zs p) k = j at *
      obtain ⟨y, hy⟩ := some_at (l := zs) (k := j) (by rw [HL.out]; exact hj)
      have e2 : tkD zs p j = ((y.2.1 - p).natAbs : Int) := by unfold tkD; rw [tkP_at hy]
      have b2 := HP.out j
      rw [tkP_at hy] at b2
      obtain ⟨g, o, rfl, hg, -, x1, -⟩ := (HA.out.gr hG).at3 hz
      obtain ⟨g2, o2, eg, -, -, y1, -⟩ := (HA.out.gr hG).at3 hy
      injection eg with eg
      injection eg with eg1 eg2
      subst eg1 eg2
      rw [e1, e2] at HS
      obtain ⟨za, zb, zc⟩ := z
      obtain ⟨ya, yb, yc⟩ := y
      simp only at *
      clear hz hy e1 e2
      have HD1 := Lib.hid (fun W => abs_any (zb - p) W (by omega) (by omega))
      have HD2 := Lib.hid (fun W => abs_any (yb - p) W (by omega) (by omega))
      have hw1 : IntKind.i64.wrap (zb - p) = zb - p := IntWalk.i64_in _ (by omega)
      have hw2 : IntKind.i64.wrap (yb - p) = yb - p := IntWalk.i64_in _ (by omega)
      have HG := Lib.hid hG
      clear hG
      go_wp2
      ((first | refine region_gr_on (by kernel_rfl) (by kernel_rfl) ?_ | refine region_gr (by kernel_rfl) (by kernel_rfl) ?_); (repeat (quiet_step (first | with_reducible exact Calls.gr_same (HD1.out _) | with_reducible exact Calls.gr_same (HD2.out _)))); refine wpQuiet_nil ?_; intro _ hw'; obtain ⟨⟨kq, oq⟩, hw''⟩ := hw'; subst hw'')
      by_cases hcc : ((zb - p).natAbs : Int) < ((yb - p).natAbs : Int)
      · rw [if_pos hcc] at HS
        go_wp2
        go_roundw
        case rel => exact ⟨k + 1, by omega, by go_num, by rw [HS.out], HG.out.trans (by repeat (first | with_reducible exact Gr.refl _ | with_reducible refine Gr.alloc ?_ _ | with_reducible refine Gr.gr ?_ _ _ | with_reducible refine Gr.drew ?_ | with_reducible refine Gr.drewN ?_ _))⟩
        case measure => simp [intOf]; omega
      · rw [if_neg hcc] at HS
        go_wp2
        go_roundw
        case rel => exact ⟨k + 1, by omega, by go_num, by rw [HS.out], HG.out.trans (by repeat (first | with_reducible exact Gr.refl _ | with_reducible refine Gr.alloc ?_ _ | with_reducible refine Gr.gr ?_ _ _ | with_reducible refine Gr.drew ?_ | with_reducible refine Gr.drewN ?_ _))⟩
        case measure => simp [intOf]; omega
    · obtain rfl : k = n := by omega
      go_wp2
      ((try simp only [Exit.inBlock, Exit.then]); refine bodyPost_ret (v := .tuple #[.int .i64 (argm (tkD zs p) k : Int), .int .i64 0]) (by simp [results, Try.results25, go_sem]) rfl ?_)
      exact ⟨rfl, hG⟩
end Go.Proofs.Ytlimfpdibohioaa
