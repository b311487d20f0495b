/- Contracts of chapter 8: the closest ticks. -/
import Derived.Test.YtlimfpdibohioaaC08c
namespace Go.Proofs.Ytlimfpdibohioaa
open Go.RowKit
set_option linter.unusedVariables false
set_option linter.unusedSimpArgs false

theorem ct_cases (zs : List P3) : (tkE zs true ≠ 0 ∧ ctE zs = tkE zs true ∧ ctA zs = 0 ∧ ctB zs = 0) ∨ (tkE zs true = 0 ∧ zs.length < 2 ∧ ctE zs = 4 ∧ ctA zs = 0 ∧ ctB zs = 0) ∨
    (tkE zs true = 0 ∧ 2 ≤ zs.length ∧ ctE zs = 0 ∧ ctA zs = ((clI (Dp zs) zs.length zs.length).1 : Int) ∧ ctB zs = ((clI (Dp zs) zs.length zs.length).2 : Int)) := by
  by_cases h : tkE zs true = 0
  · by_cases h2 : zs.length < 2
    · have e : ctE zs = 4 := by unfold ctE; rw [if_pos h, if_pos h2]
      exact .inr (.inl ⟨h, h2, e, by unfold ctA; rw [if_neg (by omega)], by unfold ctB; rw [if_neg (by omega)]⟩)
    · have e : ctE zs = 0 := by unfold ctE; rw [if_pos h, if_neg h2]
      exact .inr (.inr ⟨h, by omega, e, by unfold ctA; rw [if_pos e], by unfold ctB; rw [if_pos e]⟩)
  · have e : ctE zs = tkE zs true := by unfold ctE; rw [if_neg h]
    exact .inl ⟨h, e, by unfold ctA; rw [if_neg (by omega)], by unfold ctB; rw [if_neg (by omega)]⟩
/-- What the inner loop knows of the pair so far. -/
theorem cl_in {zs : List P3} {n : Nat} (hn : zs.length = n) (h2 : 2 ≤ n) {i m : Nat} (hi : i < n) (hm : i + 1 + m ≤ n) :
    (clJ (Dp zs) i (clI (Dp zs) n i) m).1 < (clJ (Dp zs) i (clI (Dp zs) n i) m).2 ∧ (clJ (Dp zs) i (clI (Dp zs) n i) m).2 < n :=
  clJ_lt _ n i _ (clI_lt _ n h2 i (by omega)) m hm
theorem tk_at {zs : List P3} {k : Nat} (h : k < zs.length) : ∃ za zc, zs[k]? = some (za, tkP zs k, zc) := by
  obtain ⟨⟨za, zb, zc⟩, hz⟩ := some_at h
  exact ⟨za, zc, by rw [tkP_at hz]; exact hz⟩
theorem Dp_is (zs : List P3) (i j : Nat) : Dp zs i j = ((tkP zs i - tkP zs j).natAbs : Int) := rfl

def clK (D : Nat → Nat → Int) (i : Nat) (s : Nat × Nat) (j : Nat) : Nat × Nat := clJ D i s (j - (i + 1))
theorem clK_start (D : Nat → Nat → Int) (i : Nat) (s : Nat × Nat) : clK D i s (i + 1) = s := by unfold clK; rw [Nat.sub_self]; rfl
theorem clK_succ (D : Nat → Nat → Int) (i : Nat) (s : Nat × Nat) (j : Nat) (h : i + 1 ≤ j) : clK D i s (j + 1) = if D i j < D (clK D i s j).1 (clK D i s j).2 then (i, j) else clK D i s j := by
  unfold clK
  rw [show j + 1 - (i + 1) = j - (i + 1) + 1 by omega, clJ_succ, show i + 1 + (j - (i + 1)) = j by omega]
theorem clK_end (D : Nat → Nat → Int) (n i : Nat) : clI D n (i + 1) = clK D i (clI D n i) n := rfl

set_option maxRecDepth 100000 in
set_option maxHeartbeats 4000000 in
theorem ct_spec (A : Option Addr) (n c : Nat) (zs : List P3) (w : World) (hn : zs.length = n) (hN : n ≤ 16777216) (hA : Reads w w.heap.size A (cells3 zs)) :
    Calls Try.prog 31 #[.slice A n c] w fun e w' => e = .returned (.tuple #[.int .i64 (ctA zs), .int .i64 (ctB zs), .int .i64 (ctE zs)]) ∧ Gr w w' := by
  have HL := Lib.hid hn
  have HA := Lib.hid hA
  have HC := Lib.hid (tkcode_spec A n c zs w hn hN hA)
  clear hA
  rcases ct_cases zs with ⟨h1, h2, h3, h4⟩ | ⟨h1, h5, h2, h3, h4⟩ | ⟨h1, h5, h2, h3, h4⟩
  · rw [h2, h3, h4]
    clear h2 h3 h4 hn
    generalize tkE zs true = cd at *
    have hc0 : (cd == 0) = false := by simpa using h1
    go_enter Try.func31, Try.ntmps31
    go_wp2_with (go_at_call 56; refine (HC.out).mono ?_; rintro e w' ⟨rfl, rfl⟩)
    ((try simp only [Exit.inBlock, Exit.then]); refine bodyPost_ret (v := .tuple #[.int .i64 0, .int .i64 0, .int .i64 cd]) (by simp [results, Try.results31, go_sem]) rfl ?_)
    exact ⟨rfl, Gr.refl _⟩
  · rw [h2, h3, h4]
    rw [h1] at HC
    have hlt2 : n < 2 := by omega
    clear h1 h2 h3 h4 h5 hn
    go_enter Try.func31, Try.ntmps31
    go_wp2_with (go_at_call 56; refine (HC.out).mono ?_; rintro e w' ⟨rfl, rfl⟩)
    ((try simp only [Exit.inBlock, Exit.then]); refine bodyPost_ret (v := .tuple #[.int .i64 0, .int .i64 0, .int .i64 4]) (by simp [results, Try.results31, go_sem]) rfl ?_)
    exact ⟨rfl, Gr.refl _⟩
  rw [h2, h3, h4, hn]
  rw [h1] at HC
  rw [hn] at h5
  obtain ⟨-, -, hP, -⟩ := tkE_zero h1
  have HP := Lib.hid (tkP_bd hP)
  clear h1 h2 h3 h4 hn hP
  obtain ⟨a0, c0, z0⟩ := tk_at (zs := zs) (k := 0) (by rw [HL.out]; omega)
  obtain ⟨a1, c1, z1⟩ := tk_at (zs := zs) (k := 1) (by rw [HL.out]; omega)
  obtain ⟨g, o, rfl, hg, -, x0, -⟩ := HA.out.at3 z0
  obtain ⟨g2, o2, eg, -, -, x1, -⟩ := HA.out.at3 z1
  injection eg with eg
  injection eg with eg1 eg2
  subst eg1 eg2
  simp only [Nat.zero_mul, Nat.one_mul, Nat.add_zero] at x0 x1
  have n0 : 0 < n := by omega
  have n1 : 1 < n := by omega
  have n1' : (1 : Int) < (n : Int) := by omega
  have n2 : decide ((n : Int) < 2) = false := decide_eq_false (by omega)
  have b0 := HP.out 0
  have b1 := HP.out 1
  have HD := Lib.hid (show Dp zs 0 1 = ((tkP zs 0 - tkP zs 1).natAbs : Int) from rfl)
  generalize tkP zs 0 = p0 at *
  generalize tkP zs 1 = p1 at *
  have hw1 : IntKind.i64.wrap (p0 - p1) = p0 - p1 := IntWalk.i64_in _ (by omega)
  have HA1 := Lib.hid (fun W => abs_any (p0 - p1) W (by omega) (by omega))
  rw [← HD.out] at HA1
  clear z0 z1 HD
  go_enter Try.func31, Try.ntmps31
  go_wp2_with (go_at_call 56; refine (HC.out).mono ?_; rintro e w' ⟨rfl, rfl⟩)
  ((first | refine region_gr_on (by kernel_rfl) (by kernel_rfl) ?_ | refine region_gr (by kernel_rfl) (by kernel_rfl) ?_); (repeat (quiet_step (exact Calls.gr_same (HA1.out _)))); refine wpQuiet_nil ?_; intro _ hw'; obtain ⟨⟨kq, oq⟩, hw''⟩ := hw'; subst hw'')
  clear x0 x1 b0 b1 hw1 HA1
  go_wp2
  go_loopw [6, 7, 8, 9] (fun a b l i wr => ∃ k : Nat, k ≤ n ∧ i = .int .i64 k ∧ a = .int .i64 ((clI (Dp zs) n k).1 : Int) ∧ b = .int .i64 ((clI (Dp zs) n k).2 : Int) ∧ l = .int .i64 (Dp zs (clI (Dp zs) n k).1 (clI (Dp zs) n k).2) ∧ Gr w wr) (fun _ _ _ i _ => n - (intOf i).toNat)
  case atStart => exact ⟨0, by omega, rfl, rfl, rfl, rfl, (by repeat (first | with_reducible exact Gr.refl _ | with_reducible refine Gr.alloc ?_ _ | with_reducible refine Gr.gr ?_ _ _ | with_reducible refine Gr.drew ?_ | with_reducible refine Gr.drewN ?_ _))⟩
  case round =>
    obtain ⟨k, hk, rfl, rfl, rfl, rfl, hG⟩ := hrel
    by_cases hlt : k < n
    · have HK := Lib.hid (clK_end (Dp zs) n k)
      generalize clI (Dp zs) n k = s at *
      go_wp2
      go_loopw [6, 7, 8, 10] (fun a b l i wr => ∃ m : Nat, k + 1 ≤ m ∧ m ≤ n ∧ i = .int .i64 m ∧ a = .int .i64 ((clK (Dp zs) k s m).1 : Int) ∧ b = .int .i64 ((clK (Dp zs) k s m).2 : Int) ∧ l = .int .i64 (Dp zs (clK (Dp zs) k s m).1 (clK (Dp zs) k s m).2) ∧ Gr w wr) (fun _ _ _ i _ => n - (intOf i).toNat)
      case atStart => exact ⟨k + 1, by omega, by omega, by simp, by rw [clK_start], by rw [clK_start], by rw [clK_start], hG⟩
      case round =>
        obtain ⟨m, hm0, hm, rfl, rfl, rfl, rfl, hG⟩ := hrel
        by_cases hlt2 : m < n
        · have HS := Lib.hid (clK_succ (Dp zs) k s m hm0)
          have HJ := Lib.hid (Dp_is zs k m)
          obtain ⟨ak, ck, zk⟩ := tk_at (zs := zs) (k := k) (by rw [HL.out]; exact hlt)
          obtain ⟨aj, cj, zj⟩ := tk_at (zs := zs) (k := m) (by rw [HL.out]; exact hlt2)
          have bk := HP.out k
          have bj := HP.out m
          obtain ⟨g2, o2, eg, hg2, -, x0, -⟩ := (HA.out.gr hG).at3 zk
          obtain ⟨g3, o3, eg3, -, -, x1, -⟩ := (HA.out.gr hG).at3 zj
          injection eg with eg
          injection eg with eg1 eg2
          subst eg1 eg2
          injection eg3 with eg3
          injection eg3 with eg1 eg2
          subst eg1 eg2
          simp only at x0 x1
          generalize clK (Dp zs) k s m = r at *
          obtain ⟨ra, rb⟩ := r
          simp only at HS ⊢
          generalize tkP zs k = pk at *
          generalize tkP zs m = pj at *
          generalize hdr : Dp zs ra rb = dr at *
          have HDr := Lib.hid hdr
          clear hdr
          have hw1 : IntKind.i64.wrap (pk - pj) = pk - pj := IntWalk.i64_in _ (by omega)
          have HA1 := Lib.hid (fun W => abs_any (pk - pj) W (by omega) (by omega))
          rw [← HJ.out] at HA1
          have HG := Lib.hid hG
          clear zk zj hG HJ
          generalize hdk : Dp zs k m = dk at *
          have HDk := Lib.hid hdk
          clear hdk
          go_wp2
          ((first | refine region_gr_on (by kernel_rfl) (by kernel_rfl) ?_ | refine region_gr (by kernel_rfl) (by kernel_rfl) ?_); (repeat (quiet_step (exact Calls.gr_same (HA1.out _)))); refine wpQuiet_nil ?_; intro _ hw'; obtain ⟨⟨kq, oq⟩, hw''⟩ := hw'; subst hw'')
          by_cases hcc : dk < dr
          · rw [if_pos hcc] at HS
            go_wp2
            go_roundw
            case rel => exact ⟨m + 1, by omega, by omega, by go_num, by rw [HS.out], by rw [HS.out], by rw [HS.out]; exact (congrArg (Value.int IntKind.i64) HDk.out).symm, HG.out.trans (by repeat (first | with_reducible exact Gr.refl _ | with_reducible refine Gr.alloc ?_ _ | with_reducible refine Gr.gr ?_ _ _ | with_reducible refine Gr.drew ?_ | with_reducible refine Gr.drewN ?_ _))⟩
            case measure => simp [intOf]; omega
          · rw [if_neg hcc] at HS
            go_wp2
            go_roundw
            case rel => exact ⟨m + 1, by omega, by omega, by go_num, by rw [HS.out], by rw [HS.out], by rw [HS.out]; exact (congrArg (Value.int IntKind.i64) HDr.out).symm, HG.out.trans (by repeat (first | with_reducible exact Gr.refl _ | with_reducible refine Gr.alloc ?_ _ | with_reducible refine Gr.gr ?_ _ _ | with_reducible refine Gr.drew ?_ | with_reducible refine Gr.drewN ?_ _))⟩
            case measure => simp [intOf]; omega
        · obtain rfl : m = n := by omega
          have HE := Lib.hid HK.out
          go_wp2
          go_roundw
          case rel => exact ⟨k + 1, by omega, by go_num, by rw [HE.out], by rw [HE.out], by rw [HE.out], hG⟩
          case measure => simp [intOf]; omega
    · obtain rfl : k = n := by omega
      go_wp2
      ((try simp only [Exit.inBlock, Exit.then]); refine bodyPost_ret (v := .tuple #[.int .i64 ((clI (Dp zs) k k).1 : Int), .int .i64 ((clI (Dp zs) k k).2 : Int), .int .i64 0]) (by simp [results, Try.results31, go_sem]) rfl ?_)
      exact ⟨rfl, hG⟩
theorem distT_any (a b c x y z : Int) (w : World) (b1 : -1000000000000 ≤ b ∧ b ≤ 1000000000000) (y1 : -1000000000000 ≤ y ∧ y ≤ 1000000000000) :
    Calls Try.prog 58 #[.agg #[.int .i64 a, .int .i64 b, .int .i64 c], .agg #[.int .i64 x, .int .i64 y, .int .i64 z]] w fun e w' => e = .returned (.int .i64 ((b - y).natAbs : Int)) ∧ Gr w w' := by
  have HD := Lib.hid (fun W => distance_any b y W (by omega) (by omega) (by omega) (by omega))
  go_enter Try.func58, Try.ntmps58
  go_wp2_with (go_at_call 51; refine (HD.out _).mono ?_; rintro e w' ⟨rfl, rfl⟩)
  ((try simp only [Exit.inBlock, Exit.then]); refine bodyPost_ret (v := .int .i64 ((b - y).natAbs : Int)) (by simp [results, Try.results58, go_sem]) rfl ?_)
  exact ⟨rfl, (by repeat (first | with_reducible exact Gr.refl _ | with_reducible refine Gr.alloc ?_ _ | with_reducible refine Gr.gr ?_ _ _ | with_reducible refine Gr.drew ?_ | with_reducible refine Gr.drewN ?_ _))⟩

set_option maxRecDepth 100000 in
set_option maxHeartbeats 4000000 in
theorem ct_impl (A : Option Addr) (n c : Nat) (zs : List P3) (w : World) (hn : zs.length = n) (hN : n ≤ 16777216) (hA : Reads w w.heap.size A (cells3 zs)) :
    Calls Try.prog 30 #[.slice A n c] w fun e w' => e = .returned (.tuple #[.int .i64 (ctA zs), .int .i64 (ctB zs), .int .i64 (ctE zs)]) ∧ Gr w w' := by
  have HL := Lib.hid hn
  have HA := Lib.hid hA
  have HC := Lib.hid (tkcode_impl A none n c 0 0 zs [] w hn hN hA rfl (by omega) (Reads.nil _ _ _))
  rw [show allv [] = true from rfl] at HC
  clear hA
  rcases ct_cases zs with ⟨h1, h2, h3, h4⟩ | ⟨h1, h5, h2, h3, h4⟩ | ⟨h1, h5, h2, h3, h4⟩
  · rw [h2, h3, h4]
    clear h2 h3 h4 hn
    generalize tkE zs true = cd at *
    have hc0 : (cd == 0) = false := by simpa using h1
    go_enter Try.func30, Try.ntmps30
    go_wp2_with (go_at_call 55; refine (HC.out).mono ?_; rintro e w' ⟨rfl, kk, os, rfl⟩)
    ((try simp only [Exit.inBlock, Exit.then]); refine bodyPost_ret (v := .tuple #[.int .i64 0, .int .i64 0, .int .i64 cd]) (by simp [results, Try.results30, go_sem]) rfl ?_)
    exact ⟨rfl, (by repeat (first | with_reducible exact Gr.refl _ | with_reducible refine Gr.alloc ?_ _ | with_reducible refine Gr.gr ?_ _ _ | with_reducible refine Gr.drew ?_ | with_reducible refine Gr.drewN ?_ _))⟩
  · rw [h2, h3, h4]
    rw [h1] at HC
    have hlt2 : n < 2 := by omega
    clear h1 h2 h3 h4 h5 hn
    go_enter Try.func30, Try.ntmps30
    go_wp2_with (go_at_call 55; refine (HC.out).mono ?_; rintro e w' ⟨rfl, kk, os, rfl⟩)
    ((try simp only [Exit.inBlock, Exit.then]); refine bodyPost_ret (v := .tuple #[.int .i64 0, .int .i64 0, .int .i64 4]) (by simp [results, Try.results30, go_sem]) rfl ?_)
    exact ⟨rfl, (by repeat (first | with_reducible exact Gr.refl _ | with_reducible refine Gr.alloc ?_ _ | with_reducible refine Gr.gr ?_ _ _ | with_reducible refine Gr.drew ?_ | with_reducible refine Gr.drewN ?_ _))⟩
  rw [h2, h3, h4, hn]
  rw [h1] at HC
  rw [hn] at h5
  obtain ⟨-, -, hP, -⟩ := tkE_zero h1
  have HP := Lib.hid (tkP_bd hP)
  have HI0 := Lib.hid (fun (i : Nat) (hi : i ≤ n) => clI_lt (Dp zs) n h5 i hi)
  have HI := Lib.hid (fun (i m : Nat) (hi : i < n) (hm : i + 1 + m ≤ n) => cl_in hn h5 hi hm)
  have n2 : decide ((n : Int) < 2) = false := decide_eq_false (by omega)
  clear h1 h2 h3 h4 hn hP
  go_enter Try.func30, Try.ntmps30
  go_wp2_with (go_at_call 55; refine (HC.out).mono ?_; rintro e w' ⟨rfl, kk, os, rfl⟩)
  go_loopw [6, 7, 21] (fun a b i wr => ∃ k : Nat, k ≤ n ∧ i = .int .i64 k ∧ a = .int .i64 ((clI (Dp zs) n k).1 : Int) ∧ b = .int .i64 ((clI (Dp zs) n k).2 : Int) ∧ Gr w wr) (fun _ _ i _ => n - (intOf i).toNat)
  case atStart => exact ⟨0, by omega, rfl, rfl, rfl, (by repeat (first | with_reducible exact Gr.refl _ | with_reducible refine Gr.alloc ?_ _ | with_reducible refine Gr.gr ?_ _ _ | with_reducible refine Gr.drew ?_ | with_reducible refine Gr.drewN ?_ _))⟩
  case round =>
    obtain ⟨k, hk, rfl, rfl, rfl, hG⟩ := hrel
    by_cases hlt : k < n
    · have HK := Lib.hid (clK_end (Dp zs) n k)
      have HKI := Lib.hid (fun (m : Nat) (h1 : k + 1 ≤ m) (h2 : m ≤ n) => show (clK (Dp zs) k (clI (Dp zs) n k) m).1 < (clK (Dp zs) k (clI (Dp zs) n k) m).2 ∧ (clK (Dp zs) k (clI (Dp zs) n k) m).2 < n from HI.out k (m - (k + 1)) hlt (by omega))
      generalize clI (Dp zs) n k = s at *
      obtain ⟨ak, ck, zk⟩ := tk_at (zs := zs) (k := k) (by rw [HL.out]; exact hlt)
      have bk := HP.out k
      obtain ⟨g, o, rfl, hg, x0, x1, x2⟩ := (HA.out.gr hG).at3 zk
      have HDk := Lib.hid (fun m => Dp_is zs k m)
      simp only at x0 x1 x2
      generalize hpk : tkP zs k = pk at *
      clear hpk zk
      have HG := Lib.hid hG
      have hsz : wr.heap.size < wr.heap.size + 1 := by omega
      have HX := Lib.hid (Gr.trans hG ((Gr.refl wr).alloc (.cells #[vi ak, vi pk, vi ck] 51)))
      have y0 : (wr.alloc (.cells #[vi ak, vi pk, vi ck] 51)).cell? ⟨wr.heap.size, 0, none⟩ = some (vi ak) := by simp
      have y1 : (wr.alloc (.cells #[vi ak, vi pk, vi ck] 51)).cell? ⟨wr.heap.size, 1, none⟩ = some (vi pk) := by simp
      have y2 : (wr.alloc (.cells #[vi ak, vi pk, vi ck] 51)).cell? ⟨wr.heap.size, 2, none⟩ = some (vi ck) := by simp
      have hwl : wr.heap.size < (wr.alloc (.cells #[vi ak, vi pk, vi ck] 51)).heap.size := by simp
      clear hG
      go_wp2
      generalize wr.alloc (.cells #[vi ak, vi pk, vi ck] 51) = w1 at *
      generalize wr.heap.size = tb at *
      clear x0 x1 x2 hg hsz HG
      go_loopw [6, 7, 10] (fun a b i wr2 => ∃ m : Nat, k + 1 ≤ m ∧ m ≤ n ∧ i = .int .i64 m ∧ a = .int .i64 ((clK (Dp zs) k s m).1 : Int) ∧ b = .int .i64 ((clK (Dp zs) k s m).2 : Int) ∧ Gr w1 wr2) (fun _ _ i _ => n - (intOf i).toNat)
      case atStart => exact ⟨k + 1, by omega, by omega, by simp, by rw [clK_start], by rw [clK_start], Gr.refl _⟩
      case round =>
        obtain ⟨m, hm0, hm, rfl, rfl, rfl, hG2⟩ := hrel
        obtain ⟨k0, os0, rfl⟩ := hG2
        by_cases hlt2 : m < n
        · have HS := Lib.hid (clK_succ (Dp zs) k s m hm0)
          have hr := HKI.out m hm0 hm
          generalize clK (Dp zs) k s m = r at *
          obtain ⟨ra, rb⟩ := r
          simp only at HS hr ⊢
          obtain ⟨aj, cj, zj⟩ := tk_at (zs := zs) (k := m) (by rw [HL.out]; exact hlt2)
          obtain ⟨au, cu, zu⟩ := tk_at (zs := zs) (k := ra) (by rw [HL.out]; omega)
          obtain ⟨av, cv, zv⟩ := tk_at (zs := zs) (k := rb) (by rw [HL.out]; omega)
          have bj := HP.out m
          have bu := HP.out ra
          have bv := HP.out rb
          obtain ⟨g3, o3, eg3, hg3, j0, j1, j2⟩ := (HA.out.gr HX.out).at3 zj
          injection eg3 with eg3
          injection eg3 with eg1 eg2
          subst eg1 eg2
          obtain ⟨g3, o3, eg3, -, u0, u1, u2⟩ := (HA.out.gr HX.out).at3 zu
          injection eg3 with eg3
          injection eg3 with eg1 eg2
          subst eg1 eg2
          obtain ⟨g3, o3, eg3, -, v0, v1, v2⟩ := (HA.out.gr HX.out).at3 zv
          injection eg3 with eg3
          injection eg3 with eg1 eg2
          subst eg1 eg2
          simp only at j0 j1 j2 u0 u1 u2 v0 v1 v2
          have HE1 := Lib.hid (HDk.out m)
          have HE2 := Lib.hid (Dp_is zs ra rb)
          clear zj zu zv
          generalize tkP zs m = pj at *
          generalize tkP zs ra = pu at *
          generalize tkP zs rb = pv at *
          have HF1 := Lib.hid (fun W => distT_any ak pk ck aj pj cj W bk bj)
          have HF2 := Lib.hid (fun W => distT_any au pu cu av pv cv W bu bv)
          rw [← HE1.out] at HF1
          rw [← HE2.out] at HF2
          clear HE1 HE2 bj bu bv
          generalize hdr : Dp zs ra rb = dr at *
          generalize hdk : Dp zs k m = dk at *
          have hra : ra < n := by omega
          have hrb : rb < n := by omega
          clear hdr hdk hr
          go_wp2
          ((first | refine region_gr_on (by kernel_rfl) (by kernel_rfl) ?_ | refine region_gr (by kernel_rfl) (by kernel_rfl) ?_); (repeat (quiet_step (first | with_reducible exact Calls.gr_of (HF1.out _) | with_reducible exact Calls.gr_of (HF2.out _)))); refine wpQuiet_nil ?_; intro _ hw'; obtain ⟨⟨kq, oq⟩, hw''⟩ := hw'; subst hw'')
          by_cases hcc : dk < dr
          · rw [if_pos hcc] at HS
            go_wp2
            go_roundw
            case rel => exact ⟨m + 1, by omega, by omega, by go_num, by rw [HS.out], by rw [HS.out], (by repeat (first | with_reducible exact Gr.refl _ | with_reducible refine Gr.alloc ?_ _ | with_reducible refine Gr.gr ?_ _ _ | with_reducible refine Gr.drew ?_ | with_reducible refine Gr.drewN ?_ _))⟩
            case measure => simp [intOf]; omega
          · rw [if_neg hcc] at HS
            go_wp2
            go_roundw
            case rel => exact ⟨m + 1, by omega, by omega, by go_num, by rw [HS.out], by rw [HS.out], (by repeat (first | with_reducible exact Gr.refl _ | with_reducible refine Gr.alloc ?_ _ | with_reducible refine Gr.gr ?_ _ _ | with_reducible refine Gr.drew ?_ | with_reducible refine Gr.drewN ?_ _))⟩
            case measure => simp [intOf]; omega
        · obtain rfl : m = n := by omega
          have HE := Lib.hid HK.out
          go_wp2
          go_roundw
          case rel => exact ⟨k + 1, by omega, by go_num, by rw [HE.out], by rw [HE.out], HX.out.gr _ _⟩
          case measure => simp [intOf]; omega
    · obtain rfl : k = n := by omega
      go_wp2
      ((try simp only [Exit.inBlock, Exit.then]); refine bodyPost_ret (v := .tuple #[.int .i64 ((clI (Dp zs) k k).1 : Int), .int .i64 ((clI (Dp zs) k k).2 : Int), .int .i64 0]) (by simp [results, Try.results30, go_sem]) rfl ?_)
      exact ⟨rfl, hG⟩
end Go.Proofs.Ytlimfpdibohioaa
