/- For every code of bytes the nearest and the closest of the drawn ticks are as the law FnNearTicks says, and it returns true. No condition. -/
import Derived.Test.Ytggflladheemoaa8B
import Derived.Test.YtggflladheemoaaDB
import Derived.Test.YtggflladheemoaaMm
import Derived.Test.YtggflladheemoaaBig
import Derived.Test.YtggflladheemoaaFr
import Derived.Test.YtggflladheemoaaRows
import Derived.WalkKit
import Derived.ProofKit
import Derived.OpenShut
namespace Go.Proofs.Ytggflladheemoaa.fnNearTicks
open Go.ChangeShapes Go.WideShapes Go.ChangeAt Go.RowKit
set_option linter.unusedVariables false
set_option linter.unusedSimpArgs false

theorem own : ownKnob Try.prog.godebug = none := by kernel_rfl


attribute [local go_sem high] run_imin run_imax
theorem imax_neg (d : Int) : imax d (-d) = (d.natAbs : Int) := by
  have := imax_bd d (-d)
  unfold imax
  split <;> omega
theorem vl_bd {x : Int} (h : vl x = true) : -1000000000000 ≤ x ∧ x ≤ 1000000000000 := by
  unfold vl at h
  simpa using h
theorem nt_facts (zs : List P3) (p : Int) : ntE zs p = 0 → ∃ m : Nat, ntV zs p = m ∧ m < zs.length ∧ allP zs = true ∧ vl p = true ∧ ∀ i, i < zs.length → (tkP zs m - p).natAbs ≤ (tkP zs i - p).natAbs := by
  intro h
  have h1 : tkE zs (vl p) = 0 ∧ zs.length ≠ 0 := by
    unfold ntE at h
    split at h
    · rename_i h1
      split at h
      · omega
      · rename_i h2
        exact ⟨h1, h2⟩
    · rename_i h1
      exact absurd h h1
  obtain ⟨-, h3, h4, -⟩ := tkE_zero h1.1
  refine ⟨argm (tkD zs p) zs.length, by unfold ntV; rw [if_pos h], argm_lt _ _ (by omega), h4, h3, fun i hi => ?_⟩
  have := argm_le (tkD zs p) zs.length i hi
  unfold tkD at this
  exact Int.ofNat_le.1 this
theorem ct_facts (zs : List P3) : ctE zs = 0 → ∃ a b : Nat, ctA zs = a ∧ ctB zs = b ∧ a < zs.length ∧ b < zs.length ∧ allP zs = true ∧ ∀ i j, i < zs.length → j < i → (tkP zs a - tkP zs b).natAbs ≤ (tkP zs i - tkP zs j).natAbs := by
  intro h
  have h1 : tkE zs true = 0 ∧ 2 ≤ zs.length := by
    unfold ctE at h
    split at h
    · rename_i h1
      split at h
      · omega
      · rename_i h2
        exact ⟨h1, by omega⟩
    · rename_i h1
      exact absurd h h1
  obtain ⟨-, -, h4, -⟩ := tkE_zero h1.1
  obtain ⟨h5, h6⟩ := clI_lt (Dp zs) zs.length h1.2 zs.length (Nat.le_refl _)
  refine ⟨(clI (Dp zs) zs.length zs.length).1, (clI (Dp zs) zs.length zs.length).2, by unfold ctA; rw [if_pos h], by unfold ctB; rw [if_pos h], by omega, h6, h4, fun i j hi hj => ?_⟩
  have := clI_le (Dp zs) zs.length zs.length (Nat.le_refl _) j i (by omega) hj hi
  rw [Dp_is, Dp_is] at this
  omega

set_option maxHeartbeats 8000000 in
set_option maxRecDepth 100000 in
/-- The walk of a code that is not too long. -/
theorem walk1 (w : World) (A0 : Option Addr) (n0 c0 : Nat) (hB0 : Bytes w w.heap.size A0 n0) (hbig : ¬ 4096 < n0) :
    Calls Try.prog 4 #[.slice A0 n0 c0] w (LawDone w) := by
  have hd : decide ((4096 : Int) < n0) = false := by simp; omega
  go_enter Try.func4, Try.ntmps4
  go_wp2_with fail
  refine (big_any A0 n0 c0 w).mono ?_
  rw [hd]
  rintro e w1 ⟨rfl, rfl⟩
  clear hd
  go_wp2_with fail
  refine (drawNT_any A0 n0 c0 w (by omega) hB0).mono ?_
  rintro e w1 ⟨v, zst, p, rfl, hL, hO, hp, hX⟩
  have B1 := hX
  clear  hX
  obtain ⟨At, ct, rfl, hR⟩ := LstG.slice hO
  have Rt1 : Reads w1 w1.heap.size At (cells3 zst) := hR
  obtain ⟨nt, hn⟩ : ∃ q, zst.length = q := ⟨_, rfl⟩
  rw [hn] at hL ⊢
  have HNt := Lib.hid hn
  have Lt := hL
  clear hn hO hL hR
  go_wp2_with fail
  refine (nt_impl At nt ct zst p w1 HNt.out (by omega) Rt1).mono ?_
  rintro e w2 ⟨rfl, hX⟩
  have Rt2 := Rt1.gr hX
  have B2 := B1.trans ((hX.below).mono B1.size)
  clear Rt1 B1 hX
  go_wp2_with fail
  refine (nt_spec At nt ct zst p w2 HNt.out (by omega) Rt2).mono ?_
  rintro e w3 ⟨rfl, hX⟩
  have Rt3 := Rt2.gr hX
  have B3 := B2.trans ((hX.below).mono B2.size)
  clear Rt2 B2 hX
  go_wp2_with fail
  refine (drawTB_any A0 n0 c0 w3 (by omega) (hB0.later B3)).mono ?_
  rintro e w4 ⟨v, zsa, f, t, rfl, hL, hO, hX⟩
  have Rt4 := Rt3.below hX
  have B4 := B3.trans (hX.mono B3.size)
  clear Rt3 B3 hX
  obtain ⟨Aa, ca, rfl, hR⟩ := LstG.slice hO
  have Ra4 : Reads w4 w4.heap.size Aa (cells3 zsa) := hR
  obtain ⟨na, hn⟩ : ∃ q, zsa.length = q := ⟨_, rfl⟩
  rw [hn] at hL ⊢
  have HNa := Lib.hid hn
  have La := hL
  clear hn hO hL hR
  go_wp2_with fail
  refine (tb_impl Aa na ca zsa f t w4 HNa.out (by omega) Ra4).mono ?_
  rintro e w5 ⟨rfl, hX⟩
  have Rt5 := Rt4.gr hX
  have Ra5 := Ra4.gr hX
  have B5 := B4.trans ((hX.below).mono B4.size)
  clear Rt4 Ra4 B4 hX
  go_wp2_with fail
  refine (tb_spec Aa na ca zsa f t w5 HNa.out (by omega) Ra5).mono ?_
  rintro e w6 ⟨rfl, hX⟩
  have Rt6 := Rt5.gr hX
  have Ra6 := Ra5.gr hX
  have B6 := B5.trans ((hX.below).mono B5.size)
  clear Rt5 Ra5 B5 hX
  clear Ra6
  go_wp2_with fail
  refine (drawCT_any A0 n0 c0 w6 (by omega) (hB0.later B6)).mono ?_
  rintro e w7 ⟨v, zsc, rfl, hL, hO, hX⟩
  have Rt7 := Rt6.below hX
  have B7 := B6.trans (hX.mono B6.size)
  clear Rt6 B6 hX
  obtain ⟨Ac, cc, rfl, hR⟩ := LstG.slice hO
  have Rc7 : Reads w7 w7.heap.size Ac (cells3 zsc) := hR
  obtain ⟨nc, hn⟩ : ∃ q, zsc.length = q := ⟨_, rfl⟩
  rw [hn] at hL ⊢
  have HNc := Lib.hid hn
  have Lc := hL
  clear hn hO hL hR
  go_wp2_with fail
  refine (ct_impl Ac nc cc zsc w7 HNc.out (by omega) Rc7).mono ?_
  rintro e w8 ⟨rfl, hX⟩
  have Rt8 := Rt7.gr hX
  have Rc8 := Rc7.gr hX
  have B8 := B7.trans ((hX.below).mono B7.size)
  clear Rt7 Rc7 B7 hX
  go_wp2_with fail
  refine (ct_spec Ac nc cc zsc w8 HNc.out (by omega) Rc8).mono ?_
  rintro e w9 ⟨rfl, hX⟩
  have Rt9 := Rt8.gr hX
  have Rc9 := Rc8.gr hX
  have B9 := B8.trans ((hX.below).mono B8.size)
  clear Rt8 Rc8 B8 hX
  have HF := Lib.hid (nt_facts zst p)
  have HC := Lib.hid (ct_facts zsc)
  rw [HNt.out] at HF
  rw [HNc.out] at HC
  generalize tbE zsa f t = ea at *
  generalize tbV zsa f t = va at *
  generalize ntE zst p = et at *
  generalize ntV zst p = vt at *
  generalize ctE zsc = ec at *
  generalize ctA zsc = ac at *
  generalize ctB zsc = bc at *
  have HRt := Lib.hid Rt9
  have HRc := Lib.hid Rc9
  have HB := Lib.hid B9
  clear Rt9 Rc9 B9
  obtain ⟨W, hW⟩ : ∃ W, W = w9 := ⟨_, rfl⟩
  rw [← hW] at HRt HRc HB ⊢
  clear hW
  by_cases hc : ec = 0
  · subst hc
    obtain ⟨a, b, rfl, rfl, ha, hb, hA, hmin⟩ := HC.out rfl
    obtain ⟨x, hx⟩ := some_at (l := zsc) (k := a) (by rw [HNc.out]; exact ha)
    obtain ⟨y, hy⟩ := some_at (l := zsc) (k := b) (by rw [HNc.out]; exact hb)
    obtain ⟨g, o, rfl, hg, x0, x1, x2⟩ := HRc.out.at3 hx
    obtain ⟨g2, o2, eg, hg2, y0, y1, y2⟩ := HRc.out.at3 hy
    obtain ⟨rfl, rfl⟩ : g = g2 ∧ o = o2 := by injection eg with eg; injection eg with e1 e2; exact ⟨e1, e2⟩
    have HMI := Lib.hid hmin
    have HAP := Lib.hid hA
    have bx := vl_bd (allP_at hx hA)
    have by_ := vl_bd (allP_at hy hA)
    have ex := tkP_at hx
    have ey := tkP_at hy
    obtain ⟨xa, xb, xc⟩ := x
    obtain ⟨ya, yb, yc⟩ := y
    simp only at x1 y1 bx by_ ex ey
    rw [ex, ey] at HMI
    obtain ⟨l, hl⟩ : ∃ l, xb - yb = l := ⟨_, rfl⟩
    rw [hl] at HMI
    have hw1 : IntKind.i64.wrap (xb - yb) = l := by rw [hl]; exact IntWalk.i64_in _ (by omega)
    have hwl : IntKind.i64.wrap (-l) = -l := IntWalk.i64_in _ (by omega)
    have ha1 : (a : Int) < (nc : Int) := by omega
    have ha2 : (0 : Int) ≤ (a : Int) := by omega
    have hb1 : (b : Int) < (nc : Int) := by omega
    have hb2 : (0 : Int) ≤ (b : Int) := by omega
    clear hx hy x0 x2 y0 y2 hmin hA bx by_ ex ey hl eg HC
    go_wp2_with fail
    go_quiet (fail)
    clear hw1 x1 y1 hg hg2
    go_wp2_with fail
    have HGW : Hid (Gr W (W.drewN nq)) := Lib.hid ((Gr.refl W).drewN nq)
    generalize W.drewN nq = V at *
    go_loopw [24] (fun i wr => ∃ k : Nat, i = .int .i64 k ∧ k ≤ nc ∧ Hid (Gr W wr)) (fun i _ => nc - (intOf i).toNat)
    case atStart => exact ⟨0, rfl, by omega, HGW⟩
    case round =>
      obtain ⟨k, rfl, hk, HG⟩ := hrel
      clear HGW
      by_cases hlt : k < nc
      · obtain ⟨x, hx⟩ := some_at (l := zsc) (k := k) (by rw [HNc.out]; exact hlt)
        have bx := vl_bd (allP_at hx HAP.out)
        have ex := tkP_at hx
        have HX := Lib.hid (fun wr (h : Gr W wr) => (HRc.out.gr h).at3 hx)
        obtain ⟨xa, xb, xc⟩ := x
        simp only at bx ex HX
        clear hx
        go_wp2_with fail
        go_loopw [25] (fun i wr => ∃ q : Nat, i = .int .i64 q ∧ q ≤ k ∧ Hid (Gr W wr)) (fun i _ => k - (intOf i).toNat)
        case atStart => exact ⟨0, rfl, by omega, HG⟩
        case round =>
          obtain ⟨q, rfl, hq, HG2⟩ := hrel
          clear HG
          by_cases hqk : q < k
          · obtain ⟨y, hy⟩ := some_at (l := zsc) (k := q) (by rw [HNc.out]; omega)
            obtain ⟨g3, o3, e3, hg, x0, x1, x2⟩ := HX.out wr HG2.out
            obtain ⟨rfl, rfl⟩ : g = g3 ∧ o = o3 := by injection e3 with eg; injection eg with e1 e2; exact ⟨e1, e2⟩
            obtain ⟨g2, o2, eg, hg2, y0, y1, y2⟩ := (HRc.out.gr HG2.out).at3 hy
            obtain ⟨rfl, rfl⟩ : g = g2 ∧ o = o2 := by injection eg with eg; injection eg with e1 e2; exact ⟨e1, e2⟩
            have by_ := vl_bd (allP_at hy HAP.out)
            have ey := tkP_at hy
            have hle := HMI.out k q hlt hqk
            obtain ⟨ya, yb, yc⟩ := y
            simp only at y1 by_ ey
            rw [ex, ey] at hle
            obtain ⟨d, hd⟩ : ∃ d, xb - yb = d := ⟨_, rfl⟩
            rw [hd] at hle
            have hw1 : IntKind.i64.wrap (xb - yb) = d := by rw [hd]; exact IntWalk.i64_in _ (by omega)
            have hw3 : IntKind.i64.wrap (-d) = -d := IntWalk.i64_in _ (by omega)
            have hcmp : decide (imax d (-d) < imax l (-l)) = false := decide_eq_false (by rw [imax_neg, imax_neg]; omega)
            have hk1 : (k : Int) < (nc : Int) := by omega
            have hk2 : (0 : Int) ≤ (k : Int) := by omega
            have hq1 : (q : Int) < (nc : Int) := by omega
            have hq2 : (0 : Int) ≤ (q : Int) := by omega
            clear hy x0 x2 y0 y2 hle by_ ey hd eg e3
            go_wp2_with fail
            go_quiet (fail)
            clear hw1
            go_wp2_with fail
            go_roundw
            case rel => exact ⟨q + 1, by go_num, by omega, Lib.hid (HG2.out.drewN nq)⟩
            case measure => simp [intOf]; omega
          · obtain rfl : q = k := by omega
            go_wp2_with fail
            go_roundw
            case rel => exact ⟨q + 1, by go_num, by omega, HG2⟩
            case measure => simp [intOf]; omega
      · obtain rfl : k = nc := by omega
        clear HMI HAP
        go_wp2_with fail
        go_loopw [27] (fun i wr => ∃ k : Nat, i = .int .i64 k ∧ Hid (et = 0 → k ≤ nt) ∧ Gr W wr) (fun i _ => nt - (intOf i).toNat)
        case atStart => exact ⟨0, rfl, Lib.hid (fun _ => by omega), HG.out⟩
        case round =>
          obtain ⟨k, rfl, hk, hG⟩ := hrel
          have BW := HB.out.trans (hG.below.mono HB.out.size)
          by_cases h0 : et = 0
          · subst h0
            have hk := hk.out rfl
            obtain ⟨m, rfl, hm, hA, hv, hmin⟩ := HF.out rfl
            by_cases hlt : k < nt
            · obtain ⟨x, hx⟩ := some_at (l := zst) (k := k) (by rw [HNt.out]; exact hlt)
              obtain ⟨y, hy⟩ := some_at (l := zst) (k := m) (by rw [HNt.out]; exact hm)
              obtain ⟨g, o, rfl, hg, x0, x1, x2⟩ := (HRt.out.gr hG).at3 hx
              obtain ⟨g2, o2, eg, hg2, y0, y1, y2⟩ := (HRt.out.gr hG).at3 hy
              obtain ⟨rfl, rfl⟩ : g = g2 ∧ o = o2 := by injection eg with eg; injection eg with e1 e2; exact ⟨e1, e2⟩
              have hle := hmin k hlt
              rw [tkP_at hx, tkP_at hy] at hle
              have bx := vl_bd (allP_at hx hA)
              have by_ := vl_bd (allP_at hy hA)
              have bp := vl_bd hv
              obtain ⟨xa, xb, xc⟩ := x
              obtain ⟨ya, yb, yc⟩ := y
              simp only at x1 y1 hle bx by_
              obtain ⟨d, hd⟩ : ∃ d, xb - p = d := ⟨_, rfl⟩
              obtain ⟨q, hq⟩ : ∃ q, yb - p = q := ⟨_, rfl⟩
              rw [hd, hq] at hle
              have hw1 : IntKind.i64.wrap (xb - p) = d := by rw [hd]; exact IntWalk.i64_in _ (by omega)
              have hw2 : IntKind.i64.wrap (yb - p) = q := by rw [hq]; exact IntWalk.i64_in _ (by omega)
              have hw3 : IntKind.i64.wrap (-d) = -d := IntWalk.i64_in _ (by omega)
              have hw4 : IntKind.i64.wrap (-q) = -q := IntWalk.i64_in _ (by omega)
              have hcmp : decide (imax d (-d) < imax q (-q)) = false := decide_eq_false (by rw [imax_neg, imax_neg]; omega)
              have hk1 : (k : Int) < (nt : Int) := by omega
              have hk2 : (0 : Int) ≤ (k : Int) := by omega
              have hm1 : (m : Int) < (nt : Int) := by omega
              have hm2 : (0 : Int) ≤ (m : Int) := by omega
              have HG := Lib.hid hG
              clear hx hy x0 x2 y0 y2 hmin hle hA hv bx by_ bp BW hd hq eg hG
              go_wp2_with fail
              go_quiet (fail)
              clear hw1 hw2
              go_wp2_with fail
              go_roundw
              case rel => exact ⟨k + 1, by go_num, Lib.hid (fun _ => by omega), HG.out.drewN nq⟩
              case measure => simp [intOf]; omega
            · obtain rfl : k = nt := by omega
              go_wp2_with fail
              go_ret
              exact ⟨rfl, BW⟩
          · have h0' : (et == 0) = false := by simpa using h0
            go_wp2_with fail
            go_ret
            exact ⟨rfl, BW⟩
  · have hc0 : (ec == 0) = false := by simpa using hc
    go_wp2_with fail
    go_loopw [27] (fun i wr => ∃ k : Nat, i = .int .i64 k ∧ Hid (et = 0 → k ≤ nt) ∧ Gr W wr) (fun i _ => nt - (intOf i).toNat)
    case atStart => exact ⟨0, rfl, Lib.hid (fun _ => by omega), Gr.refl _⟩
    case round =>
      obtain ⟨k, rfl, hk, hG⟩ := hrel
      have BW := HB.out.trans (hG.below.mono HB.out.size)
      by_cases h0 : et = 0
      · subst h0
        have hk := hk.out rfl
        obtain ⟨m, rfl, hm, hA, hv, hmin⟩ := HF.out rfl
        by_cases hlt : k < nt
        · obtain ⟨x, hx⟩ := some_at (l := zst) (k := k) (by rw [HNt.out]; exact hlt)
          obtain ⟨y, hy⟩ := some_at (l := zst) (k := m) (by rw [HNt.out]; exact hm)
          obtain ⟨g, o, rfl, hg, x0, x1, x2⟩ := (HRt.out.gr hG).at3 hx
          obtain ⟨g2, o2, eg, hg2, y0, y1, y2⟩ := (HRt.out.gr hG).at3 hy
          obtain ⟨rfl, rfl⟩ : g = g2 ∧ o = o2 := by injection eg with eg; injection eg with e1 e2; exact ⟨e1, e2⟩
          have hle := hmin k hlt
          rw [tkP_at hx, tkP_at hy] at hle
          have bx := vl_bd (allP_at hx hA)
          have by_ := vl_bd (allP_at hy hA)
          have bp := vl_bd hv
          obtain ⟨xa, xb, xc⟩ := x
          obtain ⟨ya, yb, yc⟩ := y
          simp only at x1 y1 hle bx by_
          obtain ⟨d, hd⟩ : ∃ d, xb - p = d := ⟨_, rfl⟩
          obtain ⟨q, hq⟩ : ∃ q, yb - p = q := ⟨_, rfl⟩
          rw [hd, hq] at hle
          have hw1 : IntKind.i64.wrap (xb - p) = d := by rw [hd]; exact IntWalk.i64_in _ (by omega)
          have hw2 : IntKind.i64.wrap (yb - p) = q := by rw [hq]; exact IntWalk.i64_in _ (by omega)
          have hw3 : IntKind.i64.wrap (-d) = -d := IntWalk.i64_in _ (by omega)
          have hw4 : IntKind.i64.wrap (-q) = -q := IntWalk.i64_in _ (by omega)
          have hcmp : decide (imax d (-d) < imax q (-q)) = false := decide_eq_false (by rw [imax_neg, imax_neg]; omega)
          have hk1 : (k : Int) < (nt : Int) := by omega
          have hk2 : (0 : Int) ≤ (k : Int) := by omega
          have hm1 : (m : Int) < (nt : Int) := by omega
          have hm2 : (0 : Int) ≤ (m : Int) := by omega
          have HG := Lib.hid hG
          clear hx hy x0 x2 y0 y2 hmin hle hA hv bx by_ bp BW hd hq eg hG
          go_wp2_with fail
          go_quiet (fail)
          clear hw1 hw2
          go_wp2_with fail
          go_roundw
          case rel => exact ⟨k + 1, by go_num, Lib.hid (fun _ => by omega), HG.out.drewN nq⟩
          case measure => simp [intOf]; omega
        · obtain rfl : k = nt := by omega
          go_wp2_with fail
          go_ret
          exact ⟨rfl, BW⟩
      · have h0' : (et == 0) = false := by simpa using h0
        go_wp2_with fail
        go_ret
        exact ⟨rfl, BW⟩

set_option maxHeartbeats 4000000 in
set_option maxRecDepth 100000 in
theorem walk (w : World) (A0 : Option Addr) (n0 c0 : Nat) (hB0 : Bytes w w.heap.size A0 n0) :
    Calls Try.prog 4 #[.slice A0 n0 c0] w (LawDone w) := by
  by_cases hbig : 4096 < n0
  · have hd : decide ((4096 : Int) < n0) = true := by simp; omega
    go_enter Try.func4, Try.ntmps4
    go_wp2_with fail
    refine (big_any A0 n0 c0 w).mono ?_
    rw [hd]
    rintro e w1 ⟨rfl, rfl⟩
    go_wp2_with fail
    go_ret
    exact ⟨rfl, Below.refl _ _⟩
  · exact walk1 w A0 n0 c0 hB0 hbig

set_option maxRecDepth 100000 in
theorem lifted (os : Os) (started : os.Started) (H : Type) (enc : TypeId × Value → H) :
    ReturnsInHanded {} Try.checked os 4 .any (Rows.fnNearTicksSpec.pre6 enc Try.prog Try.f4 Rows.fnNearTicksRow.domain false) (Rows.fnNearTicksSpec.post enc Try.prog Try.f4 false true false false) := by
  refine returnsInHanded_of_change (C := Try.checked) own started (by kernel_rfl) Try.func4
    (ChangeSpec.witness6 (enc := enc) (C := Try.checked) false ⟨#[], #[.slice none 0 0], []⟩ 8 (by kernel_rfl) (by kernel_rfl) (by kernel_rfl) (by kernel_rfl)) ?_
  intro W base args ds gs before hval0 hW hcnd _
  have hval : ∀ (j : Nat) t v, Try.f4.params[j]? = some t → args[j]? = some v → Value.okWide Try.prog W .any base t v := hval0
  have hW' := hW
  obtain ⟨p, q, hA0, hV, hpq, hfz, hnd⟩ := hW
  have hA : DataW.TrodAll enc Try.prog W 0 (fun _ => true) true Try.f4.params.toList args.toList ds p := hA0
  have hT := hA
  obtain ⟨rfl, rfl⟩ := trodVars_none hV
  rw [Try.params4] at hA hval
  obtain ⟨v0, vs0, d0, ds0, p0, q0, hargs, rfl, rfl, h0, r0⟩ := trodAll_cons hA
  obtain ⟨rfl, rfl, rfl⟩ := trodAll_nil r0
  obtain rfl : args = #[v0] := by cases args; simp_all
  obtain ⟨A0, n0, c0, rfl, -, hB0⟩ := open_code Try.underlying22 Try.underlying5 (by kernel_rfl) (hval 0 22 v0 rfl rfl) h0
  clear hA0 hval0
  refine (walk W A0 n0 c0 hB0).mono fun e W' ⟨he, hb⟩ => ?_
  subst he
  exact ⟨_, rfl, law_post laidOut hW' hT hpq (by kernel_rfl) (fun _ _ => rfl) rfl rfl rfl Try.underlying4 hb⟩

theorem over : Rows.fnNearTicksRow.holds Try.pinned (OpenSpec.ofChange Rows.fnNearTicksSpec) :=
  OpenClaim.holds_of_wide 4 Try.f4 rfl rfl rfl rfl rfl rfl rfl ⟨rfl, rfl, rfl, rfl, rfl⟩ rfl rfl rfl rfl rfl (by kernel_rfl) Try.func4 (by kernel_rfl)
    (of_decide_eq_true (by kernel_rfl)) (by unfold Func.isWrapper; first | (rw [if_pos (by decide +kernel)]; kernel_rfl) | (rw [if_neg (by decide +kernel)]; exact ⟨rfl, rfl⟩))
    (fun os started H enc _ => lifted os started H enc)

theorem proved : Rows.FnNearTicksSaid :=
  over
end Go.Proofs.Ytggflladheemoaa.fnNearTicks
