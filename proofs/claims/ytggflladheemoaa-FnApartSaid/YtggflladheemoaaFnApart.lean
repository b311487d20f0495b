/- For every code of bytes the drawn ticks that stay are as the law FnApart says, and it returns true. No condition. -/
import Derived.Test.Ytggflladheemoaa8C
import Derived.Test.YtggflladheemoaaDB
import Derived.Test.YtggflladheemoaaMC
import Derived.Test.YtggflladheemoaaLi
import Derived.Test.YtggflladheemoaaMm
import Derived.Test.YtggflladheemoaaBig
import Derived.Test.YtggflladheemoaaFr
import Derived.Test.YtggflladheemoaaRows
import Derived.WalkKit
import Derived.ProofKit
import Derived.OpenShut
namespace Go.Proofs.Ytggflladheemoaa.fnApart
open Go.ChangeShapes Go.WideShapes Go.ChangeAt Go.RowKit
set_option linter.unusedVariables false
set_option linter.unusedSimpArgs false

theorem own : ownKnob Try.prog.godebug = none := by kernel_rfl


attribute [local go_sem high] run_imin run_imax
theorem imax_neg (d : Int) : imax d (-d) = (d.natAbs : Int) := by
  have := imax_bd d (-d)
  unfold imax
  split <;> omega
theorem vl_bd {x : Int} (h : vl x = true) : -1000000000000 ≤ x ∧ x ≤ 1000000000000 := by
  unfold vl at h
  simpa using h
/-- One of a list, and not the tick itself, is nearer than the distance. -/
def nearB (zs : List P3) (d : Int) (L : List Nat) (i : Nat) : Bool := L.any fun k => !decide (k = i) && decide (((tkP zs i - tkP zs k).natAbs : Int) < d)
theorem nearB_next (zs : List P3) (d : Int) {L : List Nat} {m j : Nat} (h : L[m]? = some j) (i : Nat) : nearB zs d (L.take (m + 1)) i = (nearB zs d (L.take m) i || (!decide (j = i) && decide (((tkP zs i - tkP zs j).natAbs : Int) < d))) := by
  obtain ⟨hm, e⟩ := List.getElem?_eq_some_iff.1 h
  unfold nearB
  rw [List.take_succ_eq_append_getElem hm, e, List.any_append]
  simp
/-- Those that do not stay are near to one that stays. -/
theorem kpS_max (zs : List P3) (n : Nat) (dd : Nat → Nat → Bool) : ∀ (M : List Nat) (S : Nat → Bool) (i : Nat), i ∈ M → M.foldl (stS zs n dd) S i = false → ∃ k, k < n ∧ M.foldl (stS zs n dd) S k = true ∧ dd i k = true := by
  have mono : ∀ (M : List Nat) (S : Nat → Bool) (j : Nat), S j = true → M.foldl (stS zs n dd) S j = true := by
    intro M
    induction M with
    | nil => exact fun S j h => h
    | cons x M ih =>
      intro S j h
      rw [List.foldl_cons]
      refine ih _ j ?_
      unfold stS
      split
      · simp [h]
      · exact h
  intro M
  induction M with
  | nil => intro S i h; cases h
  | cons x M ih =>
    intro S i hi hf
    rw [List.foldl_cons] at hf ⊢
    rcases List.mem_cons.1 hi with rfl | hi
    · by_cases ha : apS zs n dd S i = true
      · exfalso
        have h1 : stS zs n dd S i i = true := by unfold stS; rw [if_pos ha]; simp
        rw [mono M _ i h1] at hf
        cases hf
      · unfold apS at ha
        rw [Bool.not_eq_true, List.all_eq_false] at ha
        obtain ⟨k, hk, hb⟩ := ha
        rw [List.mem_range] at hk
        have hb2 : S k = true ∧ dd i k = true := by
          cases h1 : S k <;> cases h2 : dd i k <;> simp [h1, h2] at hb ⊢
        refine ⟨k, hk, mono M _ k ?_, hb2.2⟩
        unfold stS
        split
        · simp [hb2.1]
        · exact hb2.1
    · exact ih _ i hi hf
theorem ka_facts (zs : List P3) (d : Int) : kaE zs d = 0 → ∃ L : List Nat, kaL zs d = natI L ∧ (∀ k ∈ L, k < zs.length) ∧ allP zs = true ∧ (0 ≤ d ∧ d ≤ 100000) ∧ ∀ i, i < zs.length → nearB zs d L i = !decide ((i : Int) ∈ natI L) := by
  intro h
  have h1 : tkE zs true = 0 ∧ allH zs = true ∧ 0 ≤ d ∧ d ≤ 100000 := by
    unfold kaE at h
    split at h
    · rename_i h1
      split at h
      · rename_i h2
        exact ⟨h1, h2⟩
      · omega
    · rename_i h1
      exact absurd h h1
  obtain ⟨t0, aH, d0, d1⟩ := h1
  obtain ⟨-, -, hA, -⟩ := tkE_zero t0
  refine ⟨lsS zs.length (kpS zs zs.length (nrD zs d) (byH zs zs.length)), by unfold kaL; rw [if_pos h], fun k hk => ?_, hA, ⟨d0, d1⟩, fun i hi => ?_⟩
  · unfold lsS at hk
    rw [List.mem_filter, List.mem_range] at hk
    exact hk.1
  have hsy : ∀ i k, nrD zs d i k = nrD zs d k i := fun i k => by
    unfold nrD
    rw [Dp_is, Dp_is]
    exact decide_eq_decide.2 (by omega)
  have hfr := kpS_free (zs := zs) (n := zs.length) hsy (byH zs zs.length) (fun i hi => (byH_mem aH).1 hi)
  have hmx := kpS_max zs zs.length (nrD zs d) (byH zs zs.length) (fun _ => false) i ((byH_mem aH).2 hi)
  unfold kpS at hfr ⊢
  generalize (byH zs zs.length).foldl (stS zs zs.length (nrD zs d)) (fun _ => false) = S at *
  have hmem : ((i : Int) ∈ natI (lsS zs.length S)) ↔ S i = true := by
    unfold lsS
    rw [List.mem_map]
    constructor
    · rintro ⟨k, hk, e⟩
      rw [List.mem_filter] at hk
      rw [show i = k by omega]
      exact hk.2
    · exact fun h => ⟨i, List.mem_filter.2 ⟨List.mem_range.2 hi, h⟩, rfl⟩
  cases hs : S i
  · obtain ⟨k, hk, h2, h3⟩ := hmx hs
    rw [decide_eq_false (fun h => by rw [hmem, hs] at h; cases h)]
    unfold nearB
    rw [Bool.not_false, List.any_eq_true]
    refine ⟨k, by unfold lsS; exact List.mem_filter.2 ⟨List.mem_range.2 hk, h2⟩, ?_⟩
    have hne : k ≠ i := fun e => by rw [e, hs] at h2; cases h2
    unfold nrD at h3
    rw [Dp_is] at h3
    have h4 := of_decide_eq_true h3
    rw [decide_eq_false hne, decide_eq_true (by omega)]
    rfl
  · rw [decide_eq_true (hmem.2 hs)]
    unfold nearB
    rw [Bool.not_true, List.any_eq_false]
    intro k hk
    unfold lsS at hk
    rw [List.mem_filter, List.mem_range] at hk
    by_cases hne : k = i
    · simp [hne]
    · have := hfr i k hi hk.1 hs hk.2 (fun e => hne e.symm)
      unfold nrD at this
      rw [Dp_is] at this
      have h4 := of_decide_eq_false this
      simp [hne]
      omega
theorem kaL_len (zs : List P3) (d : Int) : (kaL zs d).length ≤ zs.length := by
  unfold kaL
  split
  · rw [List.length_map]
    unfold lsS
    have := List.length_filter_le (kpS zs zs.length (nrD zs d) (byH zs zs.length)) (List.range zs.length)
    rwa [List.length_range] at this
  · simp

set_option maxHeartbeats 8000000 in
set_option maxRecDepth 100000 in
/-- The walk of a code that is not too long. -/
theorem walk1 (w : World) (A0 : Option Addr) (n0 c0 : Nat) (hB0 : Bytes w w.heap.size A0 n0) (hbig : ¬ 4096 < n0) :
    Calls Try.prog 5 #[.slice A0 n0 c0] w (LawDone w) := by
  have hd : decide ((4096 : Int) < n0) = false := by simp; omega
  go_enter Try.func5, Try.ntmps5
  go_wp2_with fail
  refine (big_any A0 n0 c0 w).mono ?_
  rw [hd]
  rintro e w1 ⟨rfl, rfl⟩
  clear hd
  go_wp2_with fail
  refine (drawKA_any A0 n0 c0 w (by omega) hB0).mono ?_
  rintro e w1 ⟨v, zst, d, rfl, hL, hO, hd, hX⟩
  have B1 := hX
  clear  hX
  obtain ⟨At, ct, rfl, hR⟩ := LstG.slice hO
  have Rt1 : Reads w1 w1.heap.size At (cells3 zst) := hR
  obtain ⟨nt, hn⟩ : ∃ q, zst.length = q := ⟨_, rfl⟩
  rw [hn] at hL ⊢
  have HNt := Lib.hid hn
  have Lt := hL
  clear hn hO hL hR
  go_wp2_with fail
  refine (ka_impl At nt ct zst d w1 HNt.out (by omega) Rt1).mono ?_
  rintro e w2 ⟨⟨v, rfl, hv⟩, hX⟩
  have hX0 := hX
  have Rt2 := Rt1.below hX
  have B2 := B1.trans (hX.mono B1.size)
  clear Rt1 B1 hX
  obtain ⟨Ak, ck, rfl, Rk2⟩ := Lst.slice hv
  clear hv hX0
  go_wp2_with fail
  refine (ka_spec At nt ct zst d w2 HNt.out (by omega) Rt2).mono ?_
  rintro e w3 ⟨⟨v, rfl, hv⟩, hX⟩
  have hX0 := hX
  have Rt3 := Rt2.below hX
  have Rk3 := Rk2.below hX
  have B3 := B2.trans (hX.mono B2.size)
  clear Rt2 Rk2 B2 hX
  obtain ⟨Am, cm, rfl, Rm3⟩ := Lst.slice hv
  obtain ⟨q, hq⟩ : ∃ q, (kaL zst d).length = q := ⟨_, rfl⟩
  have hql := kaL_len zst d
  rw [hq] at hql ⊢
  rw [HNt.out] at hql
  have HQ := Lib.hid hq
  clear hv hX0 hq
  go_wp2_with fail
  refine (likeInts_same _ _ q ck cm (kaL zst d) w3 HQ.out (by omega) Rk3 Rm3).mono ?_
  rintro e w4 ⟨rfl, hX⟩
  have Rt4 := Rt3.gr hX
  have Rk4 := Rk3.gr hX
  have Rm4 := Rm3.gr hX
  have B4 := B3.trans ((hX.below).mono B3.size)
  clear Rt3 Rk3 Rm3 B3 hX
  have HF := Lib.hid (ka_facts zst d)
  rw [HNt.out] at HF
  generalize kaL zst d = KL at *
  generalize kaE zst d = ea at *
  have HRt := Lib.hid Rt4
  have HRk := Lib.hid Rk4
  have HRm := Lib.hid Rm4
  have HB := Lib.hid B4
  clear Rt4 Rk4 Rm4 B4
  obtain ⟨W, hW⟩ : ∃ W, W = w4 := ⟨_, rfl⟩
  rw [← hW] at HRt HRk HRm HB ⊢
  clear hW
  by_cases h0 : ea = 0
  rotate_left
  · have h0' : (ea == 0) = false := by simpa using h0
    go_wp2_with fail
    go_ret
    exact ⟨rfl, HB.out⟩
  subst h0
  obtain ⟨L, rfl, hLn, hA, hd2, hnear⟩ := HF.out rfl
  have HLN := Lib.hid hLn
  have HAP := Lib.hid hA
  have HNE := Lib.hid hnear
  clear hLn hA hnear HF
  go_wp2_with fail
  go_loopw [9] (fun i wr => ∃ k : Nat, i = .int .i64 k ∧ k ≤ nt ∧ Hid (Gr W wr)) (fun i _ => nt - (intOf i).toNat)
  case atStart => exact ⟨0, rfl, by omega, Lib.hid (Gr.refl _)⟩
  case round =>
    obtain ⟨k, rfl, hk, HG⟩ := hrel
    by_cases hlt : k < nt
    · obtain ⟨x, hx⟩ := some_at (l := zst) (k := k) (by rw [HNt.out]; exact hlt)
      have bx := vl_bd (allP_at hx HAP.out)
      have ex := tkP_at hx
      have HX := Lib.hid (fun wr (h : Gr W wr) => (HRt.out.gr h).at3 hx)
      obtain ⟨xa, xb, xc⟩ := x
      simp only at bx ex HX
      clear hx
      go_wp2_with fail
      go_loopw [10, 11] (fun b i wr => ∃ m : Nat, i = .int .i64 m ∧ m ≤ q ∧ b = .bool (nearB zst d (L.take m) k) ∧ Hid (Gr W wr)) (fun _ i _ => q - (intOf i).toNat)
      case atStart => exact ⟨0, rfl, by omega, rfl, HG⟩
      case round =>
        obtain ⟨m, rfl, hm, rfl, HG2⟩ := hrel
        clear HG
        by_cases hmq : m < q
        · obtain ⟨j, hj⟩ := some_at (l := L) (k := m) (by have := HQ.out; rw [List.length_map] at this; omega)
          have hjn := HLN.out j (List.mem_of_getElem? hj)
          obtain ⟨y, hy⟩ := some_at (l := zst) (k := j) (by rw [HNt.out]; exact hjn)
          obtain ⟨g, o, rfl, hg, x0, x1, x2⟩ := HX.out wr HG2.out
          obtain ⟨g2, o2, eg, hg2, y0, y1, y2⟩ := (HRt.out.gr HG2.out).at3 hy
          obtain ⟨rfl, rfl⟩ : g = g2 ∧ o = o2 := by injection eg with eg; injection eg with e1 e2; exact ⟨e1, e2⟩
          obtain ⟨g3, o3, rfl, hg3, hc3⟩ := (HRm.out.gr HG2.out).at_ (show ((natI L).map vi)[m]? = some (vi (j : Int)) by rw [List.getElem?_map, List.getElem?_map, hj]; rfl)
          have HC3 := Lib.hid (fun wr2 (h : Gr wr wr2) => (h.below.cell (p := ⟨g3, o3 + m, none⟩) hg3).trans hc3)
          have by_ := vl_bd (allP_at hy HAP.out)
          have ey := tkP_at hy
          have HNX := Lib.hid (nearB_next zst d hj k)
          obtain ⟨ya, yb, yc⟩ := y
          simp only at y1 by_ ey
          rw [ex, ey] at HNX
          obtain ⟨u, hu⟩ : ∃ u, xb - yb = u := ⟨_, rfl⟩
          rw [hu] at HNX
          have hw1 : IntKind.i64.wrap (xb - yb) = u := by rw [hu]; exact IntWalk.i64_in _ (by omega)
          have hw3 : IntKind.i64.wrap (-u) = -u := IntWalk.i64_in _ (by omega)
          have hk1 : (k : Int) < (nt : Int) := by omega
          have hk2 : (0 : Int) ≤ (k : Int) := by omega
          have hm1 : (m : Int) < (q : Int) := by omega
          have hm2 : (0 : Int) ≤ (m : Int) := by omega
          have hj1 : (j : Int) < (nt : Int) := by omega
          have hj2 : (0 : Int) ≤ (j : Int) := by omega
          have HIM := Lib.hid (imax_neg u)
          generalize nearB zst d (L.take m) k = nb at *
          clear hj hy x0 x2 y0 y2 by_ ey hu eg hjn
          cases nb
          · rw [Bool.false_or] at HNX
            by_cases hjk : j = k
            · have HNF := Lib.hid (show nearB zst d (L.take (m + 1)) k = false by rw [HNX.out, hjk]; simp)
              have hne : ((j : Int) == (k : Int)) = true := by rw [hjk]; simp
              clear HNX
              go_wp2_with fail
              go_quiet (fail)
              clear hw1
              have hc4 := HC3.out (wr.drewN nq) ((Gr.refl wr).drewN nq)
              subst hjk
              go_wp2_with fail
              go_roundw
              case rel => exact ⟨m + 1, by go_num, by omega, by rw [HNF.out], Lib.hid (HG2.out.drewN nq)⟩
              case measure => simp [intOf]; omega
            · have hne : ((j : Int) == (k : Int)) = false := by simp; omega
              have hne2 : ((j : Int) != (k : Int)) = true := by simp; omega
              by_cases hcmp : imax u (-u) < d
              · have HNF := Lib.hid (show nearB zst d (L.take (m + 1)) k = true by rw [HNX.out]; rw [HIM.out] at hcmp; simp [hjk]; omega)
                have hd1 : decide (imax u (-u) < d) = true := decide_eq_true hcmp
                clear HNX hcmp HIM
                go_wp2_with fail
                go_quiet (fail)
                clear hw1
                have hc4 := HC3.out (wr.drewN nq) ((Gr.refl wr).drewN nq)
                go_wp2_with fail
                go_roundw
                case rel => exact ⟨m + 1, by go_num, by omega, by rw [HNF.out], Lib.hid (HG2.out.drewN nq)⟩
                case measure => simp [intOf]; omega
              · have HNF := Lib.hid (show nearB zst d (L.take (m + 1)) k = false by rw [HNX.out]; rw [HIM.out] at hcmp; simp; omega)
                have hd1 : decide (imax u (-u) < d) = false := decide_eq_false hcmp
                clear HNX hcmp HIM
                go_wp2_with fail
                go_quiet (fail)
                clear hw1
                have hc4 := HC3.out (wr.drewN nq) ((Gr.refl wr).drewN nq)
                go_wp2_with fail
                go_roundw
                case rel => exact ⟨m + 1, by go_num, by omega, by rw [HNF.out], Lib.hid (HG2.out.drewN nq)⟩
                case measure => simp [intOf]; omega
          · have HNF := Lib.hid (show nearB zst d (L.take (m + 1)) k = true by rw [HNX.out]; rfl)
            clear HNX
            go_wp2_with fail
            go_quiet (fail)
            clear hw1
            have hc4 := HC3.out (wr.drewN nq) ((Gr.refl wr).drewN nq)
            go_wp2_with fail
            go_roundw
            case rel => exact ⟨m + 1, by go_num, by omega, by rw [HNF.out], Lib.hid (HG2.out.drewN nq)⟩
            case measure => simp [intOf]; omega
        · obtain rfl : m = q := by omega
          have HT := Lib.hid (show L.take m = L from List.take_of_length_le (by have := HQ.out; rw [List.length_map] at this; omega))
          have HNK := Lib.hid (HNE.out k hlt)
          rw [HT.out]
          rw [HNK.out]
          have HHI := Lib.hid (hasInt_any Ak m ck (natI L) (k : Int) wr HQ.out (by omega) (HRk.out.gr HG2.out))
          generalize decide ((k : Int) ∈ natI L) = hb at *
          cases hb
          · go_wp2_with fail
            refine HHI.out.mono ?_
            rintro e w' ⟨rfl, hX⟩
            have HG3 := Lib.hid (HG2.out.trans hX)
            clear hX
            go_wp2_with fail
            go_roundw
            case rel => exact ⟨k + 1, by go_num, by omega, HG3⟩
            case measure => simp [intOf]; omega
          · go_wp2_with fail
            refine HHI.out.mono ?_
            rintro e w' ⟨rfl, hX⟩
            have HG3 := Lib.hid (HG2.out.trans hX)
            clear hX
            go_wp2_with fail
            go_roundw
            case rel => exact ⟨k + 1, by go_num, by omega, HG3⟩
            case measure => simp [intOf]; omega
    · obtain rfl : k = nt := by omega
      go_wp2_with fail
      go_ret
      exact ⟨rfl, HB.out.trans (HG.out.below.mono HB.out.size)⟩

set_option maxHeartbeats 4000000 in
set_option maxRecDepth 100000 in
theorem walk (w : World) (A0 : Option Addr) (n0 c0 : Nat) (hB0 : Bytes w w.heap.size A0 n0) :
    Calls Try.prog 5 #[.slice A0 n0 c0] w (LawDone w) := by
  by_cases hbig : 4096 < n0
  · have hd : decide ((4096 : Int) < n0) = true := by simp; omega
    go_enter Try.func5, Try.ntmps5
    go_wp2_with fail
    refine (big_any A0 n0 c0 w).mono ?_
    rw [hd]
    rintro e w1 ⟨rfl, rfl⟩
    go_wp2_with fail
    go_ret
    exact ⟨rfl, Below.refl _ _⟩
  · exact walk1 w A0 n0 c0 hB0 hbig

set_option maxRecDepth 100000 in
theorem lifted (os : Os) (started : os.Started) (H : Type) (enc : TypeId × Value → H) :
    ReturnsInHanded {} Try.checked os 5 .any (Rows.fnApartSpec.pre6 enc Try.prog Try.f5 Rows.fnApartRow.domain false) (Rows.fnApartSpec.post enc Try.prog Try.f5 false true false false) := by
  refine returnsInHanded_of_change (C := Try.checked) own started (by kernel_rfl) Try.func5
    (ChangeSpec.witness6 (enc := enc) (C := Try.checked) false ⟨#[], #[.slice none 0 0], []⟩ 8 (by kernel_rfl) (by kernel_rfl) (by kernel_rfl) (by kernel_rfl)) ?_
  intro W base args ds gs before hval0 hW hcnd _
  have hval : ∀ (j : Nat) t v, Try.f5.params[j]? = some t → args[j]? = some v → Value.okWide Try.prog W .any base t v := hval0
  have hW' := hW
  obtain ⟨p, q, hA0, hV, hpq, hfz, hnd⟩ := hW
  have hA : DataW.TrodAll enc Try.prog W 0 (fun _ => true) true Try.f5.params.toList args.toList ds p := hA0
  have hT := hA
  obtain ⟨rfl, rfl⟩ := trodVars_none hV
  rw [Try.params5] at hA hval
  obtain ⟨v0, vs0, d0, ds0, p0, q0, hargs, rfl, rfl, h0, r0⟩ := trodAll_cons hA
  obtain ⟨rfl, rfl, rfl⟩ := trodAll_nil r0
  obtain rfl : args = #[v0] := by cases args; simp_all
  obtain ⟨A0, n0, c0, rfl, -, hB0⟩ := open_code Try.underlying22 Try.underlying5 (by kernel_rfl) (hval 0 22 v0 rfl rfl) h0
  clear hA0 hval0
  refine (walk W A0 n0 c0 hB0).mono fun e W' ⟨he, hb⟩ => ?_
  subst he
  exact ⟨_, rfl, law_post laidOut hW' hT hpq (by kernel_rfl) (fun _ _ => rfl) rfl rfl rfl Try.underlying4 hb⟩

theorem over : Rows.fnApartRow.holds Try.pinned (OpenSpec.ofChange Rows.fnApartSpec) :=
  OpenClaim.holds_of_wide 5 Try.f5 rfl rfl rfl rfl rfl rfl rfl ⟨rfl, rfl, rfl, rfl, rfl⟩ rfl rfl rfl rfl rfl (by kernel_rfl) Try.func5 (by kernel_rfl)
    (of_decide_eq_true (by kernel_rfl)) (by unfold Func.isWrapper; first | (rw [if_pos (by decide +kernel)]; kernel_rfl) | (rw [if_neg (by decide +kernel)]; exact ⟨rfl, rfl⟩))
    (fun os started H enc _ => lifted os started H enc)

theorem proved : Rows.FnApartSaid :=
  over
end Go.Proofs.Ytggflladheemoaa.fnApart
