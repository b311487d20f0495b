/- For every code of bytes the quotients and the comparisons of the drawn figures are as the law FnQuotients says, and it returns true. No condition. -/
import Derived.Test.YtddnmhkhgpangaaC02e
import Derived.Test.YtddnmhkhgpangaaD4
import Derived.Test.YtddnmhkhgpangaaSe
import Derived.Test.YtddnmhkhgpangaaHs
import Derived.Test.YtddnmhkhgpangaaBig
import Derived.Test.YtddnmhkhgpangaaM07
import Derived.Test.YtddnmhkhgpangaaFr
import Derived.Test.YtddnmhkhgpangaaRows
import Derived.WalkKit
import Derived.ProofKit
import Derived.OpenShut
namespace Go.Proofs.Ytddnmhkhgpangaa.fnQuotients
open Go.ChangeShapes Go.WideShapes Go.ChangeAt Go.RowKit
set_option linter.unusedVariables false
set_option linter.unusedSimpArgs false

theorem own : ownKnob Try.prog.godebug = none := by kernel_rfl

attribute [local go_sem high] guard_fig neq_fig eql_fig
theorem cm_bd (a s b t : Int) : -1 ≤ (cmR a s b t).1 ∧ (cmR a s b t).1 ≤ 1 := by
  by_cases h : (fg a s && fg b t) = true
  · rw [Bool.and_eq_true] at h
    rw [cmR_ok a s b t h.1 h.2]
    simp only
    unfold cmpI
    split <;> (try split) <;> omega
  · rw [cmR_no a s b t (by simpa using h)]; simp

set_option maxHeartbeats 4000000 in
set_option maxRecDepth 100000 in
/-- The walk of a code that is not too long. -/
theorem walk1 (w : World) (A0 : Option Addr) (n0 c0 : Nat) (hB0 : Bytes w w.heap.size A0 n0) (hbig : ¬ 4096 < n0) :
    Calls Try.prog 4 #[.slice A0 n0 c0] w (LawDone w) := by
  have hd : decide ((4096 : Int) < n0) = false := by simp; omega
  go_enter Try.func4, Try.ntmps4
  go_wp2_with fail
  refine (big_any A0 n0 c0 w).mono ?_
  rw [hd]
  rintro e w1 ⟨rfl, rfl⟩
  clear hd
  go_wp2_with fail
  refine (drawDivideF_any A0 n0 c0 w (by omega) hB0).mono ?_
  rintro e w1 ⟨a, s, b, t, rfl, ⟨⟨a1, a2⟩, s1, s2⟩, ⟨⟨b1, b2⟩, t1, t2⟩, hb⟩
  have G1 := (((Gr.of_below hb).alloc (.cells #[.int .i64 a, .int .i64 s] 25)).alloc (.cells #[.int .i64 b, .int .i64 t] 25))
  have L1 := (((show Hass w1 [] from trivial).new' [.int .i64 a, .int .i64 s] 25 (w1.heap.size) (by simp)).new' [.int .i64 b, .int .i64 t] 25 (w1.heap.size + 1) (by simp))
  clear hb
  go_wp2_with fail
  refine (diR_impl a s b t _).mono ?_
  rintro e w2 ⟨rfl, hg⟩
  have G2 := ((G1.trans hg).alloc (.cells #[.int .i64 ((diR a s b t).1.1), .int .i64 ((diR a s b t).1.2)] 25))
  have L2 := ((L1.gr hg).new' [.int .i64 ((diR a s b t).1.1), .int .i64 ((diR a s b t).1.2)] 25 (w2.heap.size) (by simp))
  clear L1 G1 hg
  have F := L2
  obtain ⟨-, ⟨l1, z1⟩, ⟨l2, z2⟩, -⟩ := F
  go_wp2_with fail
  clear l1 z1 l2 z2
  refine (diR_spec a s b t _).mono ?_
  rintro e w3 ⟨rfl, hg⟩
  have G3 := ((G2.trans hg).alloc (.cells #[.int .i64 ((diR a s b t).1.1), .int .i64 ((diR a s b t).1.2)] 25))
  have L3 := ((L2.gr hg).new' [.int .i64 ((diR a s b t).1.1), .int .i64 ((diR a s b t).1.2)] 25 (w3.heap.size) (by simp))
  clear L2 G2 hg
  go_wp2_with fail
  refine (drawCompare_any A0 n0 c0 _ (by omega) (hB0.later G3.below)).mono ?_
  rintro e w4 ⟨x, u, y, v, rfl, -, -, hb⟩
  have G4 := (((G3.trans (Gr.of_below hb)).alloc (.cells #[.int .i64 x, .int .i64 u] 25)).alloc (.cells #[.int .i64 y, .int .i64 v] 25))
  have L4 := (((L3.below hb).new' [.int .i64 x, .int .i64 u] 25 (w4.heap.size) (by simp)).new' [.int .i64 y, .int .i64 v] 25 (w4.heap.size + 1) (by simp))
  clear L3 G3 hb
  go_wp2_with fail
  refine (cmR_impl x u y v _).mono ?_
  rintro e w5 ⟨rfl, hg⟩
  have G5 := (G4.trans hg)
  have L5 := (L4.gr hg)
  clear L4 G4 hg
  have F := L5
  obtain ⟨⟨l0, z0⟩, ⟨l1, z1⟩, -⟩ := F
  go_wp2_with fail
  clear l0 z0 l1 z1
  refine (cmR_spec x u y v _).mono ?_
  rintro e w6 ⟨rfl, hg⟩
  have G6 := (G5.trans hg)
  have L6 := (L5.gr hg)
  clear L5 G5 hg
  go_wp2_with fail
  refine (drawRelative_any A0 n0 c0 _ (by omega) (hB0.later G6.below)).mono ?_
  rintro e w7 ⟨f, g, h, i, rfl, -, -, hb⟩
  have G7 := (((G6.trans (Gr.of_below hb)).alloc (.cells #[.int .i64 f, .int .i64 g] 25)).alloc (.cells #[.int .i64 h, .int .i64 i] 25))
  have L7 := (((L6.below hb).new' [.int .i64 f, .int .i64 g] 25 (w7.heap.size) (by simp)).new' [.int .i64 h, .int .i64 i] 25 (w7.heap.size + 1) (by simp))
  clear L6 G6 hb
  go_wp2_with fail
  refine (reR_impl f g h i _).mono ?_
  rintro e w8 ⟨rfl, hg⟩
  have G8 := (G7.trans hg)
  have L8 := (L7.gr hg)
  clear L7 G7 hg
  have F := L8
  obtain ⟨⟨l0, z0⟩, ⟨l1, z1⟩, -⟩ := F
  go_wp2_with fail
  clear l0 z0 l1 z1
  refine (reR_spec f g h i _).mono ?_
  rintro e w9 ⟨rfl, hg⟩
  have G9 := (G8.trans hg)
  have L9 := (L8.gr hg)
  clear L8 G8 hg
  have hd : ((diR a s b t).2 != 0) = true ∨ ((diR a s b t).2 = 0) := by
    rcases diR_facts a s b t with ⟨h, -⟩ | ⟨h, -⟩
    · exact .inl (by simp [h])
    · exact .inr h
  have HB := Lib.hid (back_near a s b t)
  have hx := cmR_facts x u y v
  obtain ⟨k1, k2⟩ := cm_bd x u y v
  have F := L9
  obtain ⟨⟨l0, z0⟩, ⟨l1, z1⟩, ⟨l2, z2⟩, ⟨l3, z3⟩, ⟨l4, z4⟩, ⟨l5, z5⟩, ⟨l6, z6⟩, ⟨l7, z7⟩, -⟩ := F
  generalize hp1 : (diR a s b t).1.1 = p at *
  generalize hq1 : (diR a s b t).1.2 = q at *
  generalize hc1 : (diR a s b t).2 = cd1 at *
  generalize (reR f g h i).1 = re1 at *
  generalize (reR f g h i).2 = re2 at *
  clear hp1 hq1 hc1
  rcases hx with hx | ⟨hx0, hx1, hx2, hx3⟩
  · have hx0 : ((cmR x u y v).2 == 0) = false := by rw [hx]; rfl
    clear hx
    generalize (cmR x u y v).1 = c at *
    generalize (cmR x u y v).2 = cc at *
    rcases hd with hd | rfl
    · go_wp2_with fail
      go_ret
      exact ⟨rfl, G9.below⟩
    · go_wp2_with fail
      clear l0 z0 l1 z1 l2 z2 l3 z3 l4 z4 l5 z5 l6 z6 l7 z7
      refine (muR_impl p q b t _).mono ?_
      rintro e v1 ⟨rfl, hg⟩
      have H := HB.out (by simp)
      rcases H with h | ⟨h0, h1, h2⟩
      · rw [h]
        clear h
        go_wp2_with fail
        go_ret
        exact ⟨rfl, ((G9.trans hg).alloc _).below⟩
      · have H1 := Lib.hid h1
        rw [h0]
        clear h0 h1
        generalize (muR p q b t).1.1 = p1 at *
        generalize (muR p q b t).1.2 = q1 at *
        have M := (L9.gr hg).new [.int .i64 p1, .int .i64 q1] 25
        have GM := (G9.trans hg).alloc (.cells #[.int .i64 p1, .int .i64 q1] 25)
        clear hg
        have F := M
        obtain ⟨⟨l0, z0⟩, -, -, -, -, -, -, -, ⟨l8, z8⟩, -⟩ := F
        go_wp2_with fail
        refine (reR_impl p1 q1 a s _).mono ?_
        rw [H1.out]
        rintro e v2 ⟨rfl, hg⟩
        generalize (reR p1 q1 a s).1 = r at *
        go_wp2_with fail
        go_ret
        exact ⟨rfl, (GM.trans hg).below⟩
  · have HY0 := Lib.hid hx1
    have HY1 := Lib.hid hx2
    clear hx1 hx2
    generalize (cmR x u y v).1 = c at *
    generalize (cmR x u y v).2 = cc at *
    subst hx0
    rcases hx3 with ⟨rfl, rfl, rfl⟩ | ⟨hne, hc⟩
    · go_wp2_with fail
      refine (cmR_impl x u x u _).mono ?_
      rw [HY0.out, HY1.out]
      rintro e w10 ⟨rfl, hg⟩
      have G10 := G9.trans hg
      have L10 := L9.gr hg
      clear l0 z0 l1 z1 l2 z2 l3 z3 l4 z4 l5 z5 l6 z6 l7 z7
      have F := L10
      obtain ⟨⟨l0, z0⟩, ⟨l1, z1⟩, ⟨l2, z2⟩, ⟨l3, z3⟩, ⟨l4, z4⟩, ⟨l5, z5⟩, ⟨l6, z6⟩, ⟨l7, z7⟩, -⟩ := F
      rcases hd with hd | rfl
      · go_wp2_with fail
        go_ret
        exact ⟨rfl, G10.below⟩
      · go_wp2_with fail
        clear l0 z0 l1 z1 l2 z2 l3 z3 l4 z4 l5 z5 l6 z6 l7 z7
        refine (muR_impl p q b t _).mono ?_
        rintro e v1 ⟨rfl, hg⟩
        have H := HB.out (by simp)
        rcases H with h | ⟨h0, h1, h2⟩
        · rw [h]
          clear h
          go_wp2_with fail
          go_ret
          exact ⟨rfl, ((G10.trans hg).alloc _).below⟩
        · have H1 := Lib.hid h1
          rw [h0]
          clear h0 h1
          generalize (muR p q b t).1.1 = p1 at *
          generalize (muR p q b t).1.2 = q1 at *
          have M := (L10.gr hg).new [.int .i64 p1, .int .i64 q1] 25
          have GM := (G10.trans hg).alloc (.cells #[.int .i64 p1, .int .i64 q1] 25)
          clear hg
          have F := M
          obtain ⟨⟨l0, z0⟩, -, -, -, -, -, -, -, ⟨l8, z8⟩, -⟩ := F
          go_wp2_with fail
          refine (reR_impl p1 q1 a s _).mono ?_
          rw [H1.out]
          rintro e v2 ⟨rfl, hg⟩
          generalize (reR p1 q1 a s).1 = r at *
          go_wp2_with fail
          go_ret
          exact ⟨rfl, (GM.trans hg).below⟩
    · go_wp2_with fail
      refine (cmR_impl y v x u _).mono ?_
      rw [HY0.out, HY1.out]
      rintro e w10 ⟨rfl, hg⟩
      have G10 := G9.trans hg
      have L10 := L9.gr hg
      clear l0 z0 l1 z1 l2 z2 l3 z3 l4 z4 l5 z5 l6 z6 l7 z7
      have F := L10
      obtain ⟨⟨l0, z0⟩, ⟨l1, z1⟩, ⟨l2, z2⟩, ⟨l3, z3⟩, ⟨l4, z4⟩, ⟨l5, z5⟩, ⟨l6, z6⟩, ⟨l7, z7⟩, -⟩ := F
      rcases hd with hd | rfl
      · go_wp2_with fail
        go_ret
        exact ⟨rfl, G10.below⟩
      · go_wp2_with fail
        clear l0 z0 l1 z1 l2 z2 l3 z3 l4 z4 l5 z5 l6 z6 l7 z7
        refine (muR_impl p q b t _).mono ?_
        rintro e v1 ⟨rfl, hg⟩
        have H := HB.out (by simp)
        rcases H with h | ⟨h0, h1, h2⟩
        · rw [h]
          clear h
          go_wp2_with fail
          go_ret
          exact ⟨rfl, ((G10.trans hg).alloc _).below⟩
        · have H1 := Lib.hid h1
          rw [h0]
          clear h0 h1
          generalize (muR p q b t).1.1 = p1 at *
          generalize (muR p q b t).1.2 = q1 at *
          have M := (L10.gr hg).new [.int .i64 p1, .int .i64 q1] 25
          have GM := (G10.trans hg).alloc (.cells #[.int .i64 p1, .int .i64 q1] 25)
          clear hg
          have F := M
          obtain ⟨⟨l0, z0⟩, -, -, -, -, -, -, -, ⟨l8, z8⟩, -⟩ := F
          go_wp2_with fail
          refine (reR_impl p1 q1 a s _).mono ?_
          rw [H1.out]
          rintro e v2 ⟨rfl, hg⟩
          generalize (reR p1 q1 a s).1 = r at *
          go_wp2_with fail
          go_ret
          exact ⟨rfl, (GM.trans hg).below⟩

set_option maxHeartbeats 4000000 in
set_option maxRecDepth 100000 in
theorem walk (w : World) (A0 : Option Addr) (n0 c0 : Nat) (hB0 : Bytes w w.heap.size A0 n0) :
    Calls Try.prog 4 #[.slice A0 n0 c0] w (LawDone w) := by
  by_cases hbig : 4096 < n0
  · have hd : decide ((4096 : Int) < n0) = true := by simp; omega
    go_enter Try.func4, Try.ntmps4
    go_wp2_with fail
    refine (big_any A0 n0 c0 w).mono ?_
    rw [hd]
    rintro e w1 ⟨rfl, rfl⟩
    go_wp2_with fail
    go_ret
    exact ⟨rfl, Below.refl _ _⟩
  · exact walk1 w A0 n0 c0 hB0 hbig

set_option maxRecDepth 100000 in
theorem lifted (os : Os) (started : os.Started) (H : Type) (enc : TypeId × Value → H) :
    ReturnsInHanded {} Try.checked os 4 .any (Rows.fnQuotientsSpec.pre6 enc Try.prog Try.f4 Rows.fnQuotientsRow.domain false) (Rows.fnQuotientsSpec.post enc Try.prog Try.f4 false true false false) := by
  refine returnsInHanded_of_change (C := Try.checked) own started (by kernel_rfl) Try.func4
    (ChangeSpec.witness6 (enc := enc) (C := Try.checked) false ⟨#[], #[.slice none 0 0], []⟩ 8 (by kernel_rfl) (by kernel_rfl) (by kernel_rfl) (by kernel_rfl)) ?_
  intro W base args ds gs before hval0 hW hcnd _
  have hval : ∀ (j : Nat) t v, Try.f4.params[j]? = some t → args[j]? = some v → Value.okWide Try.prog W .any base t v := hval0
  have hW' := hW
  obtain ⟨p, q, hA0, hV, hpq, hfz, hnd⟩ := hW
  have hA : DataW.TrodAll enc Try.prog W 0 (fun _ => true) true Try.f4.params.toList args.toList ds p := hA0
  have hT := hA
  obtain ⟨rfl, rfl⟩ := trodVars_none hV
  rw [Try.params4] at hA hval
  obtain ⟨v0, vs0, d0, ds0, p0, q0, hargs, rfl, rfl, h0, r0⟩ := trodAll_cons hA
  obtain ⟨rfl, rfl, rfl⟩ := trodAll_nil r0
  obtain rfl : args = #[v0] := by cases args; simp_all
  obtain ⟨A0, n0, c0, rfl, -, hB0⟩ := open_code Try.underlying22 Try.underlying5 (by kernel_rfl) (hval 0 22 v0 rfl rfl) h0
  clear hA0 hval0
  refine (walk W A0 n0 c0 hB0).mono fun e W' ⟨he, hb⟩ => ?_
  subst he
  exact ⟨_, rfl, law_post laidOut hW' hT hpq (by kernel_rfl) (fun _ _ => rfl) rfl rfl rfl Try.underlying4 hb⟩

theorem over : Rows.fnQuotientsRow.holds Try.pinned (OpenSpec.ofChange Rows.fnQuotientsSpec) :=
  OpenClaim.holds_of_wide 4 Try.f4 rfl rfl rfl rfl rfl rfl rfl ⟨rfl, rfl, rfl, rfl, rfl⟩ rfl rfl rfl rfl rfl (by kernel_rfl) Try.func4 (by kernel_rfl)
    (of_decide_eq_true (by kernel_rfl)) (by unfold Func.isWrapper; first | (rw [if_pos (by decide +kernel)]; kernel_rfl) | (rw [if_neg (by decide +kernel)]; exact ⟨rfl, rfl⟩))
    (fun os started H enc _ => lifted os started H enc)

theorem proved : Rows.FnQuotientsSaid :=
  over
end Go.Proofs.Ytddnmhkhgpangaa.fnQuotients
