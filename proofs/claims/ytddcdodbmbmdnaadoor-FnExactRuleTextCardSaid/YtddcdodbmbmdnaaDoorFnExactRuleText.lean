/- For every rule the program's RuleText answers as the model does and leaves its argument as it was, and the law returns true. No condition beyond the library's and the program's tables as their texts lay them. -/
import Derived.Test.YtddcdodbmbmdnaaDoorT24
import Derived.Test.YtddcdodbmbmdnaaDoorOr
import Derived.Test.YtddcdodbmbmdnaaDoorDr
import Derived.Test.YtddcdodbmbmdnaaDoorTie
import Derived.Test.YtddcdodbmbmdnaaDoorCards
import Derived.Test.YtddcdodbmbmdnaaDoorFr
import Derived.Test.YtddcdodbmbmdnaaDoorFv
import Derived.Test.YtddcdodbmbmdnaaDoorRows
import Derived.WalkKit
import Derived.ProofKit
import Derived.OpenShut
namespace Go.Proofs.YtddcdodbmbmdnaaDoor.fnExactRuleText
open Go.ChangeShapes Go.WideShapes Go.ChangeAt Go.RowKit
set_option linter.unusedVariables false
set_option linter.unusedSimpArgs false

theorem own : ownKnob Tryd.prog.godebug = none := by kernel_rfl

theorem tab {w : World} (hL : laidMet Tryd.prog Rows.fnExactRuleTextRow.laid w) : Tab w := by
  have h := hL.filter (fun x => x.1 == "internal/strconv.uint64pow10")
  have e : Rows.fnExactRuleTextRow.laid.filter (fun x => x.1 == "internal/strconv.uint64pow10") = [("internal/strconv.uint64pow10", Lib.tabData .u64 Lib.pow10Tab)] := by rfl
  rw [e] at h
  exact Lib.tabIs_of_head (g := 2) (by kernel_rfl) (by kernel_rfl) Tryd.underlying168 Tryd.underlying143 (by kernel_rfl) (by kernel_rfl) h

theorem nmsl {w : World} (hL : laidMet Tryd.prog Rows.fnExactRuleTextRow.laid w) : Nms w := by
  have h := hL.filter (fun x => x.1 == "loop.example/g00951/impl.scaleNames")
  have e : Rows.fnExactRuleTextRow.laid.filter (fun x => x.1 == "loop.example/g00951/impl.scaleNames") = [("loop.example/g00951/impl.scaleNames", strData [[67], [65], [75], [67, 73], [67, 70], [76]])] := by rfl
  rw [e] at h
  exact nms_of (strIs_of_head (g := 0) (by kernel_rfl) (by kernel_rfl) Tryd.underlying112 Tryd.underlying9 (by kernel_rfl) (by kernel_rfl) h)


set_option maxHeartbeats 4000000 in
set_option maxRecDepth 100000 in
theorem walk (w : World) (hL : laidMet Tryd.prog Rows.fnExactRuleTextRow.laid w) (L : Int) (wfL : (Lit.int .i64 L).wf = true) (A B : Option Addr) (n c m d : Nat) (xs ys : List Int) (hx : xs.length = n) (hy : ys.length = m) (hn : n ≤ maxLen) (hm : m ≤ maxLen) (hX : Reads w w.heap.size A (xs.map vi)) (hY : Reads w w.heap.size B (ys.map vi)) :
    Calls Tryd.prog 8 #[.agg #[.int .i64 L, .slice A n c, .slice B m d]] w (LawDone w) := by
  unfold maxLen at hn hm
  by_cases hb : n + m ≤ 1048576
  rotate_left
  · go_enter Tryd.func8, Tryd.ntmps8
    go_wp2_with fail
    refine (szRule_no L A B n c m d xs ys _ hb (by omega) (by omega)).mono ?_
    rintro e w' ⟨rfl, hg⟩
    have HG := Lib.hid ((show Gr w _ from (by repeat (first | with_reducible exact Gr.refl _ | with_reducible refine Gr.alloc ?_ _ | with_reducible refine Gr.gr ?_ _ _ | with_reducible refine Gr.drew ?_ | with_reducible refine Gr.drewN ?_ _))).trans hg)
    clear hg
    go_wp2_with fail
    ((try simp only [Exit.inBlock, Exit.then]); refine bodyPost_ret (v := .bool true) (by simp [results, Tryd.results8, go_sem]) rfl ?_)
    exact ⟨rfl, HG.out.below⟩
  have HNm := Lib.hid (nmsl hL)
  have HTb := Lib.hid (tab hL)
  clear hL
  have HX := Lib.hid hX
  have HY := Lib.hid hY
  have hn1 : n ≤ 1048576 := by omega
  have hm1 : m ≤ 1048576 := by omega
  have HT := Lib.hid (fun W h h' => toRule_any L A B n c m d xs ys W hx hy hn1 hm1 h h')
  have HE := Lib.hid (fun (A B C D : Option Addr) W h1 h2 h3 h4 => eqRule_same L A B C D n n m m n m xs ys W hx hy (by omega) (by omega) h1 h2 h3 h4)
  have HS := Lib.hid (fun (b1 b2 : Nat) W h h' => ruT_spec L (some ⟨b1, 0, none⟩) (some ⟨b2, 0, none⟩) n n m m xs ys W hx hy (by omega) (by omega) (Nat.le_refl _) (Nat.le_refl _) h h')
  have HI := Lib.hid (fun (b1 b2 : Nat) W hd ht h h' => ruT_impl L (some ⟨b1, 0, none⟩) (some ⟨b2, 0, none⟩) n n m m xs ys W hx hy (by omega) (by omega) (Nat.le_refl _) (Nat.le_refl _) h h' hd ht)
  have hx4 := Lib.hid hx
  have hy4 := Lib.hid hy
  clear hx hy hX hY
  go_enter Tryd.func8, Tryd.ntmps8
  go_wp2_with fail
  have P := Blk.new w 31 #[.int .i64 L, .slice A n c, .slice B m d]
  have hG : Gr w (w.alloc (.cells #[.int .i64 L, .slice A n c, .slice B m d] 31)) := (by repeat (first | with_reducible exact Gr.refl _ | with_reducible refine Gr.alloc ?_ _ | with_reducible refine Gr.gr ?_ _ _ | with_reducible refine Gr.drew ?_ | with_reducible refine Gr.drewN ?_ _))
  generalize w.alloc (.cells #[.int .i64 L, .slice A n c, .slice B m d] 31) = v at *
  refine (szRule_ok L A B n c m d xs ys _ hb).mono ?_
  rintro e w0 ⟨rfl, hg0⟩
  have hl0 : ((1048576 : Int) - n - m < 0) = False := by simp; omega
  have hW0 := hG.trans hg0
  replace P := P.gr hg0
  clear hg0 hG
  obtain ⟨p0, p1, p2, -⟩ := P.trio
  go_wp2_with fail
  clear p0 p1 p2
  refine (HT.out _ (HX.out.gr hW0) (HY.out.gr hW0)).mono ?_
  rintro e w1 ⟨b1, b2, rfl, hb1, hb2, hr1, hr2, hl1⟩
  have hW1 := hW0.below.trans (hl1.mono hW0.below.size)
  replace P := P.below hl1 P.lt
  clear hl1 hW0
  go_wp2_with fail
  refine (HS.out b1 b2 _ hr1.reads hr2.reads).mono ?_
  rintro e w2 ⟨rfl, hg2⟩
  have hW2 := hW1.trans (hg2.below.mono hW1.size)
  replace P := P.gr hg2
  clear hr1 hr2 hg2 hW1
  obtain ⟨p0, p1, p2, -⟩ := P.trio
  go_wp2_with fail
  clear p0 p1 p2
  refine (HT.out _ (HX.out.below hW2) (HY.out.below hW2)).mono ?_
  rintro e w3 ⟨b3, b4, rfl, hb3, hb4, hr3, hr4, hl3⟩
  have hW3 := hW2.trans (hl3.mono hW2.size)
  replace P := P.below hl3 P.lt
  clear hl3 hW2
  go_wp2_with fail
  have Q := Blk.new w3 37 #[.int .i64 L, .slice (some ⟨b3, 0, none⟩) n n, .slice (some ⟨b4, 0, none⟩) m m]
  have hG3 : Gr w3 (w3.alloc (.cells #[.int .i64 L, .slice (some ⟨b3, 0, none⟩) n n, .slice (some ⟨b4, 0, none⟩) m m] 37)) := (by repeat (first | with_reducible exact Gr.refl _ | with_reducible refine Gr.alloc ?_ _ | with_reducible refine Gr.gr ?_ _ _ | with_reducible refine Gr.drew ?_ | with_reducible refine Gr.drewN ?_ _))
  generalize hv3 : w3.alloc (.cells #[.int .i64 L, .slice (some ⟨b3, 0, none⟩) n n, .slice (some ⟨b4, 0, none⟩) m m] 37) = v3 at *
  clear hv3
  have hV3 := hW3.trans (hG3.below.mono hW3.size)
  replace hr3 := hr3.gr hG3
  replace hr4 := hr4.gr hG3
  replace P := P.gr hG3
  clear hG3 hW3
  refine (HI.out b3 b4 _ (HNm.out.gr (Gr.of_below hV3)) (HTb.out.gr (Gr.of_below hV3)) hr3.reads hr4.reads).mono ?_
  rintro e w4 ⟨rfl, hg4⟩
  have hW4 := hV3.trans (hg4.below.mono hV3.size)
  replace Q := Q.gr hg4
  replace hr3 := hr3.gr hg4
  replace hr4 := hr4.gr hg4
  replace P := P.gr hg4
  clear hg4 hV3
  obtain ⟨p0, p1, p2, -⟩ := P.trio
  obtain ⟨q0, q1, q2, -⟩ := Q.trio
  go_wp2_with fail
  clear p0 p1 p2 q0 q1 q2
  have HE4 := Lib.hid (fun W h h' => toRule_ever L A B n c m d xs ys W hx4.out hy4.out hn1 hm1 h h')
  have hXY := And.intro (HX.out.below hW4) (HY.out.below hW4)
  have HQ := Lib.hid (And.intro P Q)
  have HRR := Lib.hid (And.intro hr3 hr4)
  clear P Q hr3 hr4
  refine region_grows [(2, .ever (RuF L n m xs ys) (fun _ _ _ => RuF.gr _ _ _)), (3, .is (.bool true))] (by kernel_rfl) (by kernel_rfl) ?_
  (refine lz_one rfl (fun K hK => ?_); refine ⟨rfl, ?_⟩; apply Exists.intro; refine ⟨fun wz hz => ?_, ?_⟩; (focus (obtain ⟨q0, q1, q2, -⟩ := (HQ.out.2.gr hz).trio; go_simp; (first | done | exact ⟨rfl, rfl⟩ | trivial))); (go_simp; refine hK _ _ ?_; clear hK K))
  (refine lz_one rfl (fun K hK => ?_); refine ⟨rfl, ?_⟩; apply Exists.intro; refine ⟨fun wz hz => ?_, ?_⟩; (focus (obtain ⟨p0, p1, p2, -⟩ := (HQ.out.1.gr hz).trio; go_simp; (first | done | exact ⟨rfl, rfl⟩ | trivial))); (go_simp; refine hK _ _ ?_; clear hK K))
  (refine lz_many _ rfl (fun K hK => ?_); refine ⟨rfl, fun wz hz ha => ?_, fun vz wz hz hf => ?_⟩; (focus (go_simp; exact lg_ever hz (HE4.out _ (hXY.1.gr hz) (hXY.2.gr hz)))); (obtain ⟨b5, b6, rfl, -, -⟩ := hf; clear hz wz; go_simp; refine hK _ _ ?_; clear hK K))
  (refine lz_many _ rfl (fun K hK => ?_); refine ⟨rfl, fun wz hz ha => ?_, fun vz wz hz hf => ?_⟩; (focus (obtain ⟨b7, b8, e7, h7, h8⟩ := ha ⟨2, .data⟩ (by simp) rfl; cases e7; go_simp; exact lg_call hz (HE.out _ _ _ _ _ (HRR.out.1.gr hz).reads (HRR.out.2.gr hz).reads h7.reads h8.reads))); (obtain rfl := hf; clear hz wz; go_simp; refine hK _ _ ?_; clear hK K))
  (refine lz_one rfl (fun K hK => ?_); refine ⟨rfl, ?_⟩; apply Exists.intro; refine ⟨fun wz hz => ?_, ?_⟩; (focus (skip; go_simp; (first | done | exact ⟨rfl, rfl⟩ | trivial))); (go_simp; refine hK _ _ ?_; clear hK K))
  refine lz_nil ?_
  intro w6 hg6 _
  go_wp2_with fail
  go_ret
  exact ⟨rfl, hW4.trans (hg6.below.mono hW4.size)⟩

set_option maxRecDepth 100000 in
theorem lifted (os : Os) (started : os.Started) (H : Type) (enc : TypeId × Value → H) :
    ReturnsInHanded {} Tryd.checked os 8 .any (fun w args => (Rows.fnExactRuleTextSpec.pre enc Tryd.prog Tryd.f8 Rows.fnExactRuleTextRow.domain false w args ∧ laidMetH Tryd.prog Rows.fnExactRuleTextRow.laid w) ∧ sizedMet enc Tryd.prog Tryd.f8 (OpenSpec.ofChange Rows.fnExactRuleTextSpec) false w args) (Rows.fnExactRuleTextSpec.post enc Tryd.prog Tryd.f8 false true false false) := by
  refine returnsInHanded_of_change_and (C := Tryd.checked) (X := fun w _ => laidMetH Tryd.prog Rows.fnExactRuleTextRow.laid w) (fun _ _ _ hh h => h.of_heap hh) own started (by kernel_rfl) Tryd.func8
    (ChangeSpec.witness_shaped (enc := enc) (C := Tryd.checked) (os := os) (X := fun w _ => laidMetH Tryd.prog Rows.fnExactRuleTextRow.laid w) false (World.laidAll Tryd.prog os Rows.fnExactRuleTextRow.laid) #[.agg #[.int .i64 0, .slice none 0 0, .slice none 0 0]] 8 (World.laidAll_os _ _ _)
      (World.shaped_of_ZipB (by kernel_rfl) (by kernel_rfl)) (by kernel_rfl) (by kernel_rfl) (by kernel_rfl)
      (by rw [MakeChecks.laidMetH_plain _ _ _ (by kernel_rfl)]; exact laidMet_laidAll _ (by kernel_rfl) (by kernel_rfl))) ?_
  intro W base args ds gs before hval0 hW _ _ hL _
  rw [MakeChecks.laidMetH_plain _ _ _ (by kernel_rfl)] at hL
  have hval : ∀ (j : Nat) t v, Tryd.f8.params[j]? = some t → args[j]? = some v → Value.okWide Tryd.prog W .any base t v := hval0
  have hW' := hW
  obtain ⟨p, q, hA0, hV, hpq, hfz, hnd⟩ := hW
  have hA : DataW.TrodAll enc Tryd.prog W 0 (fun _ => true) true Tryd.f8.params.toList args.toList ds p := hA0
  have hT := hA
  obtain ⟨g1, rfl⟩ := vars_one hV
  rw [Tryd.params8] at hA hval
  obtain ⟨v0, vs0, d0, ds0, p0, q0, hargs, rfl, rfl, h0, r0⟩ := trodAll_cons hA
  obtain ⟨rfl, rfl, rfl⟩ := trodAll_nil r0
  obtain rfl : args = #[v0] := by cases args; simp_all
  obtain ⟨cr0, cr1, cr2, yr0, yr1, yr2, mr, rfl, rfl, rfl, hr0, hr1, hr2⟩ := Go.Joins.open_agg3 Tryd.underlying31 (by kernel_rfl) (show Tryd.prog.cellsOf 31 = 3 by kernel_rfl) (hval 0 31 v0 rfl rfl) h0
  obtain ⟨L, er0, rfl, wfL⟩ := DataW.trod_int Tryd.underlying2 hr0
  simp at er0
  subst er0
  obtain ⟨A, n, c, xs, rfl, hx, hX, hn, -⟩ := open_icell Tryd.underlying29 Tryd.underlying2 (by kernel_rfl) hr1
  obtain ⟨B, m, d, ys, rfl, hy, hY, hm, -⟩ := open_icell Tryd.underlying29 Tryd.underlying2 (by kernel_rfl) hr2
  clear hA0 hval0
  refine (walk W hL L wfL A B n c m d xs ys hx hy hn hm hX hY).mono fun e W' ⟨he, hb⟩ => ?_
  subst he
  exact ⟨_, rfl, law_postv laidOut hW' hT hpq (by kernel_rfl) (by kernel_rfl) hV rfl rfl rfl rfl Tryd.underlying4 hb⟩

theorem over : Rows.fnExactRuleTextRow.holds Tryd.pinned (OpenSpec.ofChange Rows.fnExactRuleTextSpec) :=
  OpenClaim.holds_of_wide 8 Tryd.f8 rfl rfl rfl rfl rfl rfl rfl ⟨rfl, rfl, rfl, rfl, rfl⟩ rfl rfl rfl rfl rfl (by kernel_rfl) Tryd.func8 (by kernel_rfl)
    (of_decide_eq_true (by kernel_rfl)) (by unfold Func.isWrapper; first | (rw [if_pos (by decide +kernel)]; kernel_rfl) | (rw [if_neg (by decide +kernel)]; exact ⟨rfl, rfl⟩))
    (fun os started H enc _ => lifted os started H enc)

theorem proved : Rows.FnExactRuleTextCardSaid :=
  Claim7.holds_tied_plain_at .later [] Rows.fnExactRuleTextCard.laidKinds true Rows.fnExactRuleTextCard.stood.harness Rows.fnExactRuleTextCard.stood.looks
    over (fun _ h => by cases h) (by kernel_rfl) (fun _ h => by cases h) fnExactRuleText_row_tie rfl ⟨rfl, rfl⟩ (by kernel_rfl) rfl
    (fun f fn hf hfn => by
      obtain rfl : f = 8 := Option.some.inj ((show Tryd.prog.funcNamed Rows.fnExactRuleTextRow.func = some 8 by kernel_rfl).symm.trans hf) |>.symm
      obtain rfl : fn = Tryd.f8 := (Option.some.inj (Tryd.func8.symm.trans hfn)).symm
      exact ⟨by kernel_rfl, fun j t ht => by
        rw [Tryd.params8] at ht
        have hm : t ∈ [31] := by simpa using Array.mem_of_getElem? ht
        have hall : ([31].all fun u => !Tryd.prog.wantsStandIn u) = true := by kernel_rfl
        exact (show Tryd.prog.wantsStandIn t = false by simpa using List.all_eq_true.1 hall t hm)⟩)
    (by kernel_rfl)
end Go.Proofs.YtddcdodbmbmdnaaDoor.fnExactRuleText
