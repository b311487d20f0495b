/- For every list of moves the program's MovesText answers as the model does and leaves its argument as it was, and the law returns true. No condition beyond the library's and the program's tables as their texts lay them. -/
import Derived.Test.YtefhhigcplemaaaDoorTN
import Derived.Test.YtefhhigcplemaaaDoorOm
import Derived.Test.YtefhhigcplemaaaDoorDr
import Derived.Test.YtefhhigcplemaaaDoorTie
import Derived.Test.YtefhhigcplemaaaDoorCards
import Derived.Test.YtefhhigcplemaaaDoorFr
import Derived.Test.YtefhhigcplemaaaDoorFv
import Derived.Test.YtefhhigcplemaaaDoorRows
import Derived.WalkKit
import Derived.ProofKit
import Derived.OpenShut
namespace Go.Proofs.YtefhhigcplemaaaDoor.fnExactMovesText
open Go.ChangeShapes Go.WideShapes Go.ChangeAt Go.RowKit
set_option linter.unusedVariables false
set_option linter.unusedSimpArgs false

theorem own : ownKnob Tryd.prog.godebug = none := by kernel_rfl

theorem tab {w : World} (hL : laidMet Tryd.prog Rows.fnExactMovesTextRow.laid w) : Tab w := by
  have h := hL.filter (fun x => x.1 == "internal/strconv.uint64pow10")
  have e : Rows.fnExactMovesTextRow.laid.filter (fun x => x.1 == "internal/strconv.uint64pow10") = [("internal/strconv.uint64pow10", Lib.tabData .u64 Lib.pow10Tab)] := by rfl
  rw [e] at h
  exact Lib.tabIs_of_head (g := 5) (by kernel_rfl) (by kernel_rfl) Tryd.underlying191 Tryd.underlying162 (by kernel_rfl) (by kernel_rfl) h

theorem nmsl {w : World} (hL : laidMet Tryd.prog Rows.fnExactMovesTextRow.laid w) : Nms w := by
  have h := hL.filter (fun x => x.1 == "loop.example/g00951/impl.scaleNames")
  have e : Rows.fnExactMovesTextRow.laid.filter (fun x => x.1 == "loop.example/g00951/impl.scaleNames") = [("loop.example/g00951/impl.scaleNames", strData [[67], [65], [75], [67, 73], [67, 70], [76]])] := by rfl
  rw [e] at h
  exact nms_of (strIs_of_head (g := 0) (by kernel_rfl) (by kernel_rfl) Tryd.underlying116 Tryd.underlying9 (by kernel_rfl) (by kernel_rfl) h)


set_option maxHeartbeats 4000000 in
set_option maxRecDepth 100000 in
theorem walk (w : World) (hL : laidMet Tryd.prog Rows.fnExactMovesTextRow.laid w) (M : Option Addr) (p cp : Nat) (ms : List Mv) (hml : ms.length = p) (hM : Reads w w.heap.size M (mcells ms)) (hpM : p ≤ maxLen) :
    Calls Tryd.prog 9 #[.slice M p cp] w (LawDone w) := by
  have HNm := Lib.hid (nmsl hL)
  have HTb := Lib.hid (tab hL)
  clear hL
  unfold maxLen at hpM
  by_cases hb : p ≤ 1048576
  rotate_left
  · have hsz := szMoves_any M p cp 1048576 w (by unfold maxLen; omega) (by omega) (by omega)
    rw [if_pos (by omega)] at hsz
    go_enter Tryd.func9, Tryd.ntmps9
    go_wp2_with fail
    refine hsz.mono ?_
    rintro e w' ⟨rfl, rfl⟩
    go_wp2_with fail
    ((try simp only [Exit.inBlock, Exit.then]); refine bodyPost_ret (v := .bool true) (by simp [results, Tryd.results9, go_sem]) rfl ?_)
    exact ⟨rfl, Below.refl _ _⟩
  have hsz := szMoves_any M p cp 1048576 w (by unfold maxLen; omega) (by omega) (by omega)
  rw [if_neg (by omega)] at hsz
  have hl0 : ((1048576 : Int) - p < 0) = False := by simp; omega
  have HN := Lib.hid hml
  have HS := Lib.hid (fun (b : Nat) W h => movesText_spec (some ⟨b, 0, none⟩) p p ms W hml (by omega) h)
  have HI := Lib.hid (fun (b : Nat) W h ht hn => movesText_impl (some ⟨b, 0, none⟩) p p ms W hml (by omega) h ht hn)
  generalize mtS ms = ts at *
  generalize mvC ms = z at *
  clear hml
  go_enter Tryd.func9, Tryd.ntmps9
  go_wp2_with fail
  refine hsz.mono ?_
  rintro e w' ⟨rfl, rfl⟩
  clear hsz
  go_wp2_with fail
  refine (toMoves_any M p cp ms w HN.out hb hM).mono ?_
  rintro e w1 ⟨b1, rfl, hb1, hr1, hl1⟩
  rw [HN.out]
  go_wp2_with fail
  refine (HS.out b1 w1 hr1.reads).mono ?_
  rintro e w2 ⟨rfl, hg2⟩
  have hW2 := hl1.trans (hg2.below.mono hl1.size)
  go_wp2_with fail
  refine (toMoves_any M p cp ms w2 HN.out hb (hM.below hW2)).mono ?_
  rintro e w3 ⟨b3, rfl, hb3, hr3, hl3⟩
  have hW3 := hW2.trans (hl3.mono hW2.size)
  rw [HN.out]
  go_wp2_with fail
  refine (HI.out b3 w3 hr3.reads (HTb.out.gr (Gr.of_below hW3)) (HNm.out.gr (Gr.of_below hW3))).mono ?_
  rintro e w4 ⟨rfl, hg4⟩
  have hW4 := hW3.trans (hg4.below.mono hW3.size)
  go_wp2_with fail
  refine (toMoves_any M p cp ms w4 HN.out hb (hM.below hW4)).mono ?_
  rintro e w5 ⟨b5, rfl, hb5, hr5, hl5⟩
  have hW5 := hW4.trans (hl5.mono hW4.size)
  rw [HN.out]
  go_wp2_with fail
  refine (eqMoves_same _ _ p p p ms w5 HN.out (by omega) ((hr3.gr hg4).below hl5 (hr3.gr hg4).lt).reads hr5.reads).mono ?_
  rintro e w6 ⟨rfl, hg6⟩
  go_wp2_with fail
  go_ret
  exact ⟨rfl, hW5.trans (hg6.below.mono hW5.size)⟩

set_option maxRecDepth 100000 in
theorem lifted (os : Os) (started : os.Started) (H : Type) (enc : TypeId × Value → H) :
    ReturnsInHanded {} Tryd.checked os 9 .any (fun w args => (Rows.fnExactMovesTextSpec.pre enc Tryd.prog Tryd.f9 Rows.fnExactMovesTextRow.domain false w args ∧ laidMetH Tryd.prog Rows.fnExactMovesTextRow.laid w) ∧ sizedMet enc Tryd.prog Tryd.f9 (OpenSpec.ofChange Rows.fnExactMovesTextSpec) false w args) (Rows.fnExactMovesTextSpec.post enc Tryd.prog Tryd.f9 false true false false) := by
  refine returnsInHanded_of_change_and (C := Tryd.checked) (X := fun w _ => laidMetH Tryd.prog Rows.fnExactMovesTextRow.laid w) (fun _ _ _ hh h => h.of_heap hh) own started (by kernel_rfl) Tryd.func9
    (ChangeSpec.witness_shaped (enc := enc) (C := Tryd.checked) (os := os) (X := fun w _ => laidMetH Tryd.prog Rows.fnExactMovesTextRow.laid w) false (World.laidAll Tryd.prog os Rows.fnExactMovesTextRow.laid) #[.slice none 0 0] 8 (World.laidAll_os _ _ _)
      (World.shaped_of_ZipB (by kernel_rfl) (by kernel_rfl)) (by kernel_rfl) (by kernel_rfl) (by kernel_rfl)
      (by rw [MakeChecks.laidMetH_plain _ _ _ (by kernel_rfl)]; exact laidMet_laidAll _ (by kernel_rfl) (by kernel_rfl))) ?_
  intro W base args ds gs before hval0 hW _ _ hL _
  rw [MakeChecks.laidMetH_plain _ _ _ (by kernel_rfl)] at hL
  have hval : ∀ (j : Nat) t v, Tryd.f9.params[j]? = some t → args[j]? = some v → Value.okWide Tryd.prog W .any base t v := hval0
  have hW' := hW
  obtain ⟨p, q, hA0, hV, hpq, hfz, hnd⟩ := hW
  have hA : DataW.TrodAll enc Tryd.prog W 0 (fun _ => true) true Tryd.f9.params.toList args.toList ds p := hA0
  have hT := hA
  obtain ⟨g1, g2, rfl⟩ := vars_two hV
  rw [Tryd.params9] at hA hval
  obtain ⟨v0, vs0, d0, ds0, p0, q0, hargs, rfl, rfl, h0, r0⟩ := trodAll_cons hA
  obtain ⟨rfl, rfl, rfl⟩ := trodAll_nil r0
  obtain rfl : args = #[v0] := by cases args; simp_all
  obtain ⟨M, p, cp, ms, rfl, hml, hM, hpM⟩ := open_p4 Tryd.underlying22 Tryd.underlying37 Tryd.underlying35 (by kernel_rfl) rfl rfl rfl rfl rfl Tryd.underlying2 Tryd.underlying2 Tryd.underlying2 Tryd.underlying2 (by kernel_rfl) (by kernel_rfl) (by kernel_rfl) (by kernel_rfl) (by kernel_rfl) (hval 0 22 v0 rfl rfl) h0
  clear hA0 hval0
  refine (walk W hL M p cp ms hml hM hpM).mono fun e W' ⟨he, hb⟩ => ?_
  subst he
  exact ⟨_, rfl, law_postv laidOut hW' hT hpq (by kernel_rfl) (by kernel_rfl) hV rfl rfl rfl rfl Tryd.underlying4 hb⟩

theorem over : Rows.fnExactMovesTextRow.holds Tryd.pinned (OpenSpec.ofChange Rows.fnExactMovesTextSpec) :=
  OpenClaim.holds_of_wide 9 Tryd.f9 rfl rfl rfl rfl rfl rfl rfl ⟨rfl, rfl, rfl, rfl, rfl⟩ rfl rfl rfl rfl rfl (by kernel_rfl) Tryd.func9 (by kernel_rfl)
    (of_decide_eq_true (by kernel_rfl)) (by unfold Func.isWrapper; first | (rw [if_pos (by decide +kernel)]; kernel_rfl) | (rw [if_neg (by decide +kernel)]; exact ⟨rfl, rfl⟩))
    (fun os started H enc _ => lifted os started H enc)

theorem proved : Rows.FnExactMovesTextCardSaid :=
  Claim7.holds_tied_plain_at .later [] Rows.fnExactMovesTextCard.laidKinds true Rows.fnExactMovesTextCard.stood.harness Rows.fnExactMovesTextCard.stood.looks
    over (fun _ h => by cases h) (by kernel_rfl) (fun _ h => by cases h) fnExactMovesText_row_tie rfl ⟨rfl, rfl⟩ (by kernel_rfl) rfl
    (fun f fn hf hfn => by
      obtain rfl : f = 9 := Option.some.inj ((show Tryd.prog.funcNamed Rows.fnExactMovesTextRow.func = some 9 by kernel_rfl).symm.trans hf) |>.symm
      obtain rfl : fn = Tryd.f9 := (Option.some.inj (Tryd.func9.symm.trans hfn)).symm
      exact ⟨by kernel_rfl, fun j t ht => by
        rw [Tryd.params9] at ht
        have hm : t ∈ [22] := by simpa using Array.mem_of_getElem? ht
        have hall : ([22].all fun u => !Tryd.prog.wantsStandIn u) = true := by kernel_rfl
        exact (show Tryd.prog.wantsStandIn t = false by simpa using List.all_eq_true.1 hall t hm)⟩)
    (by kernel_rfl)
end Go.Proofs.YtefhhigcplemaaaDoor.fnExactMovesText
