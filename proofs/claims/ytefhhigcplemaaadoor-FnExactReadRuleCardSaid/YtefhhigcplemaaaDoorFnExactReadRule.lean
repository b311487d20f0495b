/- For every string the program's ReadRule answers as the model does and answers so again when the first answer was written over, and the law returns true. No condition beyond the library's and the program's tables and errors as their texts lay them. -/
import Derived.Test.YtefhhigcplemaaaDoorTR
import Derived.Test.YtefhhigcplemaaaDoorDm
import Derived.Test.YtefhhigcplemaaaDoorC11b
import Derived.Test.YtefhhigcplemaaaDoor2A
import Derived.Test.YtefhhigcplemaaaDoorDr
import Derived.Test.YtefhhigcplemaaaDoorTie
import Derived.Test.YtefhhigcplemaaaDoorCards
import Derived.Test.YtefhhigcplemaaaDoorFr
import Derived.Test.YtefhhigcplemaaaDoorFv
import Derived.Test.YtefhhigcplemaaaDoorRows
import Derived.WalkKit
import Derived.ProofKit
import Derived.OpenShut
import Derived.Test.YtefhhigcplemaaaDoorDs
import Derived.HandedShaped
namespace Go.Proofs.YtefhhigcplemaaaDoor.fnExactReadRule
open Go.ChangeShapes Go.WideShapes Go.ChangeAt Go.RowKit
set_option linter.unusedVariables false
set_option linter.unusedSimpArgs false

theorem own : ownKnob Tryd.prog.godebug = none := by kernel_rfl

theorem tab {w : World} (hL : laidMet Tryd.prog Rows.fnExactReadRuleRow.laid w) : Tab w := by
  have h := hL.filter (fun x => x.1 == "internal/strconv.uint64pow10")
  have e : Rows.fnExactReadRuleRow.laid.filter (fun x => x.1 == "internal/strconv.uint64pow10") = [("internal/strconv.uint64pow10", Lib.tabData .u64 Lib.pow10Tab)] := by rfl
  rw [e] at h
  exact Lib.tabIs_of_head (g := 5) (by kernel_rfl) (by kernel_rfl) Tryd.underlying191 Tryd.underlying162 (by kernel_rfl) (by kernel_rfl) h

theorem errs {w : World} (hL : laidMet Tryd.prog Rows.fnExactReadRuleRow.laid w) : Errs w := by
  have h1 := hL.filter (fun x => x.1 == "strconv.ErrSyntax")
  have e1 : Rows.fnExactReadRuleRow.laid.filter (fun x => x.1 == "strconv.ErrSyntax") = [("strconv.ErrSyntax", Rows.laid_strconv_ErrSyntax)] := by rfl
  rw [e1] at h1
  have h2 := hL.filter (fun x => x.1 == "strconv.ErrRange")
  have e2 : Rows.fnExactReadRuleRow.laid.filter (fun x => x.1 == "strconv.ErrRange") = [("strconv.ErrRange", Rows.laid_strconv_ErrRange)] := by rfl
  rw [e2] at h2
  exact errs_of h1 h2

theorem nmsl {w : World} (hL : laidMet Tryd.prog Rows.fnExactReadRuleRow.laid w) : Nms w := by
  have h := hL.filter (fun x => x.1 == "loop.example/g00951/impl.scaleNames")
  have e : Rows.fnExactReadRuleRow.laid.filter (fun x => x.1 == "loop.example/g00951/impl.scaleNames") = [("loop.example/g00951/impl.scaleNames", strData [[67], [65], [75], [67, 73], [67, 70], [76]])] := by rfl
  rw [e] at h
  exact nms_of (strIs_of_head (g := 0) (by kernel_rfl) (by kernel_rfl) Tryd.underlying116 Tryd.underlying9 (by kernel_rfl) (by kernel_rfl) h)

theorem rr_len {s : ByteArray} {L : Int} {xs ys : List Int} (h : rrS s = some (L, xs, ys)) : xs.length ≤ 6 ∧ ys.length ≤ 6 := by
  unfold rrS rrL at h
  split at h
  · have h2 := ((rrM_iff _ _ _ _ _ _).1 h).2.2.2
    obtain ⟨-, ⟨x1, -⟩, y1, -⟩ := rl_names h2
    exact ⟨x1, y1⟩
  · cases h


set_option maxHeartbeats 4000000 in
set_option maxRecDepth 100000 in
theorem walk (w : World) (hL : laidMet Tryd.prog Rows.fnExactReadRuleRow.laid w) (hsh : w.ShapedOpen Tryd.prog) (s0 : ByteArray) (ws0 : s0.size ≤ maxLen) :
    Calls Tryd.prog 10 #[.string s0] w (LawDone w) := by
  have HT := Lib.hid (tab hL)
  have HE := Lib.hid (errs hL)
  have HM := Lib.hid (nmsl hL)
  have HSH := Lib.hid hsh
  clear hL hsh
  unfold maxLen at ws0
  by_cases hb : 1048576 < s0.size
  · go_enter Tryd.func10, Tryd.ntmps10
    go_wp2
    go_ret
    exact ⟨rfl, Below.refl _ _⟩
  have hsz : s0.size ≤ 1048576 := by omega
  have HI := Lib.hid (fun W (h : Below w.heap.size w W) => readRule_impl s0 W hsz (HM.out.gr (Gr.of_below h)) (HE.out.gr (Gr.of_below h)) (HT.out.later h) (shaped_below HSH.out h))
  have HS := Lib.hid (readRule_spec s0 w hsz)
  have hlen := fun L xs ys => rr_len (s := s0) (L := L) (xs := xs) (ys := ys)
  rw [← rr_eq] at HI
  clear HT HE HM HSH
  generalize rrS s0 = R at *
  go_enter Tryd.func10, Tryd.ntmps10
  go_wp2_with fail
  refine HS.out.mono ?_
  clear HS
  cases R with
  | none =>
    rintro e w1 ⟨rfl, hW1⟩
    have A0 := Blk.new w1 42 #[.int .i64 0, .slice none 0 0, .slice none 0 0]
    have hV1 := hW1.trans ((show Gr w1 (w1.alloc (.cells #[.int .i64 0, .slice none 0 0, .slice none 0 0] 42)) from (by repeat (first | with_reducible exact Gr.refl _ | with_reducible refine Gr.alloc ?_ _ | with_reducible refine Gr.gr ?_ _ _ | with_reducible refine Gr.drew ?_ | with_reducible refine Gr.drewN ?_ _))).below.mono hW1.size)
    go_wp2_with fail
    generalize w1.alloc (.cells #[.int .i64 0, .slice none 0 0, .slice none 0 0] 42) = v1 at *
    refine (HI.out v1 hV1).mono ?_
    rintro e w2 ⟨rfl, hd2⟩
    have hW2 := hV1.trans (hd2.mono hV1.size)
    have hg : Gr w2 (w2.alloc (.cells #[.int .i64 0, .slice none 0 0, .slice none 0 0] 42)) := (by repeat (first | with_reducible exact Gr.refl _ | with_reducible refine Gr.alloc ?_ _ | with_reducible refine Gr.gr ?_ _ _ | with_reducible refine Gr.drew ?_ | with_reducible refine Gr.drewN ?_ _))
    have A2 := (A0.below hd2 A0.lt).gr hg
    have G2 := Blk.new w2 42 #[.int .i64 0, .slice none 0 0, .slice none 0 0]
    have hV2 := hW2.trans (hg.below.mono hW2.size)
    clear hd2 hW2 hV1 hW1 A0 hg
    obtain ⟨a0, a1, a2, -⟩ := A2.trio
    obtain ⟨g0, g1, g2, -⟩ := G2.trio
    have al := A2.lt
    go_wp2_with fail
    generalize w2.alloc (.cells #[.int .i64 0, .slice none 0 0, .slice none 0 0] 42) = v2 at *
    clear a0 a1 a2 g0 g1 g2 al
    refine (eqRule_same 0 none none none none 0 0 0 0 0 0 [] [] _ rfl rfl (by omega) (by omega) (Reads.nil _ _ _) (Reads.nil _ _ _) (Reads.nil _ _ _) (Reads.nil _ _ _)).mono ?_
    rintro e w3 ⟨rfl, hg3⟩
    have hW3 := hV2.trans (hg3.below.mono hV2.size)
    replace A2 := A2.gr hg3
    replace G2 := G2.gr hg3
    clear hV2 hg3
    obtain ⟨g0, g1, g2, -⟩ := G2.trio
    go_wp2_with fail
    clear g0 g1 g2
    refine (markRule_nil 0 _).mono ?_
    rintro e w4 ⟨rfl, hg4⟩
    have hW4 := hW3.trans (hg4.below.mono hW3.size)
    replace A2 := A2.gr hg4
    replace G2 := G2.gr hg4
    clear hW3 hg4
    obtain ⟨g0, g1, g2, -⟩ := G2.trio
    go_wp2_with fail
    clear g0 g1 g2
    refine (heldRule_nil 0 _).mono ?_
    rintro e w5 ⟨rfl, hg5⟩
    have hW5 := hW4.trans (hg5.below.mono hW4.size)
    replace A2 := A2.gr hg5
    replace G2 := G2.gr hg5
    clear hW4 hg5
    go_wp2_with fail
    refine (HI.out w5 hW5).mono ?_
    rintro e w6 ⟨rfl, hd6⟩
    have hW6 := hW5.trans (hd6.mono hW5.size)
    have hg : Gr w6 (w6.alloc (.cells #[.int .i64 0, .slice none 0 0, .slice none 0 0] 42)) := (by repeat (first | with_reducible exact Gr.refl _ | with_reducible refine Gr.alloc ?_ _ | with_reducible refine Gr.gr ?_ _ _ | with_reducible refine Gr.drew ?_ | with_reducible refine Gr.drewN ?_ _))
    replace A2 := (A2.below hd6 A2.lt).gr hg
    replace G2 := (G2.below hd6 G2.lt).gr hg
    have H2 := Blk.new w6 42 #[.int .i64 0, .slice none 0 0, .slice none 0 0]
    have hV6 := hW6.trans (hg.below.mono hW6.size)
    clear hd6 hW6 hW5 hg
    obtain ⟨a0, a1, a2, -⟩ := A2.trio
    obtain ⟨g0, g1, g2, -⟩ := H2.trio
    have al := A2.lt
    go_wp2_with fail
    generalize w6.alloc (.cells #[.int .i64 0, .slice none 0 0, .slice none 0 0] 42) = v6 at *
    clear a0 a1 a2 g0 g1 g2 al
    refine (eqRule_same 0 none none none none 0 0 0 0 0 0 [] [] _ rfl rfl (by omega) (by omega) (Reads.nil _ _ _) (Reads.nil _ _ _) (Reads.nil _ _ _) (Reads.nil _ _ _)).mono ?_
    rintro e w7 ⟨rfl, hg7⟩
    have hW7 := hV6.trans (hg7.below.mono hV6.size)
    replace G2 := G2.gr hg7
    clear hV6 hg7
    obtain ⟨g0, g1, g2, -⟩ := G2.trio
    go_wp2_with fail
    clear g0 g1 g2
    refine (heldRule_nil 0 _).mono ?_
    rintro e w8 ⟨rfl, hg8⟩
    have hW8 := hW7.trans (hg8.below.mono hW7.size)
    clear hW7 hg8
    go_wp2_with fail
    go_ret
    exact ⟨rfl, hW8⟩
  | some x =>
    obtain ⟨L, xs, ys⟩ := x
    obtain ⟨lx, ly⟩ := hlen L xs ys rfl
    obtain ⟨n, hn⟩ : ∃ n, xs.length = n := ⟨_, rfl⟩
    obtain ⟨m, hm⟩ : ∃ m, ys.length = m := ⟨_, rfl⟩
    have HN := Lib.hid (And.intro hn hm)
    rw [hn] at lx
    rw [hm] at ly
    have HEq := Lib.hid (fun A B C D c d c' d' W h1 h2 h3 h4 => eqRule_same L A B C D n c m d c' d' xs ys W hn hm (by omega) (by omega) h1 h2 h3 h4)
    clear hn hm hlen
    rintro e w1 ⟨a1, c1, a2, c2, r1, r2, rfl, ha1, ha2, hb1, hb2, hne1, R1, R2, hW1⟩
    rw [HN.out.1, HN.out.2]
    clear ha1 ha2 hb1 hb2 hne1
    have A0 := Blk.new w1 42 #[.int .i64 L, .slice (some ⟨a1, 0, none⟩) n c1, .slice (some ⟨a2, 0, none⟩) m c2]
    have hg : Gr w1 (w1.alloc (.cells #[.int .i64 L, .slice (some ⟨a1, 0, none⟩) n c1, .slice (some ⟨a2, 0, none⟩) m c2] 42)) := (by repeat (first | with_reducible exact Gr.refl _ | with_reducible refine Gr.alloc ?_ _ | with_reducible refine Gr.gr ?_ _ _ | with_reducible refine Gr.drew ?_ | with_reducible refine Gr.drewN ?_ _))
    have hV1 := hW1.trans (hg.below.mono hW1.size)
    replace R1 := R1.gr hg
    replace R2 := R2.gr hg
    clear hg
    have P1 := Lib.hid (And.intro R1 R2)
    have r1l := R1.lt
    have r2l := R2.lt
    clear R1 R2
    go_wp2_with fail
    generalize w1.alloc (.cells #[.int .i64 L, .slice (some ⟨a1, 0, none⟩) n c1, .slice (some ⟨a2, 0, none⟩) m c2] 42) = v1 at *
    refine (HI.out v1 hV1).mono ?_
    rintro e w2 ⟨b1, d1, b2, d2, q1, q2, rfl, hd1, hd2, hc1, hc2, hne2, S1, S2, hl2⟩
    rw [HN.out.1, HN.out.2]
    clear hd1 hd2 hW1
    have hW2 := hV1.trans (hl2.mono hV1.size)
    have hg : Gr w2 (w2.alloc (.cells #[.int .i64 L, .slice (some ⟨b1, 0, none⟩) n d1, .slice (some ⟨b2, 0, none⟩) m d2] 42)) := (by repeat (first | with_reducible exact Gr.refl _ | with_reducible refine Gr.alloc ?_ _ | with_reducible refine Gr.gr ?_ _ _ | with_reducible refine Gr.drew ?_ | with_reducible refine Gr.drewN ?_ _))
    have A2 := (A0.below hl2 A0.lt).gr hg
    have a0l := A0.lt
    have G2 := Blk.new w2 42 #[.int .i64 L, .slice (some ⟨b1, 0, none⟩) n d1, .slice (some ⟨b2, 0, none⟩) m d2]
    have P2 := Lib.hid (And.intro (And.intro ((P1.out.1.below hl2 r1l).gr hg) ((P1.out.2.below hl2 r2l).gr hg)) (And.intro (S1.gr hg) (S2.gr hg)))
    have s1l := S1.lt
    have s2l := S2.lt
    have hv12 := hl2.size
    have hz2 : (w2.alloc (.cells #[.int .i64 L, .slice (some ⟨b1, 0, none⟩) n d1, .slice (some ⟨b2, 0, none⟩) m d2] 42)).heap.size = w2.heap.size + 1 := World.size_alloc ..
    have hV2 := hW2.trans (hg.below.mono hW2.size)
    clear hl2 hW2 hg S1 S2 P1 A0
    obtain ⟨a0, a1, a2, -⟩ := A2.trio
    obtain ⟨g0, g1, g2, -⟩ := G2.trio
    have al := A2.lt
    have hvs := hV1.size
    go_wp2_with fail
    generalize w2.alloc (.cells #[.int .i64 L, .slice (some ⟨b1, 0, none⟩) n d1, .slice (some ⟨b2, 0, none⟩) m d2] 42) = v2 at *
    clear a0 a1 a2 g0 g1 g2 al
    refine (HEq.out _ _ _ _ _ _ _ _ _ P2.out.2.1.readsL P2.out.2.2.readsL P2.out.1.1.readsL P2.out.1.2.readsL).mono ?_
    rintro e w3 ⟨rfl, hg3⟩
    have hW3 := hV2.trans (hg3.below.mono hV2.size)
    replace A2 := A2.gr hg3
    replace G2 := G2.gr hg3
    have P3 := Lib.hid (And.intro (And.intro (P2.out.1.1.gr hg3) (P2.out.1.2.gr hg3)) (And.intro (P2.out.2.1.gr hg3) (P2.out.2.2.gr hg3)))
    have hs3 := hg3.below.size
    clear hV2 hg3 P2
    obtain ⟨g0, g1, g2, -⟩ := G2.trio
    go_wp2_with fail
    clear g0 g1 g2
    refine (markRule_any L b1 d1 b2 d2 n m v1.heap.size xs ys q1 q2 _ HN.out.1 HN.out.2 (by omega) (by omega) hne2 (by omega) hc1 hc2 P3.out.2.1 P3.out.2.2).mono ?_
    rintro e w4 ⟨rfl, M1, M2, hl4, hfar⟩
    have P4 := Lib.hid (And.intro (And.intro (P3.out.1.1.below hl4 r1l) (P3.out.1.2.below hl4 r2l)) (And.intro M1 M2))
    have hW4 := hW3.trans (hl4.mono hvs)
    replace A2 := A2.below hl4 a0l
    replace G2 := hfar _ _ _ G2 (by omega) (by omega)
    clear M1 M2 hl4 P3 hW3 hfar
    obtain ⟨g0, g1, g2, -⟩ := G2.trio
    go_wp2_with fail
    clear g0 g1 g2
    refine (heldRule_any L b1 d1 b2 d2 n m q1 q2 _ (by omega) (by omega) P4.out.2.1 P4.out.2.2).mono ?_
    rintro e w5 ⟨rfl, hg5⟩
    have P5 := Lib.hid (And.intro (And.intro (P4.out.1.1.gr hg5) (P4.out.1.2.gr hg5)) (And.intro (P4.out.2.1.gr hg5) (P4.out.2.2.gr hg5)))
    replace A2 := A2.gr hg5
    replace G2 := G2.gr hg5
    have hW5 := hW4.trans (hg5.below.mono hW4.size)
    have i1 : ¬ ((1 : Int) + n + m < 0) := by omega
    clear hg5 hW4 P4
    go_wp2_with fail
    refine (HI.out w5 hW5).mono ?_
    rintro e w6 ⟨b3, d3, b4, d4, q3, q4, rfl, hd3, hd4, hc3, hc4, hne3, S3, S4, hl6⟩
    rw [HN.out.1, HN.out.2]
    have hg : Gr w6 (w6.alloc (.cells #[.int .i64 L, .slice (some ⟨b3, 0, none⟩) n d3, .slice (some ⟨b4, 0, none⟩) m d4] 42)) := (by repeat (first | with_reducible exact Gr.refl _ | with_reducible refine Gr.alloc ?_ _ | with_reducible refine Gr.gr ?_ _ _ | with_reducible refine Gr.drew ?_ | with_reducible refine Gr.drewN ?_ _))
    have P6 := Lib.hid (And.intro (And.intro ((P5.out.1.1.below hl6 P5.out.1.1.lt).gr hg) ((P5.out.1.2.below hl6 P5.out.1.2.lt).gr hg)) (And.intro ((P5.out.2.1.below hl6 P5.out.2.1.lt).gr hg) ((P5.out.2.2.below hl6 P5.out.2.2.lt).gr hg)))
    have P7 := Lib.hid (And.intro (S3.gr hg) (S4.gr hg))
    have hW6 := hW5.trans (hl6.mono hW5.size)
    replace A2 := (A2.below hl6 A2.lt).gr hg
    replace G2 := (G2.below hl6 G2.lt).gr hg
    have H2 := Blk.new w6 42 #[.int .i64 L, .slice (some ⟨b3, 0, none⟩) n d3, .slice (some ⟨b4, 0, none⟩) m d4]
    have hV6 := hW6.trans (hg.below.mono hW6.size)
    clear S3 S4 hd3 hd4 hc3 hc4 hne3 hl6 P5 hW5 hW6 hg
    obtain ⟨a0, a1, a2, -⟩ := A2.trio
    obtain ⟨g0, g1, g2, -⟩ := H2.trio
    have al := A2.lt
    go_wp2_with fail
    generalize w6.alloc (.cells #[.int .i64 L, .slice (some ⟨b3, 0, none⟩) n d3, .slice (some ⟨b4, 0, none⟩) m d4] 42) = v6 at *
    clear a0 a1 a2 g0 g1 g2 al
    refine (HEq.out _ _ _ _ _ _ _ _ _ P7.out.1.readsL P7.out.2.readsL P6.out.1.1.readsL P6.out.1.2.readsL).mono ?_
    rintro e w7 ⟨rfl, hg7⟩
    have P8 := Lib.hid (And.intro (P6.out.2.1.gr hg7) (P6.out.2.2.gr hg7))
    replace G2 := G2.gr hg7
    have hW7 := hV6.trans (hg7.below.mono hV6.size)
    clear hg7 hV6 P6 P7
    obtain ⟨g0, g1, g2, -⟩ := G2.trio
    go_wp2_with fail
    clear g0 g1 g2
    refine (heldRule_any L b1 d1 b2 d2 n m q1 q2 _ (by omega) (by omega) P8.out.1 P8.out.2).mono ?_
    rintro e w8 ⟨rfl, hg8⟩
    have hW8 := hW7.trans (hg8.below.mono hW7.size)
    clear hg8 hW7 P8
    go_wp2_with fail
    go_ret
    exact ⟨rfl, hW8⟩

set_option maxRecDepth 100000 in
theorem lifted (os : Os) (started : os.Started) (H : Type) (enc : TypeId × Value → H) :
    ReturnsInHanded {} Tryd.checked os 10 .any (fun w args => (Rows.fnExactReadRuleSpec.pre enc Tryd.prog Tryd.f10 Rows.fnExactReadRuleRow.domain false w args ∧ laidMetH Tryd.prog Rows.fnExactReadRuleRow.laid w) ∧ sizedMet enc Tryd.prog Tryd.f10 (OpenSpec.ofChange Rows.fnExactReadRuleSpec) false w args) (Rows.fnExactReadRuleSpec.post enc Tryd.prog Tryd.f10 false true false false) := by
  refine handed_told (C := Tryd.checked) (X := fun w _ => laidMetH Tryd.prog Rows.fnExactReadRuleRow.laid w) (fun _ _ _ hh h => h.of_heap hh) own started (by kernel_rfl) Tryd.func10
    (ChangeSpec.witness_shaped (enc := enc) (C := Tryd.checked) (os := os) (X := fun w _ => laidMetH Tryd.prog Rows.fnExactReadRuleRow.laid w) false (World.laidAll Tryd.prog os Rows.fnExactReadRuleRow.laid) #[.string ⟨#[]⟩] 8 (World.laidAll_os _ _ _)
      (World.shaped_of_ZipB (by kernel_rfl) (by kernel_rfl)) (by kernel_rfl) (by kernel_rfl) (by kernel_rfl)
      (by rw [MakeChecks.laidMetH_plain _ _ _ (by kernel_rfl)]; exact laidMet_laidAll _ (by kernel_rfl) (by kernel_rfl))) ?_
  intro W args ds gs before hval0 hW hL hsh
  rw [MakeChecks.laidMetH_plain _ _ _ (by kernel_rfl)] at hL
  have hval : ∀ (j : Nat) t v, Tryd.f10.params[j]? = some t → args[j]? = some v → Value.okWide Tryd.prog W .any W.heap.size t v := hval0
  have hW' := hW
  obtain ⟨p, q, hA0, hV, hpq, hfz, hnd⟩ := hW
  have hA : DataW.TrodAll enc Tryd.prog W 0 (fun _ => true) true Tryd.f10.params.toList args.toList ds p := hA0
  have hT := hA
  obtain ⟨g1, rfl⟩ := vars_one hV
  rw [Tryd.params10] at hA hval
  obtain ⟨v0, vs0, d0, ds0, p0, q0, hargs, rfl, rfl, h0, r0⟩ := trodAll_cons hA
  obtain ⟨rfl, rfl, rfl⟩ := trodAll_nil r0
  obtain rfl : args = #[v0] := by cases args; simp_all
  obtain ⟨s0, rfl, -, -, ws0⟩ := Go.ChangeMaps.open_string Tryd.underlying9 (hval 0 9 v0 rfl rfl) h0
  clear hA0 hval0
  refine (walk W hL hsh s0 ws0).mono fun e W' ⟨he, hb⟩ => ?_
  subst he
  exact ⟨_, rfl, law_postv laidOut hW' hT hpq (by kernel_rfl) (by kernel_rfl) hV rfl rfl rfl rfl Tryd.underlying4 hb⟩

theorem over : Rows.fnExactReadRuleRow.holds Tryd.pinned (OpenSpec.ofChange Rows.fnExactReadRuleSpec) :=
  OpenClaim.holds_of_wide 10 Tryd.f10 rfl rfl rfl rfl rfl rfl rfl ⟨rfl, rfl, rfl, rfl, rfl⟩ rfl rfl rfl rfl rfl (by kernel_rfl) Tryd.func10 (by kernel_rfl)
    (of_decide_eq_true (by kernel_rfl)) (by unfold Func.isWrapper; first | (rw [if_pos (by decide +kernel)]; kernel_rfl) | (rw [if_neg (by decide +kernel)]; exact ⟨rfl, rfl⟩))
    (fun os started H enc _ => lifted os started H enc)

theorem proved : Rows.FnExactReadRuleCardSaid :=
  Claim7.holds_tied_plain_at .later [] Rows.fnExactReadRuleCard.laidKinds true Rows.fnExactReadRuleCard.stood.harness Rows.fnExactReadRuleCard.stood.looks
    over (fun _ h => by cases h) (by kernel_rfl) (fun _ h => by cases h) fnExactReadRule_row_tie rfl ⟨rfl, rfl⟩ (by kernel_rfl) rfl
    (fun f fn hf hfn => by
      obtain rfl : f = 10 := Option.some.inj ((show Tryd.prog.funcNamed Rows.fnExactReadRuleRow.func = some 10 by kernel_rfl).symm.trans hf) |>.symm
      obtain rfl : fn = Tryd.f10 := (Option.some.inj (Tryd.func10.symm.trans hfn)).symm
      exact ⟨by kernel_rfl, fun j t ht => by
        rw [Tryd.params10] at ht
        have hm : t ∈ [9] := by simpa using Array.mem_of_getElem? ht
        have hall : ([9].all fun u => !Tryd.prog.wantsStandIn u) = true := by kernel_rfl
        exact (show Tryd.prog.wantsStandIn t = false by simpa using List.all_eq_true.1 hall t hm)⟩)
    (by kernel_rfl)
end Go.Proofs.YtefhhigcplemaaaDoor.fnExactReadRule
