/- For every rule, setting and list of moves, valid or not, the program's FirstImpossible answers as the model does and leaves its arguments as they were, and the law returns true. No condition beyond the program's table as its text lays it. -/
import Derived.Test.YtefhhigcplemaaaDoor12D
import Derived.Test.YtefhhigcplemaaaDoorOm
import Derived.Test.YtefhhigcplemaaaDoor2A
import Derived.Test.YtefhhigcplemaaaDoorC11m
import Derived.Test.YtefhhigcplemaaaDoorOr
import Derived.Test.YtefhhigcplemaaaDoorDr
import Derived.Test.YtefhhigcplemaaaDoorTie
import Derived.Test.YtefhhigcplemaaaDoorCards
import Derived.Test.YtefhhigcplemaaaDoorFr
import Derived.Test.YtefhhigcplemaaaDoorFv
import Derived.Test.YtefhhigcplemaaaDoorRows
import Derived.WalkKit
import Derived.ProofKit
import Derived.OpenShut
import Derived.Lib.SmallJoins
namespace Go.Proofs.YtefhhigcplemaaaDoor.fnExactFirstImpossible
open Go.ChangeShapes Go.WideShapes Go.ChangeAt Go.RowKit
set_option linter.unusedVariables false
set_option linter.unusedSimpArgs false

theorem own : ownKnob Tryd.prog.godebug = none := by kernel_rfl

theorem dcsl {w : World} (hL : laidMet Tryd.prog Rows.fnExactFirstImpossibleRow.laid w) : Dcs w := by
  have h := hL.filter (fun x => x.1 == "loop.example/g00951/impl.scaleDecades")
  have e : Rows.fnExactFirstImpossibleRow.laid.filter (fun x => x.1 == "loop.example/g00951/impl.scaleDecades") = [("loop.example/g00951/impl.scaleDecades", Lib.tabData .i64 [1, 2, 3, 1, 1, 1])] := by rfl
  rw [e] at h
  exact dcs_of (Lib.tabIs_of_head (g := 1) (by kernel_rfl) (by kernel_rfl) Tryd.underlying181 Tryd.underlying2 (by kernel_rfl) (by kernel_rfl) h)

/-- The list of moves that a law makes. -/
def MvF (ms : List Mv) (p : Nat) (v : Value) (w : World) : Prop := ∃ b : Nat, v = .slice (some ⟨b, 0, none⟩) p p ∧ Row w b 47 (mcells ms)
theorem MvF.gr {ms : List Mv} {p : Nat} (v : Value) (w w' : World) (hg : Gr w w') (h : MvF ms p v w) : MvF ms p v w' := by
  obtain ⟨b, e, h⟩ := h
  exact ⟨b, e, h.gr hg⟩
theorem MvF.ty {T : TypeId} (hT : 47 ≠ T) {ms : List Mv} {p : Nat} (v : Value) (w w' : World) (hg : Ty T w w') (h : MvF ms p v w) : MvF ms p v w' := by
  obtain ⟨b, e, h⟩ := h
  exact ⟨b, e, h.ty hT hg⟩
theorem toMoves_ever (A : Option Addr) (n c : Nat) (zs : List Mv) (w : World) (hn : zs.length = n) (hN : n ≤ 1048576) (hR : Reads w w.heap.size A (mcells zs)) :
    Calls Tryd.prog 13 #[.slice A n c] w fun e w' => ∃ v, e = .returned v ∧ MvF zs n v w' ∧ Gr w w' :=
  (toMoves_any A n c zs w hn hN hR).mono fun e w' ⟨b, he, _, hr, hb⟩ => ⟨_, he, ⟨b, by rw [hn], hr⟩, Gr.of_below hb⟩


set_option maxHeartbeats 4000000 in
set_option maxRecDepth 100000 in
theorem walk (w : World) (hL : laidMet Tryd.prog Rows.fnExactFirstImpossibleRow.laid w) (L : Int) (wfL : (Lit.int .i64 L).wf = true) (A B : Option Addr) (n c m d : Nat) (xs ys : List Int) (hx : xs.length = n) (hy : ys.length = m) (hn : n ≤ maxLen) (hm : m ≤ maxLen) (hX : Reads w w.heap.size A (xs.map vi)) (hY : Reads w w.heap.size B (ys.map vi)) (a1_0 : Int) (wf1_0 : (Lit.int .i64 a1_0).wf = true) (a1_1 : Int) (wf1_1 : (Lit.int .i64 a1_1).wf = true) (M : Option Addr) (p cp : Nat) (ms : List Mv) (hml : ms.length = p) (hM : Reads w w.heap.size M (mcells ms)) (hpM : p ≤ maxLen) :
    Calls Tryd.prog 6 #[.agg #[.int .i64 L, .slice A n c, .slice B m d], .agg #[.int .i64 a1_0, .int .i64 a1_1], .slice M p cp] w (LawDone w) := by
  have HD := Lib.hid (dcsl hL)
  clear hL
  unfold maxLen at hn hm
  by_cases hb : n + m ≤ 1048576
  rotate_left
  · go_enter Tryd.func6, Tryd.ntmps6
    go_wp2_with fail
    refine (szRule_no L A B n c m d xs ys _ hb (by omega) (by omega)).mono ?_
    rintro e w' ⟨rfl, hg⟩
    have HG := Lib.hid ((show Gr w _ from (by repeat (first | with_reducible exact Gr.refl _ | with_reducible refine Gr.alloc ?_ _ | with_reducible refine Gr.gr ?_ _ _ | with_reducible refine Gr.drew ?_ | with_reducible refine Gr.drewN ?_ _))).trans hg)
    clear hg
    go_wp2_with fail
    ((try simp only [Exit.inBlock, Exit.then]); refine bodyPost_ret (v := .bool true) (by simp [results, Tryd.results6, go_sem]) rfl ?_)
    exact ⟨rfl, HG.out.below⟩
  have hl0 : ((1048576 : Int) - n - m < 0) = False := by simp; omega
  by_cases hb2 : n + m + p ≤ 1048576
  rotate_left
  · have HSz := Lib.hid (fun W => szMoves_any M p cp (1048576 - n - m) W hpM (by omega) (by omega))
    rw [if_pos (by omega)] at HSz
    go_enter Tryd.func6, Tryd.ntmps6
    go_wp2_with fail
    refine (szRule_ok L A B n c m d xs ys _ hb).mono ?_
    rintro e w0 ⟨rfl, hg0⟩
    have HG := Lib.hid ((show Gr w _ from (by repeat (first | with_reducible exact Gr.refl _ | with_reducible refine Gr.alloc ?_ _ | with_reducible refine Gr.gr ?_ _ _ | with_reducible refine Gr.drew ?_ | with_reducible refine Gr.drewN ?_ _))).trans hg0)
    clear hg0
    go_wp2_with fail
    refine (HSz.out _).mono ?_
    rintro e w1 ⟨rfl, rfl⟩
    go_wp2_with fail
    ((try simp only [Exit.inBlock, Exit.then]); refine bodyPost_ret (v := .bool true) (by simp [results, Tryd.results6, go_sem]) rfl ?_)
    exact ⟨rfl, HG.out.below⟩
  have HSz := Lib.hid (fun W => szMoves_any M p cp (1048576 - n - m) W hpM (by omega) (by omega))
  rw [if_neg (by omega)] at HSz
  have hl1 : ((1048576 : Int) - n - m - p < 0) = False := by simp; omega
  have HX := Lib.hid hX
  have HY := Lib.hid hY
  have HMv := Lib.hid hM
  have hn1 : n ≤ 1048576 := by omega
  have hm1 : m ≤ 1048576 := by omega
  have hp1 : p ≤ 1048576 := by omega
  have HN := Lib.hid hml
  have HT := Lib.hid (fun W h h' => toRule_any L A B n c m d xs ys W hx hy hn1 hm1 h h')
  have HE4 := Lib.hid (fun W h h' => toRule_ever L A B n c m d xs ys W hx hy hn1 hm1 h h')
  have HTM := Lib.hid (fun W h => toMoves_any M p cp ms W hml hp1 h)
  have HTE := Lib.hid (fun W h => toMoves_ever M p cp ms W hml hp1 h)
  have HE := Lib.hid (fun (A B C D : Option Addr) W h1 h2 h3 h4 => eqRule_same L A B C D n n m m n m xs ys W hx hy (by omega) (by omega) h1 h2 h3 h4)
  have HEM := Lib.hid (fun (A B : Option Addr) W h1 h2 => eqMoves_same A B p p p ms W hml (by omega) h1 h2)
  have HS := Lib.hid (fun (b1 b2 b3 : Nat) W h h' h3 => firstImp_spec a1_0 a1_1 L (some ⟨b1, 0, none⟩) (some ⟨b2, 0, none⟩) n n m m xs ys (some ⟨b3, 0, none⟩) p p ms W hx hy (by omega) (by omega) (Nat.le_refl _) (Nat.le_refl _) h h' hml (by omega) h3)
  have HI := Lib.hid (fun (b1 b2 b3 : Nat) W h h' h3 hd => firstImp_impl a1_0 a1_1 L (some ⟨b1, 0, none⟩) (some ⟨b2, 0, none⟩) n n m m xs ys (some ⟨b3, 0, none⟩) p p ms W hx hy (by omega) (by omega) (Nat.le_refl _) (Nat.le_refl _) h h' hml (by omega) h3 hd)
  clear hx hy hX hY hM hml
  generalize hRR : fiR L xs ys a1_0 a1_1 ms = R at *
  clear hRR
  obtain ⟨x, y⟩ := R
  simp only at HS HI
  go_enter Tryd.func6, Tryd.ntmps6
  go_wp2_with fail
  obtain ⟨P, S, hG⟩ := two_boxes w 31 33 #[.int .i64 L, .slice A n c, .slice B m d] #[.int .i64 a1_0, .int .i64 a1_1]
  generalize (w.alloc (.cells #[.int .i64 L, .slice A n c, .slice B m d] 31)).alloc (.cells #[.int .i64 a1_0, .int .i64 a1_1] 33) = v at *
  refine (szRule_ok L A B n c m d xs ys _ hb).mono ?_
  rintro e w0 ⟨rfl, hg0⟩
  have hW0 := hG.trans hg0
  replace P := P.gr hg0
  replace S := S.gr hg0
  clear hg0 hG
  go_wp2_with fail
  refine (HSz.out _).mono ?_
  rintro e w1 ⟨rfl, rfl⟩
  clear HSz
  go_wp2_with fail
  have HP := Lib.hid P
  have HSb := Lib.hid S
  have hXY := And.intro (HX.out.gr hW0) (And.intro (HY.out.gr hW0) (HMv.out.gr hW0))
  clear P S
  refine region_grows [(1, .ever (RuF L n m xs ys) (fun _ _ _ => RuF.gr _ _ _)), (3, .is (.agg #[.int .i64 a1_0, .int .i64 a1_1])), (5, .ever (MvF ms p) (fun _ _ _ => MvF.gr _ _ _)), (6, .is (.tuple #[.int .i64 x, .int .i64 y]))] (by kernel_rfl) (by kernel_rfl) ?_
  (refine lz_one rfl (fun K hK => ?_); refine ⟨rfl, ?_⟩; apply Exists.intro; refine ⟨fun wz hz => ?_, ?_⟩; (focus (obtain ⟨p0, p1, p2, -⟩ := (HP.out.gr hz).trio; go_simp; (first | done | exact ⟨rfl, rfl⟩ | trivial))); (go_simp; refine hK _ _ ?_; clear hK K))
  (refine lz_many _ rfl (fun K hK => ?_); refine ⟨rfl, fun wz hz ha => ?_, fun vz wz hz hf => ?_⟩; (focus (go_simp; exact lg_ever hz (HE4.out _ (hXY.1.gr hz) (hXY.2.1.gr hz)))); (obtain ⟨b1, b2, rfl, -, -⟩ := hf; clear hz wz; go_simp; refine hK _ _ ?_; clear hK K))
  (refine lz_one rfl (fun K hK => ?_); refine ⟨rfl, ?_⟩; apply Exists.intro; refine ⟨fun wz hz => ?_, ?_⟩; (focus (obtain ⟨s0, s1, -⟩ := (HSb.out.gr hz).two; go_simp; (first | done | exact ⟨rfl, rfl⟩ | trivial))); (go_simp; refine hK _ _ ?_; clear hK K))
  (refine lz_many _ rfl (fun K hK => ?_); refine ⟨rfl, fun wz hz ha => ?_, fun vz wz hz hf => ?_⟩; (focus (go_simp; exact lg_call hz (toSetting_any _ _ _))); (obtain rfl := hf; clear hz wz; go_simp; refine hK _ _ ?_; clear hK K))
  (refine lz_one rfl (fun K hK => ?_); refine ⟨rfl, ?_⟩; apply Exists.intro; refine ⟨fun wz hz => ?_, ?_⟩; (focus (skip; go_simp; (first | done | exact ⟨rfl, rfl⟩ | trivial))); (go_simp; refine hK _ _ ?_; clear hK K))
  (refine lz_many _ rfl (fun K hK => ?_); refine ⟨rfl, fun wz hz ha => ?_, fun vz wz hz hf => ?_⟩; (focus (go_simp; exact lg_ever hz (HTE.out _ (hXY.2.2.gr hz)))); (obtain ⟨b3, rfl, -⟩ := hf; clear hz wz; go_simp; refine hK _ _ ?_; clear hK K))
  (refine lz_many _ rfl (fun K hK => ?_); refine ⟨rfl, fun wz hz ha => ?_, fun vz wz hz hf => ?_⟩; (focus (obtain ⟨b7, b8, e7, h7, h8⟩ := ha ⟨1, .data⟩ (by simp) rfl; cases e7; obtain ⟨b9, e9, h9⟩ := ha ⟨5, .data⟩ (by simp) rfl; cases e9; go_simp; exact lg_call hz (HS.out b1 b2 b3 _ h7.reads h8.reads h9.reads))); (obtain rfl := hf; clear hz wz; go_simp; refine hK _ _ ?_; clear hK K))
  (refine lz_one rfl (fun K hK => ?_); refine ⟨rfl, ?_⟩; apply Exists.intro; refine ⟨fun wz hz => ?_, ?_⟩; (focus (skip; go_simp; (first | done | exact ⟨rfl, rfl⟩ | trivial))); (go_simp; refine hK _ _ ?_; clear hK K))
  (refine lz_one rfl (fun K hK => ?_); refine ⟨rfl, ?_⟩; apply Exists.intro; refine ⟨fun wz hz => ?_, ?_⟩; (focus (skip; go_simp; (first | done | exact ⟨rfl, rfl⟩ | trivial))); (go_simp; refine hK _ _ ?_; clear hK K))
  (refine lz_one rfl (fun K hK => ?_); refine ⟨rfl, ?_⟩; apply Exists.intro; refine ⟨fun wz hz => ?_, ?_⟩; (focus (skip; go_simp; (first | done | exact ⟨rfl, rfl⟩ | trivial))); (go_simp; refine hK _ _ ?_; clear hK K))
  (refine lz_one rfl (fun K hK => ?_); refine ⟨rfl, ?_⟩; apply Exists.intro; refine ⟨fun wz hz => ?_, ?_⟩; (focus (skip; go_simp; (first | done | exact ⟨rfl, rfl⟩ | trivial))); (go_simp; refine hK _ _ ?_; clear hK K))
  (refine lz_one rfl (fun K hK => ?_); refine ⟨rfl, ?_⟩; apply Exists.intro; refine ⟨fun wz hz => ?_, ?_⟩; (focus (skip; go_simp; (first | done | exact ⟨rfl, rfl⟩ | trivial))); (go_simp; refine hK _ _ ?_; clear hK K))
  refine lz_nil ?_
  intro w2 hz hg
  clear hg
  have hW2 := hW0.trans hz
  have P := HP.out.gr hz
  clear hXY
  obtain ⟨p0, p1, p2, -⟩ := P.trio
  go_wp2_with fail
  clear p0 p1 p2
  refine (HT.out _ (HX.out.gr hW2) (HY.out.gr hW2)).mono ?_
  rintro e w3 ⟨b3, b4, rfl, hb3, hb4, hr3, hr4, hl3⟩
  have hG23 : Gr w2 w3 := Gr.of_below hl3
  go_wp2_with fail
  have Q := Blk.new w3 42 #[.int .i64 L, .slice (some ⟨b3, 0, none⟩) n n, .slice (some ⟨b4, 0, none⟩) m m]
  have hG3 : Gr w3 (w3.alloc (.cells #[.int .i64 L, .slice (some ⟨b3, 0, none⟩) n n, .slice (some ⟨b4, 0, none⟩) m m] 42)) := (by repeat (first | with_reducible exact Gr.refl _ | with_reducible refine Gr.alloc ?_ _ | with_reducible refine Gr.gr ?_ _ _ | with_reducible refine Gr.drew ?_ | with_reducible refine Gr.drewN ?_ _))
  generalize hv3 : w3.alloc (.cells #[.int .i64 L, .slice (some ⟨b3, 0, none⟩) n n, .slice (some ⟨b4, 0, none⟩) m m] 42) = v3 at *
  clear hv3
  have hV3 := (hW2.trans hG23).trans hG3
  refine (HTM.out _ (HMv.out.gr hV3)).mono ?_
  rintro e w4 ⟨b5, rfl, hb5, hr5, hl4⟩
  have hG34 : Gr v3 w4 := Gr.of_below hl4
  rw [HN.out]
  have hW4 := hV3.trans hG34
  have hR34 := Lib.hid (And.intro ((hr3.gr hG3).gr hG34) (And.intro ((hr4.gr hG3).gr hG34) hr5))
  have hQ4 := Q.gr hG34
  have hZ3 := ((hz.trans hG23).trans hG3).trans hG34
  have HP3 := Lib.hid (HP.out.gr hZ3)
  have HS3 := Lib.hid (HSb.out.gr hZ3)
  have HD3 := Lib.hid (HD.out.gr hW4)
  have HQ := Lib.hid hQ4
  go_wp2_with fail
  clear hr3 hr4 hr5 hl3 hl4 hb3 hb4 hb5 hG23 hG3 hG34 Q hQ4 hz P hW2 hV3 hZ3 HP HSb
  refine region_grows [(2, .is (.agg #[.int .i64 a1_0, .int .i64 a1_1])), (4, .is (.tuple #[.int .i64 x, .int .i64 y]))] (by kernel_rfl) (by kernel_rfl) ?_
  (refine lz_one rfl (fun K hK => ?_); refine ⟨rfl, ?_⟩; apply Exists.intro; refine ⟨fun wz hz => ?_, ?_⟩; (focus (obtain ⟨q0, q1, q2, -⟩ := (HQ.out.gr hz).trio; go_simp; (first | done | exact ⟨rfl, rfl⟩ | trivial))); (go_simp; refine hK _ _ ?_; clear hK K))
  (refine lz_one rfl (fun K hK => ?_); refine ⟨rfl, ?_⟩; apply Exists.intro; refine ⟨fun wz hz => ?_, ?_⟩; (focus (obtain ⟨s0, s1, -⟩ := (HS3.out.gr hz).two; go_simp; (first | done | exact ⟨rfl, rfl⟩ | trivial))); (go_simp; refine hK _ _ ?_; clear hK K))
  (refine lz_many _ rfl (fun K hK => ?_); refine ⟨rfl, fun wz hz ha => ?_, fun vz wz hz hf => ?_⟩; (focus (go_simp; exact lg_call hz (toSetting_any _ _ _))); (obtain rfl := hf; clear hz wz; go_simp; refine hK _ _ ?_; clear hK K))
  (refine lz_one rfl (fun K hK => ?_); refine ⟨rfl, ?_⟩; apply Exists.intro; refine ⟨fun wz hz => ?_, ?_⟩; (focus (skip; go_simp; (first | done | exact ⟨rfl, rfl⟩ | trivial))); (go_simp; refine hK _ _ ?_; clear hK K))
  (refine lz_many _ rfl (fun K hK => ?_); refine ⟨rfl, fun wz hz ha => ?_, fun vz wz hz hf => ?_⟩; (focus (go_simp; exact lg_call hz (HI.out b3 b4 b5 _ (hR34.out.1.gr hz).reads (hR34.out.2.1.gr hz).reads (hR34.out.2.2.gr hz).reads (HD3.out.gr hz)))); (obtain rfl := hf; clear hz wz; go_simp; refine hK _ _ ?_; clear hK K))
  (refine lz_one rfl (fun K hK => ?_); refine ⟨rfl, ?_⟩; apply Exists.intro; refine ⟨fun wz hz => ?_, ?_⟩; (focus (skip; go_simp; (first | done | exact ⟨rfl, rfl⟩ | trivial))); (go_simp; refine hK _ _ ?_; clear hK K))
  (refine lz_one rfl (fun K hK => ?_); refine ⟨rfl, ?_⟩; apply Exists.intro; refine ⟨fun wz hz => ?_, ?_⟩; (focus (skip; go_simp; (first | done | exact ⟨rfl, rfl⟩ | trivial))); (go_simp; refine hK _ _ ?_; clear hK K))
  (refine lz_one rfl (fun K hK => ?_); refine ⟨rfl, ?_⟩; apply Exists.intro; refine ⟨fun wz hz => ?_, ?_⟩; (focus (skip; go_simp; (first | done | exact ⟨rfl, rfl⟩ | trivial))); (go_simp; refine hK _ _ ?_; clear hK K))
  (refine lz_one rfl (fun K hK => ?_); refine ⟨rfl, ?_⟩; apply Exists.intro; refine ⟨fun wz hz => ?_, ?_⟩; (focus (skip; go_simp; (first | done | exact ⟨rfl, rfl⟩ | trivial))); (go_simp; refine hK _ _ ?_; clear hK K))
  (refine lz_one rfl (fun K hK => ?_); refine ⟨rfl, ?_⟩; apply Exists.intro; refine ⟨fun wz hz => ?_, ?_⟩; (focus (skip; go_simp; (first | done | exact ⟨rfl, rfl⟩ | trivial))); (go_simp; refine hK _ _ ?_; clear hK K))
  refine lz_nil ?_
  intro w5 hz hg
  clear hg
  have hW5 := (hW4.trans hz).below
  have P := HP3.out.gr hz
  have Q := HQ.out.gr hz
  have hr3 := hR34.out.1.gr hz
  have hr4 := hR34.out.2.1.gr hz
  have hr5 := hR34.out.2.2.gr hz
  clear hz
  go_wp2_with fail
  have hW6 := hW5
  have hXY := And.intro (HX.out.below hW6) (HY.out.below hW6)
  have HQ5 := Lib.hid (And.intro P Q)
  have HRR := Lib.hid (And.intro hr3 (And.intro hr4 hr5))
  clear P Q hr3 hr4 hr5
  refine region_grows [(2, .ever (RuF L n m xs ys) (fun _ _ _ => RuF.gr _ _ _)), (3, .is (.bool true))] (by kernel_rfl) (by kernel_rfl) ?_
  (refine lz_one rfl (fun K hK => ?_); refine ⟨rfl, ?_⟩; apply Exists.intro; refine ⟨fun wz hz => ?_, ?_⟩; (focus (obtain ⟨q0, q1, q2, -⟩ := (HQ5.out.2.gr hz).trio; go_simp; (first | done | exact ⟨rfl, rfl⟩ | trivial))); (go_simp; refine hK _ _ ?_; clear hK K))
  (refine lz_one rfl (fun K hK => ?_); refine ⟨rfl, ?_⟩; apply Exists.intro; refine ⟨fun wz hz => ?_, ?_⟩; (focus (obtain ⟨p0, p1, p2, -⟩ := (HQ5.out.1.gr hz).trio; go_simp; (first | done | exact ⟨rfl, rfl⟩ | trivial))); (go_simp; refine hK _ _ ?_; clear hK K))
  (refine lz_many _ rfl (fun K hK => ?_); refine ⟨rfl, fun wz hz ha => ?_, fun vz wz hz hf => ?_⟩; (focus (go_simp; exact lg_ever hz (HE4.out _ (hXY.1.gr hz) (hXY.2.gr hz)))); (obtain ⟨b6, b7, rfl, -, -⟩ := hf; clear hz wz; go_simp; refine hK _ _ ?_; clear hK K))
  (refine lz_many _ rfl (fun K hK => ?_); refine ⟨rfl, fun wz hz ha => ?_, fun vz wz hz hf => ?_⟩; (focus (obtain ⟨b8, b9, e7, h7, h8⟩ := ha ⟨2, .data⟩ (by simp) rfl; cases e7; go_simp; exact lg_call hz (HE.out _ _ _ _ _ (HRR.out.1.gr hz).reads (HRR.out.2.1.gr hz).reads h7.reads h8.reads))); (obtain rfl := hf; clear hz wz; go_simp; refine hK _ _ ?_; clear hK K))
  (refine lz_one rfl (fun K hK => ?_); refine ⟨rfl, ?_⟩; apply Exists.intro; refine ⟨fun wz hz => ?_, ?_⟩; (focus (skip; go_simp; (first | done | exact ⟨rfl, rfl⟩ | trivial))); (go_simp; refine hK _ _ ?_; clear hK K))
  refine lz_nil ?_
  intro w7 hg7 _
  have hW7 := hW6.trans (hg7.below.mono hW6.size)
  have hr7 := HRR.out.2.2.gr hg7
  clear HRR HQ5 hXY hg7
  go_wp2_with fail
  refine (HTM.out _ (HMv.out.below hW7)).mono ?_
  rintro e w8 ⟨b8, rfl, hb8, hr8, hl8⟩
  rw [HN.out]
  have hW8 := hW7.trans (hl8.mono hW7.size)
  have hr78 := hr7.below hl8 hr7.lt
  go_wp2_with fail
  refine (HEM.out _ _ _ hr78.reads hr8.reads).mono ?_
  rintro e w9 ⟨rfl, hg9⟩
  go_wp2_with fail
  go_ret
  exact ⟨rfl, hW8.trans (hg9.below.mono hW8.size)⟩

set_option maxRecDepth 100000 in
theorem lifted (os : Os) (started : os.Started) (H : Type) (enc : TypeId × Value → H) :
    ReturnsInHanded {} Tryd.checked os 6 .any (fun w args => (Rows.fnExactFirstImpossibleSpec.pre enc Tryd.prog Tryd.f6 Rows.fnExactFirstImpossibleRow.domain false w args ∧ laidMetH Tryd.prog Rows.fnExactFirstImpossibleRow.laid w) ∧ sizedMet enc Tryd.prog Tryd.f6 (OpenSpec.ofChange Rows.fnExactFirstImpossibleSpec) false w args) (Rows.fnExactFirstImpossibleSpec.post enc Tryd.prog Tryd.f6 false true false false) := by
  refine returnsInHanded_of_change_and (C := Tryd.checked) (X := fun w _ => laidMetH Tryd.prog Rows.fnExactFirstImpossibleRow.laid w) (fun _ _ _ hh h => h.of_heap hh) own started (by kernel_rfl) Tryd.func6
    (ChangeSpec.witness_shaped (enc := enc) (C := Tryd.checked) (os := os) (X := fun w _ => laidMetH Tryd.prog Rows.fnExactFirstImpossibleRow.laid w) false (World.laidAll Tryd.prog os Rows.fnExactFirstImpossibleRow.laid) #[.agg #[.int .i64 0, .slice none 0 0, .slice none 0 0], .agg #[.int .i64 0, .int .i64 0], .slice none 0 0] 8 (World.laidAll_os _ _ _)
      (World.shaped_of_ZipB (by kernel_rfl) (by kernel_rfl)) (by kernel_rfl) (by kernel_rfl) (by kernel_rfl)
      (by rw [MakeChecks.laidMetH_plain _ _ _ (by kernel_rfl)]; exact laidMet_laidAll _ (by kernel_rfl) (by kernel_rfl))) ?_
  intro W base args ds gs before hval0 hW _ _ hL _
  rw [MakeChecks.laidMetH_plain _ _ _ (by kernel_rfl)] at hL
  have hval : ∀ (j : Nat) t v, Tryd.f6.params[j]? = some t → args[j]? = some v → Value.okWide Tryd.prog W .any base t v := hval0
  have hW' := hW
  obtain ⟨p, q, hA0, hV, hpq, hfz, hnd⟩ := hW
  have hA : DataW.TrodAll enc Tryd.prog W 0 (fun _ => true) true Tryd.f6.params.toList args.toList ds p := hA0
  have hT := hA
  obtain ⟨g1, rfl⟩ := vars_one hV
  rw [Tryd.params6] at hA hval
  obtain ⟨v0, vs0, d0, ds0, p0, q0, hargs, rfl, rfl, h0, r0⟩ := trodAll_cons hA
  obtain ⟨v1, vs1, d1, ds1, p1, q1, rfl, rfl, rfl, h1, r1⟩ := trodAll_cons r0
  obtain ⟨v2, vs2, d2, ds2, p2, q2, rfl, rfl, rfl, h2, r2⟩ := trodAll_cons r1
  obtain ⟨rfl, rfl, rfl⟩ := trodAll_nil r2
  obtain rfl : args = #[v0, v1, v2] := by cases args; simp_all
  obtain ⟨cr0, cr1, cr2, yr0, yr1, yr2, mr, rfl, rfl, rfl, hr0, hr1, hr2⟩ := Go.Joins.open_agg3 Tryd.underlying31 (by kernel_rfl) (show Tryd.prog.cellsOf 31 = 3 by kernel_rfl) (hval 0 31 v0 rfl rfl) h0
  obtain ⟨L, er0, rfl, wfL⟩ := DataW.trod_int Tryd.underlying2 hr0
  simp at er0
  subst er0
  obtain ⟨A, n, c, xs, rfl, hx, hX, hn, -⟩ := open_icell Tryd.underlying29 Tryd.underlying2 (by kernel_rfl) hr1
  obtain ⟨B, m, d, ys, rfl, hy, hY, hm, -⟩ := open_icell Tryd.underlying29 Tryd.underlying2 (by kernel_rfl) hr2
  obtain ⟨c1_0, c1_1, y1_0, y1_1, m1, rfl, rfl, rfl, hy1_0, hy1_1⟩ := Go.Joins.open_agg2 Tryd.underlying33 (by kernel_rfl) (show Tryd.prog.cellsOf 33 = 2 by kernel_rfl) (hval 1 33 v1 rfl rfl) h1
  obtain ⟨a1_0, e1_0, rfl, wf1_0⟩ := DataW.trod_int Tryd.underlying2 hy1_0
  simp at e1_0
  subst e1_0
  obtain ⟨a1_1, e1_1, rfl, wf1_1⟩ := DataW.trod_int Tryd.underlying2 hy1_1
  simp at e1_1
  subst e1_1
  obtain ⟨M, p, cp, ms, rfl, hml, hM, hpM⟩ := open_p4 Tryd.underlying22 Tryd.underlying37 Tryd.underlying35 (by kernel_rfl) rfl rfl rfl rfl rfl Tryd.underlying2 Tryd.underlying2 Tryd.underlying2 Tryd.underlying2 (by kernel_rfl) (by kernel_rfl) (by kernel_rfl) (by kernel_rfl) (by kernel_rfl) (hval 2 22 v2 rfl rfl) h2
  clear hA0 hval0
  refine (walk W hL L wfL A B n c m d xs ys hx hy hn hm hX hY a1_0 wf1_0 a1_1 wf1_1 M p cp ms hml hM hpM).mono fun e W' ⟨he, hb⟩ => ?_
  subst he
  exact ⟨_, rfl, law_postv laidOut hW' hT hpq (by kernel_rfl) (by kernel_rfl) hV rfl rfl rfl rfl Tryd.underlying4 hb⟩

theorem over : Rows.fnExactFirstImpossibleRow.holds Tryd.pinned (OpenSpec.ofChange Rows.fnExactFirstImpossibleSpec) :=
  OpenClaim.holds_of_wide 6 Tryd.f6 rfl rfl rfl rfl rfl rfl rfl ⟨rfl, rfl, rfl, rfl, rfl⟩ rfl rfl rfl rfl rfl (by kernel_rfl) Tryd.func6 (by kernel_rfl)
    (of_decide_eq_true (by kernel_rfl)) (by unfold Func.isWrapper; first | (rw [if_pos (by decide +kernel)]; kernel_rfl) | (rw [if_neg (by decide +kernel)]; exact ⟨rfl, rfl⟩))
    (fun os started H enc _ => lifted os started H enc)

theorem proved : Rows.FnExactFirstImpossibleCardSaid :=
  Claim7.holds_tied_plain_at .later [] Rows.fnExactFirstImpossibleCard.laidKinds true Rows.fnExactFirstImpossibleCard.stood.harness Rows.fnExactFirstImpossibleCard.stood.looks
    over (fun _ h => by cases h) (by kernel_rfl) (fun _ h => by cases h) fnExactFirstImpossible_row_tie rfl ⟨rfl, rfl⟩ (by kernel_rfl) rfl
    (fun f fn hf hfn => by
      obtain rfl : f = 6 := Option.some.inj ((show Tryd.prog.funcNamed Rows.fnExactFirstImpossibleRow.func = some 6 by kernel_rfl).symm.trans hf) |>.symm
      obtain rfl : fn = Tryd.f6 := (Option.some.inj (Tryd.func6.symm.trans hfn)).symm
      exact ⟨by kernel_rfl, fun j t ht => by
        rw [Tryd.params6] at ht
        have hm : t ∈ [31, 33, 22] := by simpa using Array.mem_of_getElem? ht
        have hall : ([31, 33, 22].all fun u => !Tryd.prog.wantsStandIn u) = true := by kernel_rfl
        exact (show Tryd.prog.wantsStandIn t = false by simpa using List.all_eq_true.1 hall t hm)⟩)
    (by kernel_rfl)
end Go.Proofs.YtefhhigcplemaaaDoor.fnExactFirstImpossible
