/- For every rule, setting and move, valid or not, the program's ApplyMove answers as the model does and leaves its arguments as they were, and the law returns true. No condition beyond the program's table as its text lays it. -/
import Derived.Test.YtefhhigcplemaaaDoor12D
import Derived.Test.YtefhhigcplemaaaDoorOm
import Derived.Test.YtefhhigcplemaaaDoorC11m
import Derived.Test.YtefhhigcplemaaaDoor2A
import Derived.Test.YtefhhigcplemaaaDoorOr
import Derived.Test.YtefhhigcplemaaaDoorDr
import Derived.Test.YtefhhigcplemaaaDoorTie
import Derived.Test.YtefhhigcplemaaaDoorCards
import Derived.Test.YtefhhigcplemaaaDoorFr
import Derived.Test.YtefhhigcplemaaaDoorFv
import Derived.Test.YtefhhigcplemaaaDoorRows
import Derived.WalkKit
import Derived.ProofKit
import Derived.OpenShut
import Derived.Lib.SmallJoins
namespace Go.Proofs.YtefhhigcplemaaaDoor.fnExactApplyMove
open Go.ChangeShapes Go.WideShapes Go.ChangeAt Go.RowKit
set_option linter.unusedVariables false
set_option linter.unusedSimpArgs false

theorem own : ownKnob Tryd.prog.godebug = none := by kernel_rfl

theorem dcsl {w : World} (hL : laidMet Tryd.prog Rows.fnExactApplyMoveRow.laid w) : Dcs w := by
  have h := hL.filter (fun x => x.1 == "loop.example/g00951/impl.scaleDecades")
  have e : Rows.fnExactApplyMoveRow.laid.filter (fun x => x.1 == "loop.example/g00951/impl.scaleDecades") = [("loop.example/g00951/impl.scaleDecades", Lib.tabData .i64 [1, 2, 3, 1, 1, 1])] := by rfl
  rw [e] at h
  exact dcs_of (Lib.tabIs_of_head (g := 1) (by kernel_rfl) (by kernel_rfl) Tryd.underlying181 Tryd.underlying2 (by kernel_rfl) (by kernel_rfl) h)


set_option maxHeartbeats 4000000 in
set_option maxRecDepth 100000 in
theorem walk (w : World) (hL : laidMet Tryd.prog Rows.fnExactApplyMoveRow.laid w) (L : Int) (wfL : (Lit.int .i64 L).wf = true) (A B : Option Addr) (n c m d : Nat) (xs ys : List Int) (hx : xs.length = n) (hy : ys.length = m) (hn : n ≤ maxLen) (hm : m ≤ maxLen) (hX : Reads w w.heap.size A (xs.map vi)) (hY : Reads w w.heap.size B (ys.map vi)) (a1_0 : Int) (wf1_0 : (Lit.int .i64 a1_0).wf = true) (a1_1 : Int) (wf1_1 : (Lit.int .i64 a1_1).wf = true) (mk ms mu mt : Int) :
    Calls Tryd.prog 4 #[.agg #[.int .i64 L, .slice A n c, .slice B m d], .agg #[.int .i64 a1_0, .int .i64 a1_1], .agg #[.int .i64 mk, .int .i64 ms, .int .i64 mu, .int .i64 mt]] w (LawDone w) := by
  have HD := Lib.hid (dcsl hL)
  clear hL
  unfold maxLen at hn hm
  by_cases hb : n + m ≤ 1048576
  rotate_left
  · go_enter Tryd.func4, Tryd.ntmps4
    go_wp2_with fail
    refine (szRule_no L A B n c m d xs ys _ hb (by omega) (by omega)).mono ?_
    rintro e w' ⟨rfl, hg⟩
    have HG := Lib.hid ((show Gr w _ from (by repeat (first | with_reducible exact Gr.refl _ | with_reducible refine Gr.alloc ?_ _ | with_reducible refine Gr.gr ?_ _ _ | with_reducible refine Gr.drew ?_ | with_reducible refine Gr.drewN ?_ _))).trans hg)
    clear hg
    go_wp2_with fail
    ((try simp only [Exit.inBlock, Exit.then]); refine bodyPost_ret (v := .bool true) (by simp [results, Tryd.results4, go_sem]) rfl ?_)
    exact ⟨rfl, HG.out.below⟩
  have HX := Lib.hid hX
  have HY := Lib.hid hY
  have hn1 : n ≤ 1048576 := by omega
  have hm1 : m ≤ 1048576 := by omega
  have HT := Lib.hid (fun W h h' => toRule_any L A B n c m d xs ys W hx hy hn1 hm1 h h')
  have HE4 := Lib.hid (fun W h h' => toRule_ever L A B n c m d xs ys W hx hy hn1 hm1 h h')
  have HE := Lib.hid (fun (A B C D : Option Addr) W h1 h2 h3 h4 => eqRule_same L A B C D n n m m n m xs ys W hx hy (by omega) (by omega) h1 h2 h3 h4)
  have HS := Lib.hid (fun (b1 b2 : Nat) W h h' => applyMove_spec a1_0 a1_1 mk ms mu mt L (some ⟨b1, 0, none⟩) (some ⟨b2, 0, none⟩) n n m m xs ys W hx hy (by omega) (by omega) (Nat.le_refl _) (Nat.le_refl _) h h')
  have HI := Lib.hid (fun (b1 b2 : Nat) W h h' hd => applyMove_impl a1_0 a1_1 mk ms mu mt L (some ⟨b1, 0, none⟩) (some ⟨b2, 0, none⟩) n n m m xs ys W hx hy (by omega) (by omega) (Nat.le_refl _) (Nat.le_refl _) h h' hd)
  clear hx hy hX hY
  generalize hRR : rmR L xs ys a1_0 a1_1 [(mk, ms, mu, mt)] = R at *
  clear hRR
  obtain ⟨⟨x, y⟩, z⟩ := R
  simp only at HS HI
  go_enter Tryd.func4, Tryd.ntmps4
  go_wp2_with fail
  obtain ⟨P, S, F, hG⟩ := tri_new w 31 33 37 #[.int .i64 L, .slice A n c, .slice B m d] #[.int .i64 a1_0, .int .i64 a1_1] #[.int .i64 mk, .int .i64 ms, .int .i64 mu, .int .i64 mt]
  generalize ((w.alloc (.cells #[.int .i64 L, .slice A n c, .slice B m d] 31)).alloc (.cells #[.int .i64 a1_0, .int .i64 a1_1] 33)).alloc (.cells #[.int .i64 mk, .int .i64 ms, .int .i64 mu, .int .i64 mt] 37) = v at *
  refine (szRule_ok L A B n c m d xs ys _ hb).mono ?_
  rintro e w0 ⟨rfl, hg0⟩
  have hl0 : ((1048576 : Int) - n - m < 0) = False := by simp; omega
  have hW0 := hG.trans hg0
  replace P := P.gr hg0
  replace S := S.gr hg0
  replace F := F.gr hg0
  clear hg0 hG
  go_wp2_with fail
  have HP := Lib.hid P
  have HSb := Lib.hid S
  have HFb := Lib.hid F
  have hXY := And.intro (HX.out.gr hW0) (HY.out.gr hW0)
  clear P S F
  refine region_mix 11 39 #[.int .i64 x, .int .i64 y] [(1, .ever (RuF L n m xs ys) (fun _ _ _ => RuF.gr _ _ _) (fun _ _ _ => RuF.ty (by decide) _ _ _)), (3, .is (.agg #[.int .i64 a1_0, .int .i64 a1_1])), (5, .is (.agg #[.int .i64 mk, .int .i64 ms, .int .i64 mu, .int .i64 mt])), (6, .is (.tuple #[.agg #[.int .i64 x, .int .i64 y], .int .i64 z])), (10, .made w0.heap.size 2)] (by kernel_rfl) (by kernel_rfl) ?_
  (refine lz_one rfl (fun K hK => ?_); refine ⟨rfl, ?_⟩; apply Exists.intro; refine ⟨fun wz hz => ?_, ?_⟩; (focus (obtain ⟨p0, p1, p2, -⟩ := (HP.out.gr hz).trio; go_simp; (first | done | exact ⟨rfl, rfl⟩ | trivial))); (go_simp; refine hK _ _ ?_; clear hK K))
  (refine lz_many _ rfl (fun K hK => ?_); refine ⟨rfl, fun wz hz ha => ?_, fun vz wz hz hf => ?_⟩; (focus (go_simp; exact lm_ever (by decide) hz (HE4.out _ (hXY.1.gr hz) (hXY.2.gr hz)))); (obtain ⟨b1, b2, rfl, -, -⟩ := hf; clear hz wz; go_simp; refine hK _ _ ?_; clear hK K))
  (refine lz_one rfl (fun K hK => ?_); refine ⟨rfl, ?_⟩; apply Exists.intro; refine ⟨fun wz hz => ?_, ?_⟩; (focus (obtain ⟨s0, s1, -⟩ := (HSb.out.gr hz).two; go_simp; (first | done | exact ⟨rfl, rfl⟩ | trivial))); (go_simp; refine hK _ _ ?_; clear hK K))
  (refine lz_many _ rfl (fun K hK => ?_); refine ⟨rfl, fun wz hz ha => ?_, fun vz wz hz hf => ?_⟩; (focus (go_simp; exact lm_call (by decide) hz (toSetting_any _ _ _))); (obtain rfl := hf; clear hz wz; go_simp; refine hK _ _ ?_; clear hK K))
  (refine lz_one rfl (fun K hK => ?_); refine ⟨rfl, ?_⟩; apply Exists.intro; refine ⟨fun wz hz => ?_, ?_⟩; (focus (obtain ⟨f0, f1, f2, f3, -⟩ := (HFb.out.gr hz).four; go_simp; (first | done | exact ⟨rfl, rfl⟩ | trivial))); (go_simp; refine hK _ _ ?_; clear hK K))
  (refine lz_many _ rfl (fun K hK => ?_); refine ⟨rfl, fun wz hz ha => ?_, fun vz wz hz hf => ?_⟩; (focus (go_simp; exact lm_call (by decide) hz (toMove_any _ _ _ _ _))); (obtain rfl := hf; clear hz wz; go_simp; refine hK _ _ ?_; clear hK K))
  (refine lz_many _ rfl (fun K hK => ?_); refine ⟨rfl, fun wz hz ha => ?_, fun vz wz hz hf => ?_⟩; (focus (obtain ⟨b7, b8, e7, h7, h8⟩ := ha ⟨1, .data⟩ (by simp) rfl; cases e7; go_simp; exact lm_call (by decide) hz (HS.out b1 b2 _ h7.reads h8.reads))); (obtain rfl := hf; clear hz wz; go_simp; refine hK _ _ ?_; clear hK K))
  (refine lz_one rfl (fun K hK => ?_); refine ⟨rfl, ?_⟩; apply Exists.intro; refine ⟨fun wz hz => ?_, ?_⟩; (focus (skip; go_simp; (first | done | exact ⟨rfl, rfl⟩ | trivial))); (go_simp; refine hK _ _ ?_; clear hK K))
  (refine lz_one rfl (fun K hK => ?_); refine ⟨rfl, ?_⟩; apply Exists.intro; refine ⟨fun wz hz => ?_, ?_⟩; (focus (skip; go_simp; (first | done | exact ⟨rfl, rfl⟩ | trivial))); (go_simp; refine hK _ _ ?_; clear hK K))
  (refine lz_one rfl (fun K hK => ?_); refine ⟨rfl, ?_⟩; apply Exists.intro; refine ⟨fun wz hz => ?_, ?_⟩; (focus (skip; go_simp; (first | done | exact ⟨rfl, rfl⟩ | trivial))); (go_simp; refine hK _ _ ?_; clear hK K))
  (refine lz_many _ rfl (fun K hK => ?_); refine ⟨rfl, fun wz hz ha => ?_, fun vz wz hz hf => ?_⟩; (focus (go_simp; exact lm_made (by decide) hz (Nat.le_refl _) rfl)); (obtain ⟨gg, rfl, -, -⟩ := hf; clear hz wz; go_simp; refine hK _ _ ?_; clear hK K))
  (refine lz_many _ rfl (fun K hK => ?_); refine ⟨rfl, fun wz hz ha => ?_, fun vz wz hz hf => ?_⟩; (focus (obtain ⟨g', e', hb', ds, h1, h2⟩ := ha ⟨10, .data⟩ (by simp) rfl; cases e'; obtain ⟨y0, y1, rfl⟩ := two_of h1; obtain ⟨c0, c1, cf⟩ := h2.two; have cl := h2.lt; go_simp; exact lm_two hz hb' h2 rfl)); (obtain - := hf; clear hz wz; go_simp; refine hK _ _ ?_; clear hK K))
  (refine lz_one rfl (fun K hK => ?_); refine ⟨rfl, ?_⟩; apply Exists.intro; refine ⟨fun wz hz => ?_, ?_⟩; (focus (skip; go_simp; (first | done | exact ⟨rfl, rfl⟩ | trivial))); (go_simp; refine hK _ _ ?_; clear hK K))
  refine lz_nil ?_
  intro w2 hz hg
  obtain ⟨g0, e2, hA0⟩ := hg 11
  cases e2
  clear hg
  have hW2 := hW0.trans hz
  have P := HP.out.gr hz
  clear hXY
  obtain ⟨p0, p1, p2, -⟩ := P.trio
  go_wp2_with fail
  clear p0 p1 p2
  refine (HT.out _ (HX.out.gr hW2) (HY.out.gr hW2)).mono ?_
  rintro e w3 ⟨b3, b4, rfl, hb3, hb4, hr3, hr4, hl3⟩
  have hG23 : Gr w2 w3 := Gr.of_below hl3
  go_wp2_with fail
  have Q := Blk.new w3 42 #[.int .i64 L, .slice (some ⟨b3, 0, none⟩) n n, .slice (some ⟨b4, 0, none⟩) m m]
  have hG3 : Gr w3 (w3.alloc (.cells #[.int .i64 L, .slice (some ⟨b3, 0, none⟩) n n, .slice (some ⟨b4, 0, none⟩) m m] 42)) := (by repeat (first | with_reducible exact Gr.refl _ | with_reducible refine Gr.alloc ?_ _ | with_reducible refine Gr.gr ?_ _ _ | with_reducible refine Gr.drew ?_ | with_reducible refine Gr.drewN ?_ _))
  generalize hv3 : w3.alloc (.cells #[.int .i64 L, .slice (some ⟨b3, 0, none⟩) n n, .slice (some ⟨b4, 0, none⟩) m m] 42) = v3 at *
  clear hv3
  have hV3 := (hW2.trans hG23).trans hG3
  have hR34 := Lib.hid (And.intro (hr3.gr hG3) (hr4.gr hG3))
  have HQ := Lib.hid Q
  have HA0 := Lib.hid (hA0.gr (hG23.trans hG3))
  have hZ3 := (hz.trans hG23).trans hG3
  have HP3 := Lib.hid (HP.out.gr hZ3)
  have HS3 := Lib.hid (HSb.out.gr hZ3)
  have HF3 := Lib.hid (HFb.out.gr hZ3)
  have HD3 := Lib.hid (HD.out.gr hV3)
  clear hr3 hr4 hl3 hb3 hb4 hG23 hG3 Q hA0 hz P hW2 hZ3 HP HSb
  refine region_mix 10 39 #[.int .i64 x, .int .i64 y] [(2, .is (.agg #[.int .i64 a1_0, .int .i64 a1_1])), (4, .is (.agg #[.int .i64 mk, .int .i64 ms, .int .i64 mu, .int .i64 mt])), (5, .is (.tuple #[.agg #[.int .i64 x, .int .i64 y], .int .i64 z])), (9, .made v3.heap.size 2)] (by kernel_rfl) (by kernel_rfl) ?_
  (refine lz_one rfl (fun K hK => ?_); refine ⟨rfl, ?_⟩; apply Exists.intro; refine ⟨fun wz hz => ?_, ?_⟩; (focus (obtain ⟨q0, q1, q2, -⟩ := (HQ.out.gr hz).trio; go_simp; (first | done | exact ⟨rfl, rfl⟩ | trivial))); (go_simp; refine hK _ _ ?_; clear hK K))
  (refine lz_one rfl (fun K hK => ?_); refine ⟨rfl, ?_⟩; apply Exists.intro; refine ⟨fun wz hz => ?_, ?_⟩; (focus (obtain ⟨s0, s1, -⟩ := (HS3.out.gr hz).two; go_simp; (first | done | exact ⟨rfl, rfl⟩ | trivial))); (go_simp; refine hK _ _ ?_; clear hK K))
  (refine lz_many _ rfl (fun K hK => ?_); refine ⟨rfl, fun wz hz ha => ?_, fun vz wz hz hf => ?_⟩; (focus (go_simp; exact lm_call (by decide) hz (toSetting_any _ _ _))); (obtain rfl := hf; clear hz wz; go_simp; refine hK _ _ ?_; clear hK K))
  (refine lz_one rfl (fun K hK => ?_); refine ⟨rfl, ?_⟩; apply Exists.intro; refine ⟨fun wz hz => ?_, ?_⟩; (focus (obtain ⟨f0, f1, f2, f3, -⟩ := (HF3.out.gr hz).four; go_simp; (first | done | exact ⟨rfl, rfl⟩ | trivial))); (go_simp; refine hK _ _ ?_; clear hK K))
  (refine lz_many _ rfl (fun K hK => ?_); refine ⟨rfl, fun wz hz ha => ?_, fun vz wz hz hf => ?_⟩; (focus (go_simp; exact lm_call (by decide) hz (toMove_any _ _ _ _ _))); (obtain rfl := hf; clear hz wz; go_simp; refine hK _ _ ?_; clear hK K))
  (refine lz_many _ rfl (fun K hK => ?_); refine ⟨rfl, fun wz hz ha => ?_, fun vz wz hz hf => ?_⟩; (focus (go_simp; exact lm_call (by decide) hz (HI.out b3 b4 _ (hR34.out.1.gr hz).reads (hR34.out.2.gr hz).reads (HD3.out.gr hz)))); (obtain rfl := hf; clear hz wz; go_simp; refine hK _ _ ?_; clear hK K))
  (refine lz_one rfl (fun K hK => ?_); refine ⟨rfl, ?_⟩; apply Exists.intro; refine ⟨fun wz hz => ?_, ?_⟩; (focus (skip; go_simp; (first | done | exact ⟨rfl, rfl⟩ | trivial))); (go_simp; refine hK _ _ ?_; clear hK K))
  (refine lz_one rfl (fun K hK => ?_); refine ⟨rfl, ?_⟩; apply Exists.intro; refine ⟨fun wz hz => ?_, ?_⟩; (focus (skip; go_simp; (first | done | exact ⟨rfl, rfl⟩ | trivial))); (go_simp; refine hK _ _ ?_; clear hK K))
  (refine lz_one rfl (fun K hK => ?_); refine ⟨rfl, ?_⟩; apply Exists.intro; refine ⟨fun wz hz => ?_, ?_⟩; (focus (skip; go_simp; (first | done | exact ⟨rfl, rfl⟩ | trivial))); (go_simp; refine hK _ _ ?_; clear hK K))
  (refine lz_many _ rfl (fun K hK => ?_); refine ⟨rfl, fun wz hz ha => ?_, fun vz wz hz hf => ?_⟩; (focus (go_simp; exact lm_made (by decide) hz (Nat.le_refl _) rfl)); (obtain ⟨gg, rfl, -, -⟩ := hf; clear hz wz; go_simp; refine hK _ _ ?_; clear hK K))
  (refine lz_many _ rfl (fun K hK => ?_); refine ⟨rfl, fun wz hz ha => ?_, fun vz wz hz hf => ?_⟩; (focus (obtain ⟨g', e', hb', ds, h1, h2⟩ := ha ⟨9, .data⟩ (by simp) rfl; cases e'; obtain ⟨y0, y1, rfl⟩ := two_of h1; obtain ⟨c0, c1, cf⟩ := h2.two; have cl := h2.lt; go_simp; exact lm_two hz hb' h2 rfl)); (obtain - := hf; clear hz wz; go_simp; refine hK _ _ ?_; clear hK K))
  (refine lz_one rfl (fun K hK => ?_); refine ⟨rfl, ?_⟩; apply Exists.intro; refine ⟨fun wz hz => ?_, ?_⟩; (focus (skip; go_simp; (first | done | exact ⟨rfl, rfl⟩ | trivial))); (go_simp; refine hK _ _ ?_; clear hK K))
  refine lz_nil ?_
  intro w4 hz hg
  obtain ⟨g1, e2, hA1⟩ := hg 10
  cases e2
  clear hg
  have hA2 := HA0.out.gr hz
  obtain ⟨x0, x1, -⟩ := hA1.two
  obtain ⟨y0, y1, -⟩ := hA2.two
  have hW4 := (hV3.trans hz).below
  have P := HP3.out.gr hz
  have Q := HQ.out.gr hz
  have hr3 := hR34.out.1.gr hz
  have hr4 := hR34.out.2.gr hz
  go_wp2_with (go_at_call 22; refine (eqSetting_same x y w4).mono ?_; rintro e w5 ⟨rfl, hg5⟩; have hW5 := hW4.trans (hg5.below.mono hW4.size))
  have hXY := And.intro (HX.out.below hW5) (HY.out.below hW5)
  have HQ5 := Lib.hid (And.intro (P.gr hg5) (Q.gr hg5))
  have HRR := Lib.hid (And.intro (hr3.gr hg5) (hr4.gr hg5))
  clear P Q hr3 hr4 x0 x1 y0 y1 hA1 hA2 hg5 hz
  refine region_grows [(2, .ever (RuF L n m xs ys) (fun _ _ _ => RuF.gr _ _ _)), (3, .is (.bool true))] (by kernel_rfl) (by kernel_rfl) ?_
  (refine lz_one rfl (fun K hK => ?_); refine ⟨rfl, ?_⟩; apply Exists.intro; refine ⟨fun wz hz => ?_, ?_⟩; (focus (obtain ⟨q0, q1, q2, -⟩ := (HQ5.out.2.gr hz).trio; go_simp; (first | done | exact ⟨rfl, rfl⟩ | trivial))); (go_simp; refine hK _ _ ?_; clear hK K))
  (refine lz_one rfl (fun K hK => ?_); refine ⟨rfl, ?_⟩; apply Exists.intro; refine ⟨fun wz hz => ?_, ?_⟩; (focus (obtain ⟨p0, p1, p2, -⟩ := (HQ5.out.1.gr hz).trio; go_simp; (first | done | exact ⟨rfl, rfl⟩ | trivial))); (go_simp; refine hK _ _ ?_; clear hK K))
  (refine lz_many _ rfl (fun K hK => ?_); refine ⟨rfl, fun wz hz ha => ?_, fun vz wz hz hf => ?_⟩; (focus (go_simp; exact lg_ever hz (HE4.out _ (hXY.1.gr hz) (hXY.2.gr hz)))); (obtain ⟨b5, b6, rfl, -, -⟩ := hf; clear hz wz; go_simp; refine hK _ _ ?_; clear hK K))
  (refine lz_many _ rfl (fun K hK => ?_); refine ⟨rfl, fun wz hz ha => ?_, fun vz wz hz hf => ?_⟩; (focus (obtain ⟨b7, b8, e7, h7, h8⟩ := ha ⟨2, .data⟩ (by simp) rfl; cases e7; go_simp; exact lg_call hz (HE.out _ _ _ _ _ (HRR.out.1.gr hz).reads (HRR.out.2.gr hz).reads h7.reads h8.reads))); (obtain rfl := hf; clear hz wz; go_simp; refine hK _ _ ?_; clear hK K))
  (refine lz_one rfl (fun K hK => ?_); refine ⟨rfl, ?_⟩; apply Exists.intro; refine ⟨fun wz hz => ?_, ?_⟩; (focus (skip; go_simp; (first | done | exact ⟨rfl, rfl⟩ | trivial))); (go_simp; refine hK _ _ ?_; clear hK K))
  refine lz_nil ?_
  intro w6 hg6 _
  go_wp2_with fail
  go_ret
  exact ⟨rfl, hW5.trans (hg6.below.mono hW5.size)⟩

set_option maxRecDepth 100000 in
theorem lifted (os : Os) (started : os.Started) (H : Type) (enc : TypeId × Value → H) :
    ReturnsInHanded {} Tryd.checked os 4 .any (fun w args => (Rows.fnExactApplyMoveSpec.pre enc Tryd.prog Tryd.f4 Rows.fnExactApplyMoveRow.domain false w args ∧ laidMetH Tryd.prog Rows.fnExactApplyMoveRow.laid w) ∧ sizedMet enc Tryd.prog Tryd.f4 (OpenSpec.ofChange Rows.fnExactApplyMoveSpec) false w args) (Rows.fnExactApplyMoveSpec.post enc Tryd.prog Tryd.f4 false true false false) := by
  refine returnsInHanded_of_change_and (C := Tryd.checked) (X := fun w _ => laidMetH Tryd.prog Rows.fnExactApplyMoveRow.laid w) (fun _ _ _ hh h => h.of_heap hh) own started (by kernel_rfl) Tryd.func4
    (ChangeSpec.witness_shaped (enc := enc) (C := Tryd.checked) (os := os) (X := fun w _ => laidMetH Tryd.prog Rows.fnExactApplyMoveRow.laid w) false (World.laidAll Tryd.prog os Rows.fnExactApplyMoveRow.laid) #[.agg #[.int .i64 0, .slice none 0 0, .slice none 0 0], .agg #[.int .i64 0, .int .i64 0], .agg #[.int .i64 0, .int .i64 0, .int .i64 0, .int .i64 0]] 8 (World.laidAll_os _ _ _)
      (World.shaped_of_ZipB (by kernel_rfl) (by kernel_rfl)) (by kernel_rfl) (by kernel_rfl) (by kernel_rfl)
      (by rw [MakeChecks.laidMetH_plain _ _ _ (by kernel_rfl)]; exact laidMet_laidAll _ (by kernel_rfl) (by kernel_rfl))) ?_
  intro W base args ds gs before hval0 hW _ _ hL _
  rw [MakeChecks.laidMetH_plain _ _ _ (by kernel_rfl)] at hL
  have hval : ∀ (j : Nat) t v, Tryd.f4.params[j]? = some t → args[j]? = some v → Value.okWide Tryd.prog W .any base t v := hval0
  have hW' := hW
  obtain ⟨p, q, hA0, hV, hpq, hfz, hnd⟩ := hW
  have hA : DataW.TrodAll enc Tryd.prog W 0 (fun _ => true) true Tryd.f4.params.toList args.toList ds p := hA0
  have hT := hA
  obtain ⟨g1, rfl⟩ := vars_one hV
  rw [Tryd.params4] at hA hval
  obtain ⟨v0, vs0, d0, ds0, p0, q0, hargs, rfl, rfl, h0, r0⟩ := trodAll_cons hA
  obtain ⟨v1, vs1, d1, ds1, p1, q1, rfl, rfl, rfl, h1, r1⟩ := trodAll_cons r0
  obtain ⟨v2, vs2, d2, ds2, p2, q2, rfl, rfl, rfl, h2, r2⟩ := trodAll_cons r1
  obtain ⟨rfl, rfl, rfl⟩ := trodAll_nil r2
  obtain rfl : args = #[v0, v1, v2] := by cases args; simp_all
  obtain ⟨cr0, cr1, cr2, yr0, yr1, yr2, mr, rfl, rfl, rfl, hr0, hr1, hr2⟩ := Go.Joins.open_agg3 Tryd.underlying31 (by kernel_rfl) (show Tryd.prog.cellsOf 31 = 3 by kernel_rfl) (hval 0 31 v0 rfl rfl) h0
  obtain ⟨L, er0, rfl, wfL⟩ := DataW.trod_int Tryd.underlying2 hr0
  simp at er0
  subst er0
  obtain ⟨A, n, c, xs, rfl, hx, hX, hn, -⟩ := open_icell Tryd.underlying29 Tryd.underlying2 (by kernel_rfl) hr1
  obtain ⟨B, m, d, ys, rfl, hy, hY, hm, -⟩ := open_icell Tryd.underlying29 Tryd.underlying2 (by kernel_rfl) hr2
  obtain ⟨c1_0, c1_1, y1_0, y1_1, m1, rfl, rfl, rfl, hy1_0, hy1_1⟩ := Go.Joins.open_agg2 Tryd.underlying33 (by kernel_rfl) (show Tryd.prog.cellsOf 33 = 2 by kernel_rfl) (hval 1 33 v1 rfl rfl) h1
  obtain ⟨a1_0, e1_0, rfl, wf1_0⟩ := DataW.trod_int Tryd.underlying2 hy1_0
  simp at e1_0
  subst e1_0
  obtain ⟨a1_1, e1_1, rfl, wf1_1⟩ := DataW.trod_int Tryd.underlying2 hy1_1
  simp at e1_1
  subst e1_1
  obtain ⟨mk, ms, mu, mt, rfl⟩ := open_mv Tryd.underlying37 Tryd.underlying35 (by kernel_rfl) rfl rfl rfl rfl rfl Tryd.underlying2 Tryd.underlying2 Tryd.underlying2 Tryd.underlying2 (by kernel_rfl) (by kernel_rfl) (by kernel_rfl) (by kernel_rfl) (by kernel_rfl) (hval 2 37 v2 rfl rfl) h2
  clear hA0 hval0
  refine (walk W hL L wfL A B n c m d xs ys hx hy hn hm hX hY a1_0 wf1_0 a1_1 wf1_1 mk ms mu mt).mono fun e W' ⟨he, hb⟩ => ?_
  subst he
  exact ⟨_, rfl, law_postv laidOut hW' hT hpq (by kernel_rfl) (by kernel_rfl) hV rfl rfl rfl rfl Tryd.underlying4 hb⟩

theorem over : Rows.fnExactApplyMoveRow.holds Tryd.pinned (OpenSpec.ofChange Rows.fnExactApplyMoveSpec) :=
  OpenClaim.holds_of_wide 4 Tryd.f4 rfl rfl rfl rfl rfl rfl rfl ⟨rfl, rfl, rfl, rfl, rfl⟩ rfl rfl rfl rfl rfl (by kernel_rfl) Tryd.func4 (by kernel_rfl)
    (of_decide_eq_true (by kernel_rfl)) (by unfold Func.isWrapper; first | (rw [if_pos (by decide +kernel)]; kernel_rfl) | (rw [if_neg (by decide +kernel)]; exact ⟨rfl, rfl⟩))
    (fun os started H enc _ => lifted os started H enc)

theorem proved : Rows.FnExactApplyMoveCardSaid :=
  Claim7.holds_tied_plain_at .later [] Rows.fnExactApplyMoveCard.laidKinds true Rows.fnExactApplyMoveCard.stood.harness Rows.fnExactApplyMoveCard.stood.looks
    over (fun _ h => by cases h) (by kernel_rfl) (fun _ h => by cases h) fnExactApplyMove_row_tie rfl ⟨rfl, rfl⟩ (by kernel_rfl) rfl
    (fun f fn hf hfn => by
      obtain rfl : f = 4 := Option.some.inj ((show Tryd.prog.funcNamed Rows.fnExactApplyMoveRow.func = some 4 by kernel_rfl).symm.trans hf) |>.symm
      obtain rfl : fn = Tryd.f4 := (Option.some.inj (Tryd.func4.symm.trans hfn)).symm
      exact ⟨by kernel_rfl, fun j t ht => by
        rw [Tryd.params4] at ht
        have hm : t ∈ [31, 33, 37] := by simpa using Array.mem_of_getElem? ht
        have hall : ([31, 33, 37].all fun u => !Tryd.prog.wantsStandIn u) = true := by kernel_rfl
        exact (show Tryd.prog.wantsStandIn t = false by simpa using List.all_eq_true.1 hall t hm)⟩)
    (by kernel_rfl)
end Go.Proofs.YtefhhigcplemaaaDoor.fnExactApplyMove
