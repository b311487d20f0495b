/- For every code of bytes the texts of the drawn figures, the readings and the roundings are as the law FnFigureTexts says, and it returns true. No condition beyond the library's tables and errors as its text lays them. -/
import Derived.Test.YtddnmhkhgpangaaDoorC02e
import Derived.Test.YtddnmhkhgpangaaDoorD8
import Derived.Test.YtddnmhkhgpangaaDoorSe
import Derived.Test.YtddnmhkhgpangaaDoorHs
import Derived.Test.YtddnmhkhgpangaaDoorBig
import Derived.Test.YtddnmhkhgpangaaDoorT11
import Derived.Test.YtddnmhkhgpangaaDoorDr
import Derived.Test.YtddnmhkhgpangaaDoorTie
import Derived.Test.YtddnmhkhgpangaaDoorCards
import Derived.Test.YtddnmhkhgpangaaDoorFr
import Derived.Test.YtddnmhkhgpangaaDoorRows
import Derived.WalkKit
import Derived.ProofKit
import Derived.OpenShut
namespace Go.Proofs.YtddnmhkhgpangaaDoor.fnFigureTexts
open Go.ChangeShapes Go.WideShapes Go.ChangeAt Go.RowKit
set_option linter.unusedVariables false
set_option linter.unusedSimpArgs false

theorem own : ownKnob Tryd.prog.godebug = none := by kernel_rfl

theorem tab {w : World} (hL : laidMet Tryd.prog Rows.fnFigureTextsRow.laid w) : Tab w := by
  have h := hL.filter (fun x => x.1 == "internal/strconv.uint64pow10")
  have e : Rows.fnFigureTextsRow.laid.filter (fun x => x.1 == "internal/strconv.uint64pow10") = [("internal/strconv.uint64pow10", Lib.tabData .u64 Lib.pow10Tab)] := by rfl
  rw [e] at h
  exact Lib.tabIs_of_head (g := 0) (by kernel_rfl) (by kernel_rfl) Tryd.underlying103 Tryd.underlying92 (by kernel_rfl) (by kernel_rfl) h

theorem errs {w : World} (hL : laidMet Tryd.prog Rows.fnFigureTextsRow.laid w) : Errs w := by
  have h1 := hL.filter (fun x => x.1 == "strconv.ErrSyntax")
  have e1 : Rows.fnFigureTextsRow.laid.filter (fun x => x.1 == "strconv.ErrSyntax") = [("strconv.ErrSyntax", Rows.laid_strconv_ErrSyntax)] := by rfl
  rw [e1] at h1
  have h2 := hL.filter (fun x => x.1 == "strconv.ErrRange")
  have e2 : Rows.fnFigureTextsRow.laid.filter (fun x => x.1 == "strconv.ErrRange") = [("strconv.ErrRange", Rows.laid_strconv_ErrRange)] := by rfl
  rw [e2] at h2
  exact errs_of h1 h2

attribute [local go_sem high] guard_fig neq_fig eql_fig
theorem ft_facts (a s : Int) : (ftC a s = 1) ∨ (ftC a s = 0 ∧ (ftS a s).size ≤ 30 ∧ rfR (ftS a s) (rf2 (rvI (rfx (ftS a s))) (rvI (rfy (ftS a s)))) = ((a, s), 0)) := by
  cases h : fg a s
  · left; exact (ft_no a s h).2
  · right
    obtain ⟨h1, h2⟩ := ft_ok a s h
    rw [h1, h2]
    exact ⟨rfl, figB_size a s h, text_read a s h⟩
theorem rd_facts (u : ByteArray) : (((rfR u (rf2 (rvI (rfx u)) (rvI (rfy u)))).2 == 0) = false) ∨
    ((rfR u (rf2 (rvI (rfx u)) (rvI (rfy u)))).2 = 0 ∧ ftS (rfR u (rf2 (rvI (rfx u)) (rvI (rfy u)))).1.1 (rfR u (rf2 (rvI (rfx u)) (rvI (rfy u)))).1.2 = u ∧ ftC (rfR u (rf2 (rvI (rfx u)) (rvI (rfy u)))).1.1 (rfR u (rf2 (rvI (rfx u)) (rvI (rfy u)))).1.2 = 0) := by
  rcases read_text u with h | ⟨d, t, hf, he, hs⟩
  · left; simp [h]
  · right
    rw [he]
    obtain ⟨h1, h2⟩ := ft_ok d t hf
    exact ⟨rfl, h1.trans hs, h2⟩
theorem ro_facts (a s g : Int) : (((roR a s g).2 == 0) = false) ∨
    ((roR a s g).2 = 0 ∧ (reR (roR a s g).1.1 (roR a s g).1.2 a s).2 = 0 ∧ (reR (roR a s g).1.1 (roR a s g).1.2 a s).1 ≤ 500000 ∧
      (roR (roR a s g).1.1 (roR a s g).1.2 g).1.1 = (roR a s g).1.1 ∧ (roR (roR a s g).1.1 (roR a s g).1.2 g).1.2 = (roR a s g).1.2 ∧ (roR (roR a s g).1.1 (roR a s g).1.2 g).2 = 0) := by
  rcases roR_facts a s g with h | ⟨h0, h1, h2, h3⟩
  · left; simp [h]
  · right; exact ⟨h0, h1, h2, by rw [h3], by rw [h3], by rw [h3]⟩

set_option maxHeartbeats 8000000 in
set_option maxRecDepth 100000 in
/-- The walk of a code that is not too long. -/
theorem walk1 (w : World) (hE : Errs w) (hT : Tab w) (A0 : Option Addr) (n0 c0 : Nat) (hB0 : Bytes w w.heap.size A0 n0) (hbig : ¬ 4096 < n0) :
    Calls Tryd.prog 3 #[.slice A0 n0 c0] w (LawDone w) := by
  have HE := Lib.hid hE
  have HT := Lib.hid hT
  clear hE hT
  have hd : decide ((4096 : Int) < n0) = false := by simp; omega
  go_enter Tryd.func3, Tryd.ntmps3
  go_wp2_with fail
  refine (big_any A0 n0 c0 w).mono ?_
  rw [hd]
  rintro e w1 ⟨rfl, rfl⟩
  clear hd
  go_wp2_with fail
  refine (drawFigureText_any A0 n0 c0 w (by omega) hB0).mono ?_
  rintro e w1 ⟨a, s, rfl, -, hb⟩
  have G1 := (Gr.of_below hb).alloc (.cells #[.int .i64 a, .int .i64 s] 25)
  have L1 := (show Hass w1 [] from trivial).new' [.int .i64 a, .int .i64 s] 25 w1.heap.size (by simp)
  clear hb
  go_wp2_with fail
  refine (figureText_impl a s _ (HT.out.gr G1)).mono ?_
  rintro e w2 ⟨rfl, hg⟩
  have G2 := G1.trans hg
  have L2 := L1.gr hg
  clear L1 G1 hg
  have F := L2
  obtain ⟨⟨l1, c1⟩, -⟩ := F
  go_wp2_with fail
  clear l1 c1
  refine (figureText_spec a s _).mono ?_
  have HF := Lib.hid (ft_facts a s)
  generalize ftS a s = T at *
  generalize ftC a s = C at *
  rintro e w3 ⟨rfl, hg⟩
  have G3 := G2.trans hg
  have L3 := L2.gr hg
  clear L2 G2 hg
  go_wp2_with fail
  refine (drawReadFigure_any A0 n0 c0 _ (by omega) (hB0.later G3.below)).mono ?_
  rintro e w4 ⟨u, rfl, hu, hb⟩
  have G4 := G3.trans (Gr.of_below hb)
  have L4 := L3.below hb
  clear L3 G3 hb
  go_wp2_with fail
  refine (readFigure_impl u _ (by omega) (HE.out.gr G4) (HT.out.gr G4)).mono ?_
  have HS : ∀ w, Calls Tryd.prog 13 #[.string u] w fun e w' => e = .returned (.tuple #[.agg #[.int .i64 (rfR u (rf2 (rvI (rfx u)) (rvI (rfy u)))).1.1, .int .i64 (rfR u (rf2 (rvI (rfx u)) (rvI (rfy u)))).1.2], .int .i64 (rfR u (rf2 (rvI (rfx u)) (rvI (rfy u)))).2]) ∧ Gr w w' := fun w => by
    rw [rf2_same (rfx u) (rfy u)]; exact readFigure_spec u w (by omega)
  have HX := Lib.hid (rd_facts u)
  generalize (rfR u (rf2 (rvI (rfx u)) (rvI (rfy u)))).1.1 = x1 at *
  generalize (rfR u (rf2 (rvI (rfx u)) (rvI (rfy u)))).1.2 = x2 at *
  generalize (rfR u (rf2 (rvI (rfx u)) (rvI (rfy u)))).2 = xc at *
  rintro e w5 ⟨rfl, hg⟩
  have G5 := (G4.trans hg).alloc (.cells #[.int .i64 x1, .int .i64 x2] 25)
  have L5 := (L4.gr hg).new [.int .i64 x1, .int .i64 x2] 25
  clear L4 G4 hg
  have HS2 := Lib.hid HS
  clear HS
  go_wp2_with fail
  refine (HS2.out _).mono ?_
  rintro e w6 ⟨rfl, hg⟩
  have G6 := (G5.trans hg).alloc (.cells #[.int .i64 x1, .int .i64 x2] 25)
  have L6 := (L5.gr hg).new [.int .i64 x1, .int .i64 x2] 25
  clear L5 G5 hg HS2
  go_wp2_with fail
  refine (drawRound_any A0 n0 c0 _ (by omega) (hB0.later G6.below)).mono ?_
  rintro e w7 ⟨b, t, k, rfl, -, -, hb⟩
  have G7 := (G6.trans (Gr.of_below hb)).alloc (.cells #[.int .i64 b, .int .i64 t] 25)
  have L7 := (L6.below hb).new [.int .i64 b, .int .i64 t] 25
  clear L6 G6 hb
  go_wp2_with fail
  refine (roR_impl b t k _).mono ?_
  have HR := Lib.hid (ro_facts b t k)
  have HS : ∀ w, Calls Tryd.prog 16 #[.agg #[.int .i64 b, .int .i64 t], .int .i64 k] w fun e w' => e = .returned (.tuple #[.agg #[.int .i64 (roR b t k).1.1, .int .i64 (roR b t k).1.2], .int .i64 (roR b t k).2]) ∧ Gr w w' := fun w => roR_spec b t k w
  generalize (roR b t k).1.1 = r1 at *
  generalize (roR b t k).1.2 = r2 at *
  generalize (roR b t k).2 = rc at *
  have HS2 := Lib.hid HS
  clear HS
  rintro e w8 ⟨rfl, hg⟩
  have G8 := (G7.trans hg).alloc (.cells #[.int .i64 r1, .int .i64 r2] 25)
  have L8 := (L7.gr hg).new [.int .i64 r1, .int .i64 r2] 25
  clear L7 G7 hg
  have F := L8
  obtain ⟨⟨l1, c1⟩, ⟨l2, c2⟩, -⟩ := F
  go_wp2_with fail
  clear l1 c1 l2 c2
  refine (HS2.out _).mono ?_
  rintro e w9 ⟨rfl, hg⟩
  have G9 := (G8.trans hg).alloc (.cells #[.int .i64 r1, .int .i64 r2] 25)
  have L9 := (L8.gr hg).new [.int .i64 r1, .int .i64 r2] 25
  clear L8 G8 hg HS2
  have LL := L9
  obtain ⟨⟨q0, d0⟩, ⟨q1, d1⟩, ⟨q2, d2⟩, ⟨q3, d3⟩, ⟨q4, d4⟩, ⟨q5, d5⟩, -⟩ := LL
  rcases HX.out with hxc | ⟨rfl, hs1, hs2⟩
  · clear HX
    rcases HR.out with hrc | ⟨rfl, h1, h2, h3, h4, h5⟩
    · clear HR
      rcases HF.out with rfl | ⟨rfl, hz, hrd⟩
      · clear HF
        go_wp2_with fail
        go_ret
        exact ⟨rfl, G9.below⟩
      · have HQ := Lib.hid hrd
        clear HF hrd
        go_wp2_with fail
        refine (readFigure_impl T _ (by omega) (HE.out.gr G9) (HT.out.gr G9)).mono ?_
        rw [HQ.out]
        rintro e wz ⟨rfl, hg⟩
        have GZ := (G9.trans hg).alloc (.cells #[.int .i64 a, .int .i64 s] 25)
        have LL := (L9.gr hg).new [.int .i64 a, .int .i64 s] 25
        clear q0 d0 q1 d1 q2 d2 q3 d3 q4 d4 q5 d5
        obtain ⟨⟨q0, d0⟩, ⟨q1, d1⟩, ⟨q2, d2⟩, ⟨q3, d3⟩, ⟨q4, d4⟩, ⟨q5, d5⟩, ⟨q6, d6⟩, -⟩ := LL
        go_wp2_with fail
        go_ret
        exact ⟨rfl, GZ.below⟩
    · clear HR
      have Q1 := Lib.hid h1
      have Q2 := Lib.hid h2
      have Q3 := Lib.hid h3
      have Q4 := Lib.hid h4
      have Q5 := Lib.hid h5
      clear h1 h2 h3 h4 h5
      go_wp2_with fail
      refine (reR_impl r1 r2 b t _).mono ?_
      rw [Q1.out]
      have hn := Q2.out
      generalize (reR r1 r2 b t).1 = n at *
      rintro e wa ⟨rfl, hg⟩
      have G10 := G9.trans hg
      have L10 := L9.gr hg
      clear G9 hg L9 q0 d0 q1 d1 q2 d2 q3 d3 q4 d4 q5 d5
      have LL := L10
      obtain ⟨⟨q0, d0⟩, ⟨q1, d1⟩, ⟨q2, d2⟩, ⟨q3, d3⟩, ⟨q4, d4⟩, ⟨q5, d5⟩, -⟩ := LL
      go_wp2_with fail
      refine (roR_impl r1 r2 k _).mono ?_
      rw [Q3.out, Q4.out, Q5.out]
      rintro e wb ⟨rfl, hg⟩
      have G11 := (G10.trans hg).alloc (.cells #[.int .i64 r1, .int .i64 r2] 25)
      have L11 := (L10.gr hg).new [.int .i64 r1, .int .i64 r2] 25
      clear G10 hg L10 q0 d0 q1 d1 q2 d2 q3 d3 q4 d4 q5 d5
      have LL := L11
      obtain ⟨⟨q0, d0⟩, ⟨q1, d1⟩, ⟨q2, d2⟩, ⟨q3, d3⟩, ⟨q4, d4⟩, ⟨q5, d5⟩, ⟨q6, d6⟩, -⟩ := LL
      rcases HF.out with rfl | ⟨rfl, hz, hrd⟩
      · clear HF
        go_wp2_with fail
        go_ret
        exact ⟨rfl, G11.below⟩
      · have HQ := Lib.hid hrd
        clear HF hrd
        go_wp2_with fail
        refine (readFigure_impl T _ (by omega) (HE.out.gr G11) (HT.out.gr G11)).mono ?_
        rw [HQ.out]
        rintro e wz ⟨rfl, hg⟩
        have GZ := (G11.trans hg).alloc (.cells #[.int .i64 a, .int .i64 s] 25)
        have LL := (L11.gr hg).new [.int .i64 a, .int .i64 s] 25
        clear q0 d0 q1 d1 q2 d2 q3 d3 q4 d4 q5 d5 q6 d6
        obtain ⟨⟨q0, d0⟩, ⟨q1, d1⟩, ⟨q2, d2⟩, ⟨q3, d3⟩, ⟨q4, d4⟩, ⟨q5, d5⟩, ⟨q6, d6⟩, ⟨q7, d7⟩, -⟩ := LL
        go_wp2_with fail
        go_ret
        exact ⟨rfl, GZ.below⟩
  · clear HX
    have Q6 := Lib.hid hs1
    have Q7 := Lib.hid hs2
    clear hs1 hs2
    go_wp2_with fail
    refine (figureText_impl x1 x2 _ (HT.out.gr G9)).mono ?_
    rw [Q6.out, Q7.out]
    rintro e wc ⟨rfl, hg⟩
    have G10 := G9.trans hg
    have L10 := L9.gr hg
    clear G9 hg L9 q0 d0 q1 d1 q2 d2 q3 d3 q4 d4 q5 d5
    have LL := L10
    obtain ⟨⟨q0, d0⟩, ⟨q1, d1⟩, ⟨q2, d2⟩, ⟨q3, d3⟩, ⟨q4, d4⟩, ⟨q5, d5⟩, -⟩ := LL
    rcases HR.out with hrc | ⟨rfl, h1, h2, h3, h4, h5⟩
    · clear HR
      rcases HF.out with rfl | ⟨rfl, hz, hrd⟩
      · clear HF
        go_wp2_with fail
        go_ret
        exact ⟨rfl, G10.below⟩
      · have HQ := Lib.hid hrd
        clear HF hrd
        go_wp2_with fail
        refine (readFigure_impl T _ (by omega) (HE.out.gr G10) (HT.out.gr G10)).mono ?_
        rw [HQ.out]
        rintro e wz ⟨rfl, hg⟩
        have GZ := (G10.trans hg).alloc (.cells #[.int .i64 a, .int .i64 s] 25)
        have LL := (L10.gr hg).new [.int .i64 a, .int .i64 s] 25
        clear q0 d0 q1 d1 q2 d2 q3 d3 q4 d4 q5 d5
        obtain ⟨⟨q0, d0⟩, ⟨q1, d1⟩, ⟨q2, d2⟩, ⟨q3, d3⟩, ⟨q4, d4⟩, ⟨q5, d5⟩, ⟨q6, d6⟩, -⟩ := LL
        go_wp2_with fail
        go_ret
        exact ⟨rfl, GZ.below⟩
    · clear HR
      have Q1 := Lib.hid h1
      have Q2 := Lib.hid h2
      have Q3 := Lib.hid h3
      have Q4 := Lib.hid h4
      have Q5 := Lib.hid h5
      clear h1 h2 h3 h4 h5
      go_wp2_with fail
      refine (reR_impl r1 r2 b t _).mono ?_
      rw [Q1.out]
      have hn := Q2.out
      generalize (reR r1 r2 b t).1 = n at *
      rintro e wa ⟨rfl, hg⟩
      have G11 := G10.trans hg
      have L11 := L10.gr hg
      clear G10 hg L10 q0 d0 q1 d1 q2 d2 q3 d3 q4 d4 q5 d5
      have LL := L11
      obtain ⟨⟨q0, d0⟩, ⟨q1, d1⟩, ⟨q2, d2⟩, ⟨q3, d3⟩, ⟨q4, d4⟩, ⟨q5, d5⟩, -⟩ := LL
      go_wp2_with fail
      refine (roR_impl r1 r2 k _).mono ?_
      rw [Q3.out, Q4.out, Q5.out]
      rintro e wb ⟨rfl, hg⟩
      have G12 := (G11.trans hg).alloc (.cells #[.int .i64 r1, .int .i64 r2] 25)
      have L12 := (L11.gr hg).new [.int .i64 r1, .int .i64 r2] 25
      clear G11 hg L11 q0 d0 q1 d1 q2 d2 q3 d3 q4 d4 q5 d5
      have LL := L12
      obtain ⟨⟨q0, d0⟩, ⟨q1, d1⟩, ⟨q2, d2⟩, ⟨q3, d3⟩, ⟨q4, d4⟩, ⟨q5, d5⟩, ⟨q6, d6⟩, -⟩ := LL
      rcases HF.out with rfl | ⟨rfl, hz, hrd⟩
      · clear HF
        go_wp2_with fail
        go_ret
        exact ⟨rfl, G12.below⟩
      · have HQ := Lib.hid hrd
        clear HF hrd
        go_wp2_with fail
        refine (readFigure_impl T _ (by omega) (HE.out.gr G12) (HT.out.gr G12)).mono ?_
        rw [HQ.out]
        rintro e wz ⟨rfl, hg⟩
        have GZ := (G12.trans hg).alloc (.cells #[.int .i64 a, .int .i64 s] 25)
        have LL := (L12.gr hg).new [.int .i64 a, .int .i64 s] 25
        clear q0 d0 q1 d1 q2 d2 q3 d3 q4 d4 q5 d5 q6 d6
        obtain ⟨⟨q0, d0⟩, ⟨q1, d1⟩, ⟨q2, d2⟩, ⟨q3, d3⟩, ⟨q4, d4⟩, ⟨q5, d5⟩, ⟨q6, d6⟩, ⟨q7, d7⟩, -⟩ := LL
        go_wp2_with fail
        go_ret
        exact ⟨rfl, GZ.below⟩

set_option maxHeartbeats 4000000 in
set_option maxRecDepth 100000 in
theorem walk (w : World) (hL : laidMet Tryd.prog Rows.fnFigureTextsRow.laid w) (A0 : Option Addr) (n0 c0 : Nat) (hB0 : Bytes w w.heap.size A0 n0) :
    Calls Tryd.prog 3 #[.slice A0 n0 c0] w (LawDone w) := by
  have HT := tab hL
  have HE := errs hL
  clear hL
  by_cases hbig : 4096 < n0
  · clear HT HE
    have hd : decide ((4096 : Int) < n0) = true := by simp; omega
    go_enter Tryd.func3, Tryd.ntmps3
    go_wp2_with fail
    refine (big_any A0 n0 c0 w).mono ?_
    rw [hd]
    rintro e w1 ⟨rfl, rfl⟩
    go_wp2_with fail
    go_ret
    exact ⟨rfl, Below.refl _ _⟩
  · exact walk1 w HE HT A0 n0 c0 hB0 hbig

set_option maxRecDepth 100000 in
theorem lifted (os : Os) (started : os.Started) (H : Type) (enc : TypeId × Value → H) :
    ReturnsInHanded {} Tryd.checked os 3 .any (fun w args => (Rows.fnFigureTextsSpec.pre enc Tryd.prog Tryd.f3 Rows.fnFigureTextsRow.domain false w args ∧ laidMetH Tryd.prog Rows.fnFigureTextsRow.laid w) ∧ sizedMet enc Tryd.prog Tryd.f3 (OpenSpec.ofChange Rows.fnFigureTextsSpec) false w args) (Rows.fnFigureTextsSpec.post enc Tryd.prog Tryd.f3 false true false false) := by
  refine returnsInHanded_of_change_and (C := Tryd.checked) (X := fun w _ => laidMetH Tryd.prog Rows.fnFigureTextsRow.laid w) (fun _ _ _ hh h => h.of_heap hh) own started (by kernel_rfl) Tryd.func3
    (ChangeSpec.witness_shaped (enc := enc) (C := Tryd.checked) (os := os) (X := fun w _ => laidMetH Tryd.prog Rows.fnFigureTextsRow.laid w) false (World.laidAll Tryd.prog os Rows.fnFigureTextsRow.laid) #[.slice none 0 0] 8 (World.laidAll_os _ _ _)
      (World.shaped_of_ZipB (by kernel_rfl) (by kernel_rfl)) (by kernel_rfl) (by kernel_rfl) (by kernel_rfl)
      (by rw [MakeChecks.laidMetH_plain _ _ _ (by kernel_rfl)]; exact laidMet_laidAll _ (by kernel_rfl) (by kernel_rfl))) ?_
  intro W base args ds gs before hval0 hW _ _ hL _
  rw [MakeChecks.laidMetH_plain _ _ _ (by kernel_rfl)] at hL
  have hval : ∀ (j : Nat) t v, Tryd.f3.params[j]? = some t → args[j]? = some v → Value.okWide Tryd.prog W .any base t v := hval0
  have hW' := hW
  obtain ⟨p, q, hA0, hV, hpq, hfz, hnd⟩ := hW
  have hA : DataW.TrodAll enc Tryd.prog W 0 (fun _ => true) true Tryd.f3.params.toList args.toList ds p := hA0
  have hT := hA
  obtain ⟨rfl, rfl⟩ := trodVars_none hV
  rw [Tryd.params3] at hA hval
  obtain ⟨v0, vs0, d0, ds0, p0, q0, hargs, rfl, rfl, h0, r0⟩ := trodAll_cons hA
  obtain ⟨rfl, rfl, rfl⟩ := trodAll_nil r0
  obtain rfl : args = #[v0] := by cases args; simp_all
  obtain ⟨A0, n0, c0, rfl, -, hB0⟩ := open_code Tryd.underlying22 Tryd.underlying5 (by kernel_rfl) (hval 0 22 v0 rfl rfl) h0
  clear hA0 hval0
  refine (walk W hL A0 n0 c0 hB0).mono fun e W' ⟨he, hb⟩ => ?_
  subst he
  exact ⟨_, rfl, law_post laidOut hW' hT hpq (by kernel_rfl) (fun _ _ => rfl) rfl rfl rfl Tryd.underlying4 hb⟩

theorem over : Rows.fnFigureTextsRow.holds Tryd.pinned (OpenSpec.ofChange Rows.fnFigureTextsSpec) :=
  OpenClaim.holds_of_wide 3 Tryd.f3 rfl rfl rfl rfl rfl rfl rfl ⟨rfl, rfl, rfl, rfl, rfl⟩ rfl rfl rfl rfl rfl (by kernel_rfl) Tryd.func3 (by kernel_rfl)
    (of_decide_eq_true (by kernel_rfl)) (by unfold Func.isWrapper; first | (rw [if_pos (by decide +kernel)]; kernel_rfl) | (rw [if_neg (by decide +kernel)]; exact ⟨rfl, rfl⟩))
    (fun os started H enc _ => lifted os started H enc)

theorem proved : Rows.FnFigureTextsCardSaid :=
  Claim7.holds_tied_plain_at .later [] Rows.fnFigureTextsCard.laidKinds true Rows.fnFigureTextsCard.stood.harness true
    over (fun _ h => by cases h) (by kernel_rfl) (fun _ h => by cases h) fnFigureTexts_row_tie rfl ⟨rfl, rfl⟩ (by kernel_rfl) rfl
    (fun f fn hf hfn => by
      obtain rfl : f = 3 := Option.some.inj ((show Tryd.prog.funcNamed Rows.fnFigureTextsRow.func = some 3 by kernel_rfl).symm.trans hf) |>.symm
      obtain rfl : fn = Tryd.f3 := (Option.some.inj (Tryd.func3.symm.trans hfn)).symm
      exact ⟨by kernel_rfl, fun j t ht => by
        rw [Tryd.params3] at ht
        have hm : t ∈ [22] := by simpa using Array.mem_of_getElem? ht
        have hall : ([22].all fun u => !Tryd.prog.wantsStandIn u) = true := by kernel_rfl
        exact (show Tryd.prog.wantsStandIn t = false by simpa using List.all_eq_true.1 hall t hm)⟩)
    (by kernel_rfl)
end Go.Proofs.YtddnmhkhgpangaaDoor.fnFigureTexts
