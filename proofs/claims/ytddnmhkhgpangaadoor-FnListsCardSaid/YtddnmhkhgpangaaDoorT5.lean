/- Reading values and figures: the program's own readers, by the library's ParseInt. -/
import Derived.Test.YtddnmhkhgpangaaDoorT4
import Derived.Stop.LaidErr
namespace Go.Proofs.YtddnmhkhgpangaaDoor
open Go.RowKit
set_option linter.unusedVariables false
set_option linter.unusedSimpArgs false

/-- The library's two errors of parsing hold interface values. -/
def Errs (w : World) : Prop := ∃ t p u q, w.var? Tryd.prog "strconv.ErrSyntax" = some #[.iface t p] ∧ w.var? Tryd.prog "strconv.ErrRange" = some #[.iface u q]
theorem var_gr {w : World} {k : Nat} {os : Array Obj} {n : String} {cs : Array Value} (h : w.var? Tryd.prog n = some cs) : (gr w k os).var? Tryd.prog n = some cs := by
  unfold World.var? at h ⊢
  cases hg : (Tryd.prog).globalNamed n with
  | none => simp [hg] at h
  | some g =>
    simp only [hg, Option.bind_some] at h ⊢
    have hlt : g < w.heap.size := by
      rcases Nat.lt_or_ge g w.heap.size with h' | h'
      · exact h'
      · simp [Array.getElem?_eq_none h'] at h
    rw [gr_old w k os hlt]
    exact h
theorem Errs.gr {w v : World} (h : Errs w) (hg : Gr w v) : Errs v := by
  obtain ⟨t, p, u, q, h1, h2⟩ := h
  obtain ⟨k, os, rfl⟩ := hg
  exact ⟨t, p, u, q, var_gr h1, var_gr h2⟩
theorem star_row (u : TypeId) (h : (Tryd.prog).typeName? 3 u = some "*errors.errorString") : u = 130 :=
  typeName_ptr_named (nm := "errors.errorString") (by rw [show "*" ++ "errors.errorString" = "*errors.errorString" by decide]; kernel_rfl) (by kernel_rfl) (by decide) u (by rw [show "*" ++ "errors.errorString" = "*errors.errorString" by decide]; exact h)
theorem errs_of {w : World} {x y : List UInt8}
    (h1 : laidMet Tryd.prog [("strconv.ErrSyntax", .iface "*errors.errorString" (.ptr (.agg [.lit (.string x)])))] w)
    (h2 : laidMet Tryd.prog [("strconv.ErrRange", .iface "*errors.errorString" (.ptr (.agg [.lit (.string y)])))] w) : Errs w := by
  obtain ⟨a1, s1, hv1, hc1, hs1, hz1⟩ := laid_sentinel h1 (g := 1) (by kernel_rfl) (by kernel_rfl) Tryd.underlying77 star_row Tryd.underlying130 Tryd.underlying132 rfl rfl Tryd.underlying9 (by kernel_rfl) (by kernel_rfl)
  obtain ⟨a2, s2, hv2, hc2, hs2, hz2⟩ := laid_sentinel h2 (g := 2) (by kernel_rfl) (by kernel_rfl) Tryd.underlying77 star_row Tryd.underlying130 Tryd.underlying132 rfl rfl Tryd.underlying9 (by kernel_rfl) (by kernel_rfl)
  exact ⟨_, _, _, _, hv1, hv2⟩

/-- What the program's ParseInt does, by how the numeral ends. -/
theorem parse_ok (s : ByteArray) (n : Int) (w : World) (hs : s.size ≤ 281474976710656) (h : Lib.parseIntB 64 s.data.toList = .ok n) :
    Calls Tryd.prog 63 #[.string s, .int .i64 10, .int .i64 64] w fun e w' => e = .returned (.tuple #[.int .i64 n, .nilIface]) ∧ Gr w w' :=
  (Tryd.strconv_ParseInt_10_at64_ok s (by omega) n h w).mono fun _ _ ⟨he, hw⟩ => ⟨he, by
    rcases hw with rfl | ⟨t, rfl⟩
    · exact Gr.refl _
    · exact Gr.of_below (Lib.bytesWorld_below _ _ _)⟩
/-- It failed: some number, and an error that is not nil. -/
def Failed (w : World) (e : Ending) (w' : World) : Prop := ∃ (n : Int) (t : TypeId) (v : Value), e = .returned (.tuple #[.int .i64 n, .iface t v]) ∧ Gr w w'
theorem parse_no (s : ByteArray) (w : World) (hs : s.size ≤ 281474976710656) (hE : Errs w) (h : Lib.parseIntB 64 s.data.toList = .syntax ∨ Lib.parseIntB 64 s.data.toList = .range) :
    Calls Tryd.prog 63 #[.string s, .int .i64 10, .int .i64 64] w (Failed w) := by
  obtain ⟨t, p, u, q, h1, h2⟩ := hE
  rcases h with h | h
  · exact (Tryd.strconv_ParseInt_10_at64_syntax_var s hs h t p w h1).mono fun _ _ ⟨N, he, _, _, hb⟩ => ⟨_, _, _, he, Gr.of_below hb⟩
  · exact (Tryd.strconv_ParseInt_10_at64_range_var s hs h u q w h2).mono fun _ _ ⟨N, he, _, _, hb⟩ => ⟨_, _, _, he, Gr.of_below hb⟩

theorem itoa_beq (s : ByteArray) (n : Int) : ((itoaB n).toList == s.toList) = decide (Lib.itoa n = s.data.toList) := by
  rw [ByteArray.toList_eq, ByteArray.toList_eq, Bool.eq_iff_iff]
  unfold itoaB
  simp

set_option maxHeartbeats 1000000 in
theorem readValue_impl (s : ByteArray) (w : World) (hs : s.size ≤ 281474976710656) (hE : Errs w) (hT : Tab w) :
    Calls Tryd.prog 38 #[.string s] w fun e w' => e = .returned (.tuple #[.int .i64 (rvI s.data.toList).1, .bool (rvI s.data.toList).2]) ∧ Gr w w' := by
  have HE := Lib.hid hE
  have HT := Lib.hid hT
  clear hE hT
  rcases hp : Lib.parseIntB 64 s.data.toList with n | _ | _
  · have HP := Lib.hid hp
    have hb := itoa_beq s n
    by_cases hv : vl n = true
    · obtain ⟨v1, v2⟩ := (vl_iff n).1 hv
      by_cases hq : Lib.itoa n = s.data.toList
      · have H := Lib.hid (rvI_ok _ n hp hv hq)
        have HB := Lib.hid (show ((itoaB n).toList == s.toList) = true by rw [hb]; simpa using hq)
        have HV := Lib.hid hv
        clear hp hb hv hq
        go_enter Tryd.func38, Tryd.ntmps38
        have hB := HB.out
        go_wp2_with (first
          | (go_at_call 63; refine (parse_ok s n _ hs HP.out).mono ?_; rintro e w' ⟨rfl, k, os, rfl⟩)
          | (go_at_call 64; refine (isValue_any _ _).mono ?_; rw [HV.out]; rintro e w' ⟨rfl, rfl⟩)
          | (go_at_call 32; refine (formatInt_g _ _ (by omega) (by omega) (HT.out.gr (by repeat (first | with_reducible exact Gr.refl _ | with_reducible refine Gr.alloc ?_ _ | with_reducible refine Gr.gr ?_ _ _ | with_reducible refine Gr.drew ?_ | with_reducible refine Gr.drewN ?_ _)))).mono ?_; rintro e w' ⟨rfl, k, os, rfl⟩))
        go_ret2
        exact ⟨ret_ib (by rw [H.out]) (by rw [H.out]), (by repeat (first | with_reducible exact Gr.refl _ | with_reducible refine Gr.alloc ?_ _ | with_reducible refine Gr.gr ?_ _ _ | with_reducible refine Gr.drew ?_ | with_reducible refine Gr.drewN ?_ _))⟩
      · have H := Lib.hid (rvI_no _ n hp (.inr hq))
        have HB := Lib.hid (show ((itoaB n).toList == s.toList) = false by rw [hb]; simpa using hq)
        have HV := Lib.hid hv
        clear hp hb hv hq
        go_enter Tryd.func38, Tryd.ntmps38
        have hB := HB.out
        go_wp2_with (first
          | (go_at_call 63; refine (parse_ok s n _ hs HP.out).mono ?_; rintro e w' ⟨rfl, k, os, rfl⟩)
          | (go_at_call 64; refine (isValue_any _ _).mono ?_; rw [HV.out]; rintro e w' ⟨rfl, rfl⟩)
          | (go_at_call 32; refine (formatInt_g _ _ (by omega) (by omega) (HT.out.gr (by repeat (first | with_reducible exact Gr.refl _ | with_reducible refine Gr.alloc ?_ _ | with_reducible refine Gr.gr ?_ _ _ | with_reducible refine Gr.drew ?_ | with_reducible refine Gr.drewN ?_ _)))).mono ?_; rintro e w' ⟨rfl, k, os, rfl⟩))
        go_ret2
        exact ⟨ret_ib (by rw [H.out]) (by rw [H.out]), (by repeat (first | with_reducible exact Gr.refl _ | with_reducible refine Gr.alloc ?_ _ | with_reducible refine Gr.gr ?_ _ _ | with_reducible refine Gr.drew ?_ | with_reducible refine Gr.drewN ?_ _))⟩
    · have hv : vl n = false := by simpa using hv
      have H := Lib.hid (rvI_no _ n hp (.inl hv))
      have HV := Lib.hid hv
      clear hp hb hv
      go_enter Tryd.func38, Tryd.ntmps38
      go_wp2_with (first
        | (go_at_call 63; refine (parse_ok s n _ hs HP.out).mono ?_; rintro e w' ⟨rfl, k, os, rfl⟩)
        | (go_at_call 64; refine (isValue_any _ _).mono ?_; rw [HV.out]; rintro e w' ⟨rfl, rfl⟩))
      go_ret2
      exact ⟨ret_ib (by rw [H.out]) (by rw [H.out]), (by repeat (first | with_reducible exact Gr.refl _ | with_reducible refine Gr.alloc ?_ _ | with_reducible refine Gr.gr ?_ _ _ | with_reducible refine Gr.drew ?_ | with_reducible refine Gr.drewN ?_ _))⟩
  all_goals
    have H := Lib.hid (show rvI s.data.toList = (0, false) by first | exact rvI_syn _ hp | exact rvI_ran _ hp)
    have HP := Lib.hid (show Lib.parseIntB 64 s.data.toList = .syntax ∨ Lib.parseIntB 64 s.data.toList = .range by first | exact .inl hp | exact .inr hp)
    clear hp
    go_enter Tryd.func38, Tryd.ntmps38
    go_wp2_with (go_at_call 63; refine (parse_no s _ hs HE.out HP.out).mono ?_; rintro e w' ⟨n, t, v, rfl, k, os, rfl⟩)
    go_ret2
    exact ⟨ret_ib (by rw [H.out]) (by rw [H.out]), (by repeat (first | with_reducible exact Gr.refl _ | with_reducible refine Gr.alloc ?_ _ | with_reducible refine Gr.gr ?_ _ _ | with_reducible refine Gr.drew ?_ | with_reducible refine Gr.drewN ?_ _))⟩

/-- The two numerals of a figure's text, and what a reading of them becomes. -/
def rfx (s : ByteArray) : List UInt8 := (s.extract 0 1 ++ s.extract 2 5).data.toList
def rfy (s : ByteArray) : List UInt8 := (s.extract 6 s.size).data.toList
def rfR (s : ByteArray) (f : (Int × Int) × Int) : (Int × Int) × Int := if h : 7 ≤ s.size then (if s[1].toNat = 46 ∧ s[5].toNat = 101 then f else ((0, 0), 6)) else ((0, 0), 6)
theorem rfR_short (s : ByteArray) (f : (Int × Int) × Int) (h : s.size < 7) : rfR s f = ((0, 0), 6) := dif_neg (by omega)
theorem rfR_ok (s : ByteArray) (f : (Int × Int) × Int) (h : 7 ≤ s.size) (h1 : s[1].toNat = 46) (h5 : s[5].toNat = 101) : rfR s f = f := by unfold rfR; rw [dif_pos h, if_pos ⟨h1, h5⟩]
theorem rfR_no (s : ByteArray) (f : (Int × Int) × Int) (h : 7 ≤ s.size) (h1 : s[1].toNat ≠ 46 ∨ s[5].toNat ≠ 101) : rfR s f = ((0, 0), 6) := by unfold rfR; rw [dif_pos h, if_neg (by omega)]

set_option maxHeartbeats 4000000 in
theorem readFigure_spec_main (s : ByteArray) (w : World) (h7 : ¬ s.size < 7) (c1 : s[1].toNat = 46) (c5 : s[5].toNat = 101) (hs : s.size ≤ 281474976710656) :
    Calls Tryd.prog 13 #[.string s] w fun e w' => e = .returned (.tuple #[.agg #[.int .i64 (rfR s (rf2 (rdv (rfx s)) (rds (rfy s)))).1.1, .int .i64 (rfR s (rf2 (rdv (rfx s)) (rds (rfy s)))).1.2], .int .i64 (rfR s (rf2 (rdv (rfx s)) (rds (rfy s)))).2]) ∧ Gr w w' := by
  have H0 := rfR_ok s (rf2 (rdv (rfx s)) (rds (rfy s))) (by omega) c1 c5
  have e1 : (s.extract 0 1).size = 1 := by simp [ByteArray.size_extract]; omega
  have e2 : (s.extract 2 5).size = 3 := by simp [ByteArray.size_extract]; omega
  have e3 : (s.extract 0 1 ++ s.extract 2 5).size = 4 := by rw [ByteArray.size_append, e1, e2]
  have e4 : (s.extract 6 s.size).size ≤ 281474976710656 := by simp [ByteArray.size_extract]; omega
  have hX : ∀ w', Gr w w' → Calls Tryd.prog 39 #[.string (s.extract 0 1 ++ s.extract 2 5)] w' fun e w'' => e = .returned (.tuple #[.int .i64 (rdv (rfx s)).1, .bool (rdv (rfx s)).2]) ∧ Gr w' w'' := fun w' hg => value_spec _ _ (by unfold maxLen; omega)
  have hY : ∀ w', Gr w w' → Calls Tryd.prog 40 #[.string (s.extract 6 s.size)] w' fun e w'' => e = .returned (.tuple #[.int .i64 (rds (rfy s)).1, .bool (rds (rfy s)).2]) ∧ Gr w' w'' := fun w' hg => signed_spec _ _ (by unfold maxLen; omega)
  skip
  clear e3
  have i1 : (1 : Int) ≤ s.size := by omega
  have i2 : (2 : Int) ≤ s.size := by omega
  have i5 : (5 : Int) ≤ s.size := by omega
  have i6 : (6 : Int) ≤ s.size := by omega
  generalize rdv (rfx s) = a at *
  generalize rds (rfy s) = b at *
  obtain ⟨a1, a2⟩ := a
  obtain ⟨b1, b2⟩ := b
  have hc : (a2 = false ∧ rf2 (a1, a2) (b1, b2) = ((0, 0), 6)) ∨ (a2 = true ∧ b2 = false ∧ rf2 (a1, a2) (b1, b2) = ((0, 0), 6)) ∨ (a2 = true ∧ b2 = true ∧ fg a1 b1 = false ∧ rf2 (a1, a2) (b1, b2) = ((0, 0), 6)) ∨ (a2 = true ∧ b2 = true ∧ fg a1 b1 = true ∧ rf2 (a1, a2) (b1, b2) = ((a1, b1), 0)) := by
    cases a2 <;> cases b2 <;> cases hf : fg a1 b1 <;> simp [rf2, hf]
  rcases hc with ⟨rfl, hr⟩ | ⟨rfl, rfl, hr⟩ | ⟨rfl, rfl, hf, hr⟩ | ⟨rfl, rfl, hf, hr⟩
  rotate_left 3
  · have H := Lib.hid (H0.trans hr)
    try have HF := Lib.hid hf
    try clear hf
    clear hr H0
    go_enter Tryd.func13, Tryd.ntmps13
    go_wp2
    ((first | refine region_gr_on (by kernel_rfl) (by kernel_rfl) ?_ | refine region_gr (by kernel_rfl) (by kernel_rfl) ?_); (repeat (quiet_step (exact Calls.gr_of (hX _ (by repeat (first | with_reducible exact Gr.refl _ | with_reducible refine Gr.alloc ?_ _ | with_reducible refine Gr.gr ?_ _ _ | with_reducible refine Gr.drew ?_ | with_reducible refine Gr.drewN ?_ _)))))); refine wpQuiet_nil ?_; intro _ hw'; obtain ⟨⟨kq, oq⟩, hw''⟩ := hw'; subst hw'')
    go_wp2_with (first
      | (go_at_call 40; refine (hY _ (by repeat (first | with_reducible exact Gr.refl _ | with_reducible refine Gr.alloc ?_ _ | with_reducible refine Gr.gr ?_ _ _ | with_reducible refine Gr.drew ?_ | with_reducible refine Gr.drewN ?_ _))).mono ?_; rintro e w' ⟨rfl, k, os, rfl⟩)
      | (go_at_call 33; refine (isFigure_spec _ _ _).mono ?_; rw [HF.out]; rintro e w' ⟨rfl, k, os, rfl⟩))
    ((try simp only [Exit.inBlock, Exit.then]); refine bodyPost_ret (v := .tuple #[.agg #[.int .i64 a1, .int .i64 b1], .int .i64 0]) (by simp [results, Tryd.results13, go_sem]) rfl ?_)
    exact ⟨ret_fig (by rw [H.out]) (by rw [H.out]) (by rw [H.out]), (by repeat (first | with_reducible exact Gr.refl _ | with_reducible refine Gr.alloc ?_ _ | with_reducible refine Gr.gr ?_ _ _ | with_reducible refine Gr.drew ?_ | with_reducible refine Gr.drewN ?_ _))⟩
  all_goals
    have H := Lib.hid (H0.trans hr)
    try have HF := Lib.hid hf
    try clear hf
    clear hr H0
    go_enter Tryd.func13, Tryd.ntmps13
    go_wp2
    ((first | refine region_gr_on (by kernel_rfl) (by kernel_rfl) ?_ | refine region_gr (by kernel_rfl) (by kernel_rfl) ?_); (repeat (quiet_step (exact Calls.gr_of (hX _ (by repeat (first | with_reducible exact Gr.refl _ | with_reducible refine Gr.alloc ?_ _ | with_reducible refine Gr.gr ?_ _ _ | with_reducible refine Gr.drew ?_ | with_reducible refine Gr.drewN ?_ _)))))); refine wpQuiet_nil ?_; intro _ hw'; obtain ⟨⟨kq, oq⟩, hw''⟩ := hw'; subst hw'')
    go_wp2_with (first
      | (go_at_call 40; refine (hY _ (by repeat (first | with_reducible exact Gr.refl _ | with_reducible refine Gr.alloc ?_ _ | with_reducible refine Gr.gr ?_ _ _ | with_reducible refine Gr.drew ?_ | with_reducible refine Gr.drewN ?_ _))).mono ?_; rintro e w' ⟨rfl, k, os, rfl⟩)
      | (go_at_call 33; refine (isFigure_spec _ _ _).mono ?_; rw [HF.out]; rintro e w' ⟨rfl, k, os, rfl⟩))
    ((try simp only [Exit.inBlock, Exit.then]); refine bodyPost_ret (v := .tuple #[.agg #[.int .i64 0, .int .i64 0], .int .i64 6]) (by simp [results, Tryd.results13, go_sem]) rfl ?_)
    exact ⟨ret_fig (by rw [H.out]) (by rw [H.out]) (by rw [H.out]), (by repeat (first | with_reducible exact Gr.refl _ | with_reducible refine Gr.alloc ?_ _ | with_reducible refine Gr.gr ?_ _ _ | with_reducible refine Gr.drew ?_ | with_reducible refine Gr.drewN ?_ _))⟩

set_option maxHeartbeats 1000000 in
theorem readFigure_spec (s : ByteArray) (w : World) (hs : s.size ≤ 281474976710656) :
    Calls Tryd.prog 13 #[.string s] w fun e w' => e = .returned (.tuple #[.agg #[.int .i64 (rfR s (rf2 (rdv (rfx s)) (rds (rfy s)))).1.1, .int .i64 (rfR s (rf2 (rdv (rfx s)) (rds (rfy s)))).1.2], .int .i64 (rfR s (rf2 (rdv (rfx s)) (rds (rfy s)))).2]) ∧ Gr w w' := by
  by_cases h7 : s.size < 7
  · have H := Lib.hid (rfR_short s (rf2 (rdv (rfx s)) (rds (rfy s))) h7)
    go_enter Tryd.func13, Tryd.ntmps13
    go_wp2
    ((try simp only [Exit.inBlock, Exit.then]); refine bodyPost_ret (v := .tuple #[.agg #[.int .i64 0, .int .i64 0], .int .i64 6]) (by simp [results, Tryd.results13, go_sem]) rfl ?_)
    exact ⟨ret_fig (by rw [H.out]) (by rw [H.out]) (by rw [H.out]), (by repeat (first | with_reducible exact Gr.refl _ | with_reducible refine Gr.alloc ?_ _ | with_reducible refine Gr.gr ?_ _ _ | with_reducible refine Gr.drew ?_ | with_reducible refine Gr.drewN ?_ _))⟩
  by_cases c1 : s[1].toNat = 46
  · by_cases c5 : s[5].toNat = 101
    · exact readFigure_spec_main s w h7 c1 c5 hs
    · have H := Lib.hid (rfR_no s (rf2 (rdv (rfx s)) (rds (rfy s))) (by omega) (.inr c5))
      have c5b : ((s[5].toNat : Int) != 101) = true := by simp; omega
      go_enter Tryd.func13, Tryd.ntmps13
      go_wp2
      ((try simp only [Exit.inBlock, Exit.then]); refine bodyPost_ret (v := .tuple #[.agg #[.int .i64 0, .int .i64 0], .int .i64 6]) (by simp [results, Tryd.results13, go_sem]) rfl ?_)
      exact ⟨ret_fig (by rw [H.out]) (by rw [H.out]) (by rw [H.out]), (by repeat (first | with_reducible exact Gr.refl _ | with_reducible refine Gr.alloc ?_ _ | with_reducible refine Gr.gr ?_ _ _ | with_reducible refine Gr.drew ?_ | with_reducible refine Gr.drewN ?_ _))⟩
  · have H := Lib.hid (rfR_no s (rf2 (rdv (rfx s)) (rds (rfy s))) (by omega) (.inl c1))
    have c1b : ((s[1].toNat : Int) != 46) = true := by simp; omega
    go_enter Tryd.func13, Tryd.ntmps13
    go_wp2
    ((try simp only [Exit.inBlock, Exit.then]); refine bodyPost_ret (v := .tuple #[.agg #[.int .i64 0, .int .i64 0], .int .i64 6]) (by simp [results, Tryd.results13, go_sem]) rfl ?_)
    exact ⟨ret_fig (by rw [H.out]) (by rw [H.out]) (by rw [H.out]), (by repeat (first | with_reducible exact Gr.refl _ | with_reducible refine Gr.alloc ?_ _ | with_reducible refine Gr.gr ?_ _ _ | with_reducible refine Gr.drew ?_ | with_reducible refine Gr.drewN ?_ _))⟩

set_option maxHeartbeats 4000000 in
theorem readFigure_impl_main (s : ByteArray) (w : World) (h7 : ¬ s.size < 7) (c1 : s[1].toNat = 46) (c5 : s[5].toNat = 101) (hs : s.size ≤ 281474976710656) (hE : Errs w) (hT : Tab w) :
    Calls Tryd.prog 12 #[.string s] w fun e w' => e = .returned (.tuple #[.agg #[.int .i64 (rfR s (rf2 (rvI (rfx s)) (rvI (rfy s)))).1.1, .int .i64 (rfR s (rf2 (rvI (rfx s)) (rvI (rfy s)))).1.2], .int .i64 (rfR s (rf2 (rvI (rfx s)) (rvI (rfy s)))).2]) ∧ Gr w w' := by
  have H0 := rfR_ok s (rf2 (rvI (rfx s)) (rvI (rfy s))) (by omega) c1 c5
  have e1 : (s.extract 0 1).size = 1 := by simp [ByteArray.size_extract]; omega
  have e2 : (s.extract 2 5).size = 3 := by simp [ByteArray.size_extract]; omega
  have e3 : (s.extract 0 1 ++ s.extract 2 5).size = 4 := by rw [ByteArray.size_append, e1, e2]
  have e4 : (s.extract 6 s.size).size ≤ 281474976710656 := by simp [ByteArray.size_extract]; omega
  have hX : ∀ w', Gr w w' → Calls Tryd.prog 38 #[.string (s.extract 0 1 ++ s.extract 2 5)] w' fun e w'' => e = .returned (.tuple #[.int .i64 (rvI (rfx s)).1, .bool (rvI (rfx s)).2]) ∧ Gr w' w'' := fun w' hg => readValue_impl _ _ (by omega) (hE.gr hg) (hT.gr hg)
  have hY : ∀ w', Gr w w' → Calls Tryd.prog 38 #[.string (s.extract 6 s.size)] w' fun e w'' => e = .returned (.tuple #[.int .i64 (rvI (rfy s)).1, .bool (rvI (rfy s)).2]) ∧ Gr w' w'' := fun w' hg => readValue_impl _ _ e4 (hE.gr hg) (hT.gr hg)
  clear hE hT
  clear e3
  have i1 : (1 : Int) ≤ s.size := by omega
  have i2 : (2 : Int) ≤ s.size := by omega
  have i5 : (5 : Int) ≤ s.size := by omega
  have i6 : (6 : Int) ≤ s.size := by omega
  generalize rvI (rfx s) = a at *
  generalize rvI (rfy s) = b at *
  obtain ⟨a1, a2⟩ := a
  obtain ⟨b1, b2⟩ := b
  have hc : (a2 = false ∧ rf2 (a1, a2) (b1, b2) = ((0, 0), 6)) ∨ (a2 = true ∧ b2 = false ∧ rf2 (a1, a2) (b1, b2) = ((0, 0), 6)) ∨ (a2 = true ∧ b2 = true ∧ fg a1 b1 = false ∧ rf2 (a1, a2) (b1, b2) = ((0, 0), 6)) ∨ (a2 = true ∧ b2 = true ∧ fg a1 b1 = true ∧ rf2 (a1, a2) (b1, b2) = ((a1, b1), 0)) := by
    cases a2 <;> cases b2 <;> cases hf : fg a1 b1 <;> simp [rf2, hf]
  rcases hc with ⟨rfl, hr⟩ | ⟨rfl, rfl, hr⟩ | ⟨rfl, rfl, hf, hr⟩ | ⟨rfl, rfl, hf, hr⟩
  rotate_left 3
  · have H := Lib.hid (H0.trans hr)
    try have HF := Lib.hid hf
    try clear hf
    clear hr H0
    go_enter Tryd.func12, Tryd.ntmps12
    go_wp2
    ((first | refine region_gr_on (by kernel_rfl) (by kernel_rfl) ?_ | refine region_gr (by kernel_rfl) (by kernel_rfl) ?_); (repeat (quiet_step (exact Calls.gr_of (hX _ (by repeat (first | with_reducible exact Gr.refl _ | with_reducible refine Gr.alloc ?_ _ | with_reducible refine Gr.gr ?_ _ _ | with_reducible refine Gr.drew ?_ | with_reducible refine Gr.drewN ?_ _)))))); refine wpQuiet_nil ?_; intro _ hw'; obtain ⟨⟨kq, oq⟩, hw''⟩ := hw'; subst hw'')
    go_wp2_with (first
      | (go_at_call 38; refine (hY _ (by repeat (first | with_reducible exact Gr.refl _ | with_reducible refine Gr.alloc ?_ _ | with_reducible refine Gr.gr ?_ _ _ | with_reducible refine Gr.drew ?_ | with_reducible refine Gr.drewN ?_ _))).mono ?_; rintro e w' ⟨rfl, k, os, rfl⟩)
      | (go_at_call 31; refine (isFigure_impl _ _ _).mono ?_; rw [HF.out]; rintro e w' ⟨rfl, k, os, rfl⟩))
    ((try simp only [Exit.inBlock, Exit.then]); refine bodyPost_ret (v := .tuple #[.agg #[.int .i64 a1, .int .i64 b1], .int .i64 0]) (by simp [results, Tryd.results12, go_sem]) rfl ?_)
    exact ⟨ret_fig (by rw [H.out]) (by rw [H.out]) (by rw [H.out]), (by repeat (first | with_reducible exact Gr.refl _ | with_reducible refine Gr.alloc ?_ _ | with_reducible refine Gr.gr ?_ _ _ | with_reducible refine Gr.drew ?_ | with_reducible refine Gr.drewN ?_ _))⟩
  all_goals
    have H := Lib.hid (H0.trans hr)
    try have HF := Lib.hid hf
    try clear hf
    clear hr H0
    go_enter Tryd.func12, Tryd.ntmps12
    go_wp2
    ((first | refine region_gr_on (by kernel_rfl) (by kernel_rfl) ?_ | refine region_gr (by kernel_rfl) (by kernel_rfl) ?_); (repeat (quiet_step (exact Calls.gr_of (hX _ (by repeat (first | with_reducible exact Gr.refl _ | with_reducible refine Gr.alloc ?_ _ | with_reducible refine Gr.gr ?_ _ _ | with_reducible refine Gr.drew ?_ | with_reducible refine Gr.drewN ?_ _)))))); refine wpQuiet_nil ?_; intro _ hw'; obtain ⟨⟨kq, oq⟩, hw''⟩ := hw'; subst hw'')
    go_wp2_with (first
      | (go_at_call 38; refine (hY _ (by repeat (first | with_reducible exact Gr.refl _ | with_reducible refine Gr.alloc ?_ _ | with_reducible refine Gr.gr ?_ _ _ | with_reducible refine Gr.drew ?_ | with_reducible refine Gr.drewN ?_ _))).mono ?_; rintro e w' ⟨rfl, k, os, rfl⟩)
      | (go_at_call 31; refine (isFigure_impl _ _ _).mono ?_; rw [HF.out]; rintro e w' ⟨rfl, k, os, rfl⟩))
    ((try simp only [Exit.inBlock, Exit.then]); refine bodyPost_ret (v := .tuple #[.agg #[.int .i64 0, .int .i64 0], .int .i64 6]) (by simp [results, Tryd.results12, go_sem]) rfl ?_)
    exact ⟨ret_fig (by rw [H.out]) (by rw [H.out]) (by rw [H.out]), (by repeat (first | with_reducible exact Gr.refl _ | with_reducible refine Gr.alloc ?_ _ | with_reducible refine Gr.gr ?_ _ _ | with_reducible refine Gr.drew ?_ | with_reducible refine Gr.drewN ?_ _))⟩

set_option maxHeartbeats 1000000 in
theorem readFigure_impl (s : ByteArray) (w : World) (hs : s.size ≤ 281474976710656) (hE : Errs w) (hT : Tab w) :
    Calls Tryd.prog 12 #[.string s] w fun e w' => e = .returned (.tuple #[.agg #[.int .i64 (rfR s (rf2 (rvI (rfx s)) (rvI (rfy s)))).1.1, .int .i64 (rfR s (rf2 (rvI (rfx s)) (rvI (rfy s)))).1.2], .int .i64 (rfR s (rf2 (rvI (rfx s)) (rvI (rfy s)))).2]) ∧ Gr w w' := by
  by_cases h7 : s.size < 7
  · have H := Lib.hid (rfR_short s (rf2 (rvI (rfx s)) (rvI (rfy s))) h7)
    go_enter Tryd.func12, Tryd.ntmps12
    go_wp2
    ((try simp only [Exit.inBlock, Exit.then]); refine bodyPost_ret (v := .tuple #[.agg #[.int .i64 0, .int .i64 0], .int .i64 6]) (by simp [results, Tryd.results12, go_sem]) rfl ?_)
    exact ⟨ret_fig (by rw [H.out]) (by rw [H.out]) (by rw [H.out]), (by repeat (first | with_reducible exact Gr.refl _ | with_reducible refine Gr.alloc ?_ _ | with_reducible refine Gr.gr ?_ _ _ | with_reducible refine Gr.drew ?_ | with_reducible refine Gr.drewN ?_ _))⟩
  by_cases c1 : s[1].toNat = 46
  · by_cases c5 : s[5].toNat = 101
    · exact readFigure_impl_main s w h7 c1 c5 hs hE hT
    · have H := Lib.hid (rfR_no s (rf2 (rvI (rfx s)) (rvI (rfy s))) (by omega) (.inr c5))
      have c5b : ((s[5].toNat : Int) != 101) = true := by simp; omega
      go_enter Tryd.func12, Tryd.ntmps12
      go_wp2
      ((try simp only [Exit.inBlock, Exit.then]); refine bodyPost_ret (v := .tuple #[.agg #[.int .i64 0, .int .i64 0], .int .i64 6]) (by simp [results, Tryd.results12, go_sem]) rfl ?_)
      exact ⟨ret_fig (by rw [H.out]) (by rw [H.out]) (by rw [H.out]), (by repeat (first | with_reducible exact Gr.refl _ | with_reducible refine Gr.alloc ?_ _ | with_reducible refine Gr.gr ?_ _ _ | with_reducible refine Gr.drew ?_ | with_reducible refine Gr.drewN ?_ _))⟩
  · have H := Lib.hid (rfR_no s (rf2 (rvI (rfx s)) (rvI (rfy s))) (by omega) (.inl c1))
    have c1b : ((s[1].toNat : Int) != 46) = true := by simp; omega
    go_enter Tryd.func12, Tryd.ntmps12
    go_wp2
    ((try simp only [Exit.inBlock, Exit.then]); refine bodyPost_ret (v := .tuple #[.agg #[.int .i64 0, .int .i64 0], .int .i64 6]) (by simp [results, Tryd.results12, go_sem]) rfl ?_)
    exact ⟨ret_fig (by rw [H.out]) (by rw [H.out]) (by rw [H.out]), (by repeat (first | with_reducible exact Gr.refl _ | with_reducible refine Gr.alloc ?_ _ | with_reducible refine Gr.gr ?_ _ _ | with_reducible refine Gr.drew ?_ | with_reducible refine Gr.drewN ?_ _))⟩
end Go.Proofs.YtddnmhkhgpangaaDoor
