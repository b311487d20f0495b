/- Texts of chains, in the program and in the model. -/
import Derived.Test.YtphebmbapllinaaDoorT11
import Derived.Test.YtphebmbapllinaaDoorMH
import Derived.Test.YtphebmbapllinaaDoorC13a
namespace Go.Proofs.YtphebmbapllinaaDoor
open Go.RowKit
set_option linter.unusedVariables false
set_option linter.unusedSimpArgs false

theorem app_emptyT (s : ByteArray) : (⟨#[]⟩ : ByteArray) ++ s = s := by
  apply ByteArray.ext
  simp
/-- A figure's text as a list of bytes. -/
def figL (d t : Int) : List UInt8 := (figB d t).data.toList
theorem figL_30 (d t : Int) (h : fg d t = true) : (figB d t).size ≤ 30 := by
  obtain ⟨⟨a1, a2⟩, t1, t2⟩ := (fg_iff d t).1 h
  have h4 := itoa_four d a1 a2
  have ht := (itoa_len t (by omega) (by omega)).2
  unfold figB
  simp only [ByteArray.size_append, ByteArray.size_extract]
  show _ + 1 + _ + 1 + _ ≤ 30
  omega
/-- The text of the first k terms, signs in front. -/
def cgB (cs : List Tm) (k : Nat) : ByteArray := ⟨(((cs.take k).map (tmS figL)).flatten).toArray⟩
theorem cgB_zero (cs : List Tm) : cgB cs 0 = ⟨#[]⟩ := by unfold cgB; simp
theorem figB_list (d t : Int) : (⟨(figL d t).toArray⟩ : ByteArray) = figB d t := by unfold figL; simp
theorem cgB_succ {cs : List Tm} {k : Nat} {m : Tm} (h : cs[k]? = some m) : cgB cs (k + 1) = cgB cs k ++ (⟨#[sgn m.2.2]⟩ ++ figB m.1 m.2.1) := by
  obtain ⟨hl, e⟩ := List.getElem?_eq_some_iff.1 h
  unfold cgB
  rw [List.take_succ_eq_append_getElem hl, e, List.map_append, List.flatten_append, ← figB_list]
  show _ = _ ++ (ByteArray.mk (List.toArray [sgn m.2.2]) ++ _)
  rw [ByteArray.mk_append_mk, ByteArray.mk_append_mk]
  simp [tmS]
theorem cgB_size {cs : List Tm} (hv : chnB cs = true) (k : Nat) (hk : k ≤ cs.length) : (cgB cs k).size ≤ 31 * k := by
  induction k with
  | zero => rw [cgB_zero]; exact Nat.le_refl 0
  | succ k ih =>
    obtain ⟨m, hm⟩ := some_at (l := cs) (k := k) (by omega)
    have h1 := ih (by omega)
    have h2 := figL_30 _ _ (chnB_fg hv hm)
    rw [cgB_succ hm]
    simp only [ByteArray.size_append]
    have h3 : (⟨#[sgn m.2.2]⟩ : ByteArray).size = 1 := rfl
    omega
/-- A chain's text. -/
def chtB (cs : List Tm) : ByteArray := ⟨(ctS figL cs).toArray⟩
def ctx (cs : List Tm) : ByteArray × Int := if chnB cs = true then (chtB cs, 0) else (⟨#[]⟩, 1)
theorem ctx_ok {cs : List Tm} (h : chnB cs = true) : ctx cs = (chtB cs, 0) := if_pos h
theorem ctx_no {cs : List Tm} (h : chnB cs = false) : ctx cs = (⟨#[]⟩, 1) := if_neg (by rw [h]; simp)
/-- What stands behind the first sign. -/
theorem chtB_trim {cs : List Tm} (h : chnB cs = true) : (⟨(Lib.trimPrefix (cgB cs cs.length).data.toList (⟨#[42]⟩ : ByteArray).data.toList).toArray⟩ : ByteArray) = chtB cs := by
  obtain ⟨⟨h1, -⟩, h0, -⟩ := (chnB_iff cs).1 h
  cases cs with
  | nil => simp at h1
  | cons m r =>
    have hb : m.2.2 = false := h0
    unfold cgB chtB ctS
    rw [List.take_length]
    have e : ((m :: r).map (tmS figL)).flatten = 42 :: (figL m.1 m.2.1 ++ (r.map (tmS figL)).flatten) := by
      rw [List.map_cons, List.flatten_cons]
      unfold tmS
      rw [hb]
      rfl
    rw [e]
    simp [Lib.trimPrefix, Lib.hasPrefix, List.isPrefixOf]
theorem termText_any (d t : Int) (b : Bool) (w : World) (ht : Tab w) (hf : fg d t = true) :
    Calls Tryd.prog 22 #[.agg #[.int .i64 d, .int .i64 t, .bool b]] w fun e w' => e = .returned (.string (⟨#[sgn b]⟩ ++ figB d t)) ∧ Gr w w' := by
  have HF := Lib.hid (fun W (h : Gr w W) => figureText_impl d t W (ht.gr h))
  have hsz := figL_30 d t hf
  rw [(ft_ok d t hf).1, (ft_ok d t hf).2] at HF
  clear ht hf
  generalize figB d t = f at *
  have hl : ¬ (9223372036854775807 < 1 + f.size) := by omega
  have hl2 : ¬ (9223372036854775807 < (⟨#[47]⟩ : ByteArray).size + f.size) := by show ¬ (_ < 1 + _); omega
  have hl3 : ¬ (9223372036854775807 < (⟨#[42]⟩ : ByteArray).size + f.size) := by show ¬ (_ < 1 + _); omega
  cases b
  all_goals
    go_enter Tryd.func22, Tryd.ntmps22
    go_wp2_with (go_at_call 36; (with_reducible refine (HF.out _ (by repeat (first | with_reducible exact Gr.refl _ | with_reducible refine Gr.alloc ?_ _ | with_reducible refine Gr.gr ?_ _ _ | with_reducible refine Gr.drew ?_ | with_reducible refine Gr.drewN ?_ _))).mono ?_); rintro e w' ⟨rfl, k, os, rfl⟩)
    go_ret
    exact ⟨rfl, (by repeat (first | with_reducible exact Gr.refl _ | with_reducible refine Gr.alloc ?_ _ | with_reducible refine Gr.gr ?_ _ _ | with_reducible refine Gr.drew ?_ | with_reducible refine Gr.drewN ?_ _))⟩
theorem ctx_impl (A : Option Addr) (n c : Nat) (cs : List Tm) (w : World) (ht : Tab w) (hn : cs.length = n) (hN : n ≤ 1048576) (hA : Reads w w.heap.size A (tcells cs)) :
    Calls Tryd.prog 8 #[.slice A n c] w fun e w' => e = .returned (.tuple #[.string (ctx cs).1, .int .i64 (ctx cs).2]) ∧ Gr w w' := by
  have HI := Lib.hid (fun W h => isChain_impl A n c cs W hn (by omega) h)
  have HL := Lib.hid hn
  have HM := Lib.hid hA
  rcases chnB_tf cs with hb | hb
  rotate_left
  · rw [hb] at HI
    have HR := Lib.hid (ctx_no hb)
    clear hb hn hA
    go_enter Tryd.func8, Tryd.ntmps8
    go_wp2_with (go_at_call 21; (with_reducible refine (HI.out _ HM.out).mono ?_); rintro e w' ⟨rfl, k, os, rfl⟩)
    go_ret2
    exact ⟨ret_sc (by rw [HR.out]) (by rw [HR.out]), (by repeat (first | with_reducible exact Gr.refl _ | with_reducible refine Gr.alloc ?_ _ | with_reducible refine Gr.gr ?_ _ _ | with_reducible refine Gr.drew ?_ | with_reducible refine Gr.drewN ?_ _))⟩
  rw [hb] at HI
  have HR := Lib.hid (ctx_ok hb)
  have HT := Lib.hid (chtB_trim hb)
  have HSZ := Lib.hid (fun k hk => cgB_size hb k hk)
  have HF := Lib.hid (fun k m (h : cs[k]? = some m) => chnB_fg hb h)
  have HTab := Lib.hid ht
  obtain ⟨⟨l1, l6⟩, -, -⟩ := (chnB_iff cs).1 hb
  rw [hn] at l1 l6
  rw [hn] at HT
  clear hb hn hA
  go_enter Tryd.func8, Tryd.ntmps8
  go_wp2_with (go_at_call 21; (with_reducible refine (HI.out _ HM.out).mono ?_); rintro e w1 ⟨rfl, hg1⟩)
  go_loopw [4, 12] (fun s i wr => ∃ k : Nat, k ≤ n ∧ s = .string (cgB cs k) ∧ i = .int .i64 k ∧ Gr w wr) (fun _ i _ => n - (intOf i).toNat)
  case atStart => exact ⟨0, by omega, by rw [cgB_zero], rfl, hg1⟩
  case round =>
    obtain ⟨k, hk, rfl, rfl, hG⟩ := hrel
    by_cases hlt : k < n
    · obtain ⟨m, hm⟩ := some_at (l := cs) (k := k) (by rw [HL.out]; exact hlt)
      obtain ⟨g, o, rfl, hg, x0, x1, x2⟩ := (HM.out.gr hG).att hm
      have hf := HF.out k m hm
      have HS := Lib.hid (cgB_succ hm)
      have hz1 := HSZ.out k (by rw [HL.out]; omega)
      have hz2 := figL_30 _ _ hf
      obtain ⟨d, t, b⟩ := m
      simp only at x0 x1 x2 hf HS hz2
      have HX := Lib.hid (fun W (h : Gr w W) => termText_any d t b W (HTab.out.gr h) hf)
      clear hm hf
      have hz3 : (⟨#[sgn b]⟩ ++ figB d t : ByteArray).size ≤ 31 := by
        simp only [ByteArray.size_append]
        have h3 : (⟨#[sgn b]⟩ : ByteArray).size = 1 := rfl
        omega
      generalize (⟨#[sgn b]⟩ ++ figB d t : ByteArray) = y at *
      generalize cgB cs k = s at *
      have hl : ¬ (9223372036854775807 < s.size + y.size) := by omega
      go_wp2_with (go_at_call 22; (with_reducible refine (HX.out _ (hG.trans (by repeat (first | with_reducible exact Gr.refl _ | with_reducible refine Gr.alloc ?_ _ | with_reducible refine Gr.gr ?_ _ _ | with_reducible refine Gr.drew ?_ | with_reducible refine Gr.drewN ?_ _)))).mono ?_); rintro e w2 ⟨rfl, kk, os, rfl⟩)
      go_roundw
      case rel => exact ⟨k + 1, by omega, by rw [HS.out], by go_num, hG.trans (by repeat (first | with_reducible exact Gr.refl _ | with_reducible refine Gr.alloc ?_ _ | with_reducible refine Gr.gr ?_ _ _ | with_reducible refine Gr.drew ?_ | with_reducible refine Gr.drewN ?_ _))⟩
      case measure => simp [intOf]; omega
    · obtain rfl : k = n := by omega
      have HTP := Lib.hid (fun W => Tryd.strings_TrimPrefix (cgB cs k) ⟨#[42]⟩ W)
      rw [HT.out] at HTP
      go_wp2_with (go_at_call 23; (with_reducible refine (HTP.out _).mono ?_); rintro e w2 ⟨rfl, rfl⟩)
      go_ret2
      exact ⟨ret_sc (by rw [HR.out]) (by rw [HR.out]), hG⟩
/-- The text of k terms, without the first sign. -/
def clB (cs : List Tm) (k : Nat) : ByteArray := ⟨(ctS figL (cs.take k)).toArray⟩
theorem clB_zero (cs : List Tm) : clB cs 0 = ⟨#[]⟩ := by unfold clB ctS; simp
theorem clB_one {cs : List Tm} {m : Tm} (h : cs[0]? = some m) : clB cs 1 = figB m.1 m.2.1 := by
  cases cs with
  | nil => cases h
  | cons x r => simp at h; subst h; unfold clB; rw [← figB_list]; simp [ctS_one]
theorem clB_succ {cs : List Tm} {k : Nat} {m : Tm} (h : cs[k]? = some m) (hk : 0 < k) : clB cs (k + 1) = clB cs k ++ ⟨#[sgn m.2.2]⟩ ++ figB m.1 m.2.1 := by
  obtain ⟨hl, e⟩ := List.getElem?_eq_some_iff.1 h
  unfold clB
  rw [List.take_succ_eq_append_getElem hl, e, ctS_snoc figL _ _ (by
    intro h0
    rw [List.take_eq_nil_iff] at h0
    rcases h0 with h0 | h0
    · omega
    · rw [h0] at hl; simp at hl), ← figB_list]
  show _ = _ ++ ByteArray.mk (List.toArray [sgn m.2.2]) ++ _
  rw [ByteArray.mk_append_mk, ByteArray.mk_append_mk]
  simp [tmS]
theorem clB_size {cs : List Tm} (hv : chnB cs = true) (k : Nat) (hk : k ≤ cs.length) : (clB cs k).size ≤ 31 * k := by
  have h := cgB_size hv k hk
  unfold cgB at h
  unfold clB ctS
  have e : ∀ l : List UInt8, (⟨l.toArray⟩ : ByteArray).size = l.length := fun l => by show (List.toArray l).size = _; simp
  rw [e] at *
  rw [List.length_drop]
  omega
theorem l13Text_any (A : Option Addr) (n c : Nat) (cs : List Tm) (w : World) (hn : cs.length = n) (hA : Reads w w.heap.size A (tcells cs)) (hb : chnB cs = true) :
    Calls Tryd.prog 25 #[.slice A n c] w fun e w' => e = .returned (.string (chtB cs)) ∧ Gr w w' := by
  have HL := Lib.hid hn
  have HM := Lib.hid hA
  have HSZ := Lib.hid (fun k hk => clB_size hb k hk)
  have HF := Lib.hid (fun k m (h : cs[k]? = some m) => chnB_fg hb h)
  have HE := Lib.hid (show clB cs n = chtB cs by unfold clB chtB; rw [List.take_of_length_le (by omega)])
  have HB := Lib.hid hb
  obtain ⟨⟨l1, l6⟩, -, -⟩ := (chnB_iff cs).1 hb
  rw [hn] at l1 l6
  clear hn hA hb
  go_enter Tryd.func25, Tryd.ntmps25
  go_wp2
  go_loopw [3, 4] (fun s i wr => ∃ k : Nat, k ≤ n ∧ s = .string (clB cs k) ∧ i = .int .i64 k ∧ Gr w wr) (fun _ i _ => n - (intOf i).toNat)
  case atStart => exact ⟨0, by omega, by rw [clB_zero], rfl, Gr.refl _⟩
  case round =>
    obtain ⟨k, hk, rfl, rfl, hG⟩ := hrel
    by_cases hlt : k < n
    · obtain ⟨m, hm⟩ := some_at (l := cs) (k := k) (by rw [HL.out]; exact hlt)
      obtain ⟨g, o, rfl, hg, x0, x1, x2⟩ := (HM.out.gr hG).att hm
      have hf := HF.out k m hm
      have hz1 := HSZ.out k (by rw [HL.out]; omega)
      have hz2 := figL_30 _ _ hf
      by_cases h0 : k = 0
      · subst h0
        have HS := Lib.hid (clB_one hm)
        obtain ⟨d, t, b⟩ := m
        simp only [Nat.zero_mul, Nat.add_zero] at x0 x1 x2 hf HS hz2
        have HX := Lib.hid (fun W => text_spec d t W hf)
        have HA2 := Lib.hid (app_emptyT (figB d t))
        clear hm hf
        rw [clB_zero] at *
        generalize figB d t = y at *
        have hl : ¬ (9223372036854775807 < (⟨#[]⟩ : ByteArray).size + y.size) := by show ¬ (_ < 0 + _); omega
        go_wp2_with (go_at_call 40; (with_reducible refine (HX.out _).mono ?_); rintro e w2 ⟨rfl, kk, os, rfl⟩)
        go_roundw
        case rel => exact ⟨0 + 1, by omega, by rw [HS.out, HA2.out], by go_num, hG.trans (by repeat (first | with_reducible exact Gr.refl _ | with_reducible refine Gr.alloc ?_ _ | with_reducible refine Gr.gr ?_ _ _ | with_reducible refine Gr.drew ?_ | with_reducible refine Gr.drewN ?_ _))⟩
        case measure => simp [intOf]; omega
      · have HS := Lib.hid (clB_succ hm (by omega))
        obtain ⟨d, t, b⟩ := m
        simp only at x0 x1 x2 hf HS hz2
        have HX := Lib.hid (fun W => text_spec d t W hf)
        clear hm hf
        have hk0 : (0 : Int) < (k : Int) := by omega
        generalize figB d t = y at *
        generalize clB cs k = s at *
        have hl1 : ¬ (9223372036854775807 < s.size + 1) := by omega
        have hl2 : ¬ (9223372036854775807 < s.size + 1 + y.size) := by omega
        cases b
        all_goals
          have e1 : (s ++ (⟨#[42]⟩ : ByteArray)).size = s.size + 1 := by simp only [ByteArray.size_append]; rfl
          have e2 : (s ++ (⟨#[47]⟩ : ByteArray)).size = s.size + 1 := by simp only [ByteArray.size_append]; rfl
          have hl3 : ¬ (9223372036854775807 < (s ++ (⟨#[42]⟩ : ByteArray)).size + y.size) := by rw [e1]; omega
          have hl4 : ¬ (9223372036854775807 < (s ++ (⟨#[47]⟩ : ByteArray)).size + y.size) := by rw [e2]; omega
          have hl5 : ¬ (9223372036854775807 < s.size + (⟨#[42]⟩ : ByteArray).size) := by show ¬ (_ < _ + 1); omega
          have hl6 : ¬ (9223372036854775807 < s.size + (⟨#[47]⟩ : ByteArray).size) := by show ¬ (_ < _ + 1); omega
          go_wp2_with (go_at_call 40; (with_reducible refine (HX.out _).mono ?_); rintro e w2 ⟨rfl, kk, os, rfl⟩)
          go_roundw
          case rel => exact ⟨k + 1, by omega, by rw [HS.out]; rfl, by go_num, hG.trans (by repeat (first | with_reducible exact Gr.refl _ | with_reducible refine Gr.alloc ?_ _ | with_reducible refine Gr.gr ?_ _ _ | with_reducible refine Gr.drew ?_ | with_reducible refine Gr.drewN ?_ _))⟩
          case measure => simp [intOf]; omega
    · obtain rfl : k = n := by omega
      rw [HE.out]
      go_wp2
      go_ret
      exact ⟨rfl, hG⟩
theorem ctx_spec (A : Option Addr) (n c : Nat) (cs : List Tm) (w : World) (hn : cs.length = n) (hN : n ≤ 1048576) (hA : Reads w w.heap.size A (tcells cs)) :
    Calls Tryd.prog 9 #[.slice A n c] w fun e w' => e = .returned (.tuple #[.string (ctx cs).1, .int .i64 (ctx cs).2]) ∧ Gr w w' := by
  have HI := Lib.hid (fun W h => isChain_spec A n c cs W hn (by omega) h)
  have HM := Lib.hid hA
  rcases chnB_tf cs with hb | hb
  · rw [hb] at HI
    have HR := Lib.hid (ctx_ok hb)
    have HS := Lib.hid (fun W h => l13Text_any A n c cs W hn h hb)
    clear hb hn hA
    go_enter Tryd.func9, Tryd.ntmps9
    go_wp2_with (first | (go_at_call 24; (with_reducible refine (HI.out _ HM.out).mono ?_); rintro e w' ⟨rfl, k, os, rfl⟩) | (go_at_call 25; (with_reducible refine (HS.out _ (HM.out.gr (by repeat (first | with_reducible exact Gr.refl _ | with_reducible refine Gr.alloc ?_ _ | with_reducible refine Gr.gr ?_ _ _ | with_reducible refine Gr.drew ?_ | with_reducible refine Gr.drewN ?_ _)))).mono ?_); rintro e w' ⟨rfl, k2, os2, rfl⟩))
    go_ret2
    exact ⟨ret_sc (by rw [HR.out]) (by rw [HR.out]), (by repeat (first | with_reducible exact Gr.refl _ | with_reducible refine Gr.alloc ?_ _ | with_reducible refine Gr.gr ?_ _ _ | with_reducible refine Gr.drew ?_ | with_reducible refine Gr.drewN ?_ _))⟩
  · rw [hb] at HI
    have HR := Lib.hid (ctx_no hb)
    clear hb hn hA
    go_enter Tryd.func9, Tryd.ntmps9
    go_wp2_with (go_at_call 24; (with_reducible refine (HI.out _ HM.out).mono ?_); rintro e w' ⟨rfl, k, os, rfl⟩)
    go_ret2
    exact ⟨ret_sc (by rw [HR.out]) (by rw [HR.out]), (by repeat (first | with_reducible exact Gr.refl _ | with_reducible refine Gr.alloc ?_ _ | with_reducible refine Gr.gr ?_ _ _ | with_reducible refine Gr.drew ?_ | with_reducible refine Gr.drewN ?_ _))⟩
end Go.Proofs.YtphebmbapllinaaDoor
