/- Texts of graduations: a part's text, in the program and in the model. -/
import Derived.Test.YtdbeedfapkfibaaDoorTA
import Derived.Test.YtdbeedfapkfibaaDoorSA
namespace Go.Proofs.YtdbeedfapkfibaaDoor
open Go.RowKit
set_option linter.unusedVariables false
set_option linter.unusedSimpArgs false

/-- A part's text. -/
def ptB (p : P3) : ByteArray := itoaB p.1 ++ ⟨#[47]⟩ ++ itoaB p.2.1 ++ ⟨#[47]⟩ ++ itoaB p.2.2
abbrev Small3 (p : P3) : Prop := vl p.1 = true ∧ vl p.2.1 = true ∧ vl p.2.2 = true
set_option maxRecDepth 100000 in
set_option maxHeartbeats 4000000 in
theorem partText_any (a b c : Int) (w : World) (h : Small3 (a, b, c)) (ht : Tab w) :
    Calls Tryd.prog 39 #[.agg #[.int .i64 a, .int .i64 b, .int .i64 c]] w fun e w' => e = .returned (.string (ptB (a, b, c))) ∧ Gr w w' := by
  obtain ⟨h1, h2, h3⟩ := h
  obtain ⟨a1, a2⟩ := (vl_iff _).1 h1
  obtain ⟨b1, b2⟩ := (vl_iff _).1 h2
  obtain ⟨c1, c2⟩ := (vl_iff _).1 h3
  simp only at a1 a2 b1 b2 c1 c2
  have HF := Lib.hid (show ptB (a, b, c) = itoaB a ++ ⟨#[47]⟩ ++ itoaB b ++ ⟨#[47]⟩ ++ itoaB c from rfl)
  have HA := Lib.hid (fun w' (hg : Gr w w') => formatInt_g a w' (by omega) (by omega) (ht.gr hg))
  have HB := Lib.hid (fun w' (hg : Gr w w') => formatInt_g b w' (by omega) (by omega) (ht.gr hg))
  have HC := Lib.hid (fun w' (hg : Gr w w') => formatInt_g c w' (by omega) (by omega) (ht.gr hg))
  obtain ⟨la1, la2⟩ := itoa_len a a1 a2
  obtain ⟨lb1, lb2⟩ := itoa_len b b1 b2
  obtain ⟨lc1, lc2⟩ := itoa_len c c1 c2
  clear ht h1 h2 h3 a1 a2 b1 b2 c1 c2
  generalize itoaB a = x at *
  generalize itoaB b = y at *
  generalize itoaB c = z at *
  have l1 : ¬ (9223372036854775807 < x.size + 1) := by omega
  have l2 : ¬ (9223372036854775807 < x.size + 1 + y.size) := by omega
  have l3 : ¬ (9223372036854775807 < x.size + 1 + y.size + 1) := by omega
  have l4 : ¬ (9223372036854775807 < x.size + 1 + y.size + 1 + z.size) := by omega
  have k1 : ¬ ((9223372036854775807 : Int) < (x.size : Int) + 1) := by omega
  have k2 : ¬ ((9223372036854775807 : Int) < (x.size : Int) + 1 + y.size) := by omega
  have k3 : ¬ ((9223372036854775807 : Int) < (x.size : Int) + 1 + y.size + 1) := by omega
  have k4 : ¬ ((9223372036854775807 : Int) < (x.size : Int) + 1 + y.size + 1 + z.size) := by omega
  go_enter Tryd.func39, Tryd.ntmps39
  go_wp2
  ((first | refine region_gr_on (by kernel_rfl) (by kernel_rfl) ?_ | refine region_gr (by kernel_rfl) (by kernel_rfl) ?_); (repeat (quiet_step (first | with_reducible exact Calls.gr_of (HA.out _ (by repeat (first | with_reducible exact Gr.refl _ | with_reducible refine Gr.alloc ?_ _ | with_reducible refine Gr.gr ?_ _ _ | with_reducible refine Gr.drew ?_ | with_reducible refine Gr.drewN ?_ _))) | with_reducible exact Calls.gr_of (HB.out _ (by repeat (first | with_reducible exact Gr.refl _ | with_reducible refine Gr.alloc ?_ _ | with_reducible refine Gr.gr ?_ _ _ | with_reducible refine Gr.drew ?_ | with_reducible refine Gr.drewN ?_ _))) | with_reducible exact Calls.gr_of (HC.out _ (by repeat (first | with_reducible exact Gr.refl _ | with_reducible refine Gr.alloc ?_ _ | with_reducible refine Gr.gr ?_ _ _ | with_reducible refine Gr.drew ?_ | with_reducible refine Gr.drewN ?_ _)))))); refine wpQuiet_nil ?_; intro _ hw'; obtain ⟨⟨kq, oq⟩, hw''⟩ := hw'; subst hw'')
  go_wp2
  go_ret
  exact ⟨ret_str HF.out.symm, (by repeat (first | with_reducible exact Gr.refl _ | with_reducible refine Gr.alloc ?_ _ | with_reducible refine Gr.gr ?_ _ _ | with_reducible refine Gr.drew ?_ | with_reducible refine Gr.drewN ?_ _))⟩
theorem joinTail_lenS (r : List (List UInt8)) (h : ∀ x ∈ r, x.length ≤ 20) : (Lib.joinTail [47] r).length ≤ 21 * r.length := by
  induction r with
  | nil => simp [Lib.joinTail]
  | cons a r ih =>
    have h1 := h a (by simp)
    have h2 := ih (fun x hx => h x (by simp [hx]))
    unfold Lib.joinTail at *
    simp only [List.map_cons, List.flatten_cons, List.length_append, List.length_cons, List.length_nil] at *
    omega
theorem join_lenS (l : List (List UInt8)) (h : ∀ x ∈ l, x.length ≤ 20) : (Lib.join l [47]).length ≤ 21 * l.length := by
  cases l with
  | nil => simp [Lib.join_nil]
  | cons a r =>
    have h1 := h a (by simp)
    have h2 := joinTail_lenS r (fun x hx => h x (by simp [hx]))
    rw [Lib.join_cons, List.length_append, List.length_cons]
    omega

/-- The joined numerals of the first k elements. -/
def jS (zs : List Int) (k : Nat) : ByteArray := ⟨(Lib.join ((zs.take k).map Lib.itoa) [47]).toArray⟩
theorem jB_zeroS (zs : List Int) : jS zs 0 = ⟨#[]⟩ := by unfold jS; simp [Lib.join_nil]
theorem jB_oneS {zs : List Int} {z : Int} (h : zs[0]? = some z) : jS zs 1 = itoaB z := by
  cases zs with
  | nil => cases h
  | cons a r => simp at h; subst h; unfold jS itoaB; simp [Lib.join_one]
theorem jB_succS {zs : List Int} {k : Nat} {z : Int} (h : zs[k]? = some z) (hk : 0 < k) : jS zs (k + 1) = jS zs k ++ ⟨#[47]⟩ ++ itoaB z := by
  obtain ⟨hl, e⟩ := List.getElem?_eq_some_iff.1 h
  unfold jS itoaB
  rw [List.take_succ_eq_append_getElem hl, e, List.map_append, List.map_cons, List.map_nil, join_snoc, if_neg (by
    intro h0
    rw [List.map_eq_nil_iff, List.take_eq_nil_iff] at h0
    rcases h0 with h0 | h0
    · omega
    · rw [h0] at hl; simp at hl)]
  rw [ByteArray.mk_append_mk, ByteArray.mk_append_mk]
theorem jB_sizeS (zs : List Int) (k : Nat) (h : allv zs = true) (hk : k ≤ zs.length) : (jS zs k).size ≤ 21 * k := by
  unfold jS
  show (List.toArray _).size ≤ 21 * k
  rw [List.size_toArray]
  have := join_lenS ((zs.take k).map Lib.itoa) (fun x hx => by
    obtain ⟨z, hz, rfl⟩ := List.mem_map.1 hx
    unfold allv at h
    rw [List.all_eq_true] at h
    exact itoa_short z (h z (List.mem_of_mem_take hz)))
  rw [List.length_map, List.length_take] at this
  omega
theorem join_specS (A : Option Addr) (n c : Nat) (zs : List Int) (w : World) (hn : zs.length = n) (hN : n ≤ 100) (hv : allv zs = true) (hA : Reads w w.heap.size A (zs.map vi)) :
    Calls Tryd.prog 85 #[.slice A n c, .string ⟨#[47]⟩] w fun e w' => e = .returned (.string (jS zs n)) ∧ Gr w w' := by
  have HL := Lib.hid hn
  have HV := Lib.hid hv
  clear hn hv
  go_enter Tryd.func85, Tryd.ntmps85
  go_wp2
  go_loopw [5, 6] (fun o i wr => ∃ k : Nat, k ≤ n ∧ i = .int .i64 k ∧ o = .string (jS zs k) ∧ Gr w wr) (fun o i _ => n - (intOf i).toNat)
  case atStart => exact ⟨0, by omega, rfl, by rw [jB_zeroS], Gr.refl w⟩
  case round =>
    obtain ⟨k, hk, rfl, rfl, hg⟩ := hrel
    by_cases hlt : k < n
    · obtain ⟨z, hz⟩ := some_at (l := zs) (k := k) (by rw [HL.out]; exact hlt)
      obtain ⟨z1, z2⟩ := (vl_iff z).1 (allv_at hz HV.out)
      obtain ⟨g, o, rfl, hgl, hc⟩ := (hA.gr hg).at_ (map_at hz)
      obtain ⟨y1, y2⟩ := itoa_len z z1 z2
      have hs := jB_sizeS zs k HV.out (by rw [HL.out]; omega)
      have hN' : ∀ w, Calls Tryd.prog 110 #[.int .i64 z] w fun e w' => e = .returned (.string (itoaB z)) ∧ Gr w w' := fun w => number_g z w z1 z2
      by_cases h0 : k = 0
      · subst h0
        have HJ := Lib.hid (jB_oneS hz)
        have HE := Lib.hid (app_empty (itoaB z))
        clear hz hs
        rw [Nat.add_zero] at hc
        rw [jB_zeroS]
        generalize itoaB z = y at *
        go_wp2_with (go_at_call 110; refine (hN' _).mono ?_; rintro e w' ⟨rfl, hg2⟩)
        go_roundw
        case rel => exact ⟨1, by omega, by go_num, by rw [HJ.out]; first | rfl | (rw [HE.out]), hg.trans hg2⟩
        case measure => simp [intOf]; omega
      · have HJ := Lib.hid (jB_succS hz (by omega))
        have h0' : (0 : Int) < k := by omega
        clear hz h0
        generalize itoaB z = y at *
        generalize jS zs k = s at *
        go_wp2_with (go_at_call 110; refine (hN' _).mono ?_; rintro e w' ⟨rfl, hg2⟩)
        go_roundw
        case rel => exact ⟨k + 1, by omega, by go_num, by rw [HJ.out], hg.trans hg2⟩
        case measure => simp [intOf]; omega
    · obtain rfl : k = n := by omega
      go_wp2
      go_ret
      exact ⟨rfl, hg⟩

theorem jS_three (a b c : Int) : jS [a, b, c] 3 = ptB (a, b, c) := by
  rw [jB_succS (z := c) rfl (by omega), jB_succS (z := b) rfl (by omega), jB_oneS (z := a) rfl]
  rfl
theorem joinP_any (g : Nat) (a b c : Int) (w : World) (h : Small3 (a, b, c)) (hR : Row w g 2 [vi a, vi b, vi c]) :
    Calls Tryd.prog 85 #[.slice (some ⟨g, 0, none⟩) 3 3, .string ⟨#[47]⟩] w fun e w' => e = .returned (.string (ptB (a, b, c))) ∧ Gr w w' := by
  rw [← jS_three]
  exact join_specS (some ⟨g, 0, none⟩) 3 3 [a, b, c] w rfl (by omega) (by unfold allv; simp; exact h) hR.reads
/-- A graduation's text: the first parts. -/
def gtB (zs : List P3) : Nat → ByteArray
  | 0 => ⟨#[]⟩
  | k + 1 => (if 0 < k then gtB zs k ++ ⟨#[32]⟩ else gtB zs k) ++ ptB (zs.getD k (0, 0, 0))
theorem gtB_succ (zs : List P3) (k : Nat) : gtB zs (k + 1) = (if 0 < k then gtB zs k ++ ⟨#[32]⟩ else gtB zs k) ++ ptB (zs.getD k (0, 0, 0)) := rfl
theorem ptB_size (p : P3) (h : Small3 p) : (ptB p).size ≤ 62 := by
  obtain ⟨h1, h2, h3⟩ := h
  obtain ⟨a1, a2⟩ := (vl_iff _).1 h1
  obtain ⟨b1, b2⟩ := (vl_iff _).1 h2
  obtain ⟨c1, c2⟩ := (vl_iff _).1 h3
  have := itoa_len _ a1 a2
  have := itoa_len _ b1 b2
  have := itoa_len _ c1 c2
  unfold ptB
  simp only [ByteArray.size_append]
  have : (⟨#[47]⟩ : ByteArray).size = 1 := rfl
  omega
theorem gtB_size (zs : List P3) (h : ∀ p ∈ zs, Small3 p) : ∀ k, k ≤ zs.length → (gtB zs k).size ≤ 63 * k
  | 0, _ => by
    show (0 : Nat) ≤ _
    omega
  | k + 1, hk => by
    have ih := gtB_size zs h k (by omega)
    have hp := ptB_size (zs.getD k (0, 0, 0)) (by
      rw [List.getD_eq_getElem?_getD, List.getElem?_eq_getElem (by omega)]
      exact h _ (List.getElem_mem _))
    rw [gtB_succ, ByteArray.size_append]
    have h1 : (⟨#[32]⟩ : ByteArray).size = 1 := rfl
    split
    · rw [ByteArray.size_append]; omega
    · omega
end Go.Proofs.YtdbeedfapkfibaaDoor
