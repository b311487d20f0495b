/- Texts of lists, in the program and in the model. -/
import Derived.Test.YtenpgchkailocaaDoorT3
import Derived.Test.YtenpgchkailocaaDoorC01d
import Derived.Lib.Join
namespace Go.Proofs.YtenpgchkailocaaDoor
open Go.RowKit
set_option linter.unusedVariables false
set_option linter.unusedSimpArgs false

theorem join_snoc (l : List (List UInt8)) (x sep : List UInt8) : Lib.join (l ++ [x]) sep = if l = [] then x else Lib.join l sep ++ sep ++ x := by
  cases l with
  | nil => simp [Lib.join_one]
  | cons a r =>
    rw [List.cons_append, Lib.join_cons, Lib.join_cons, if_neg (by simp)]
    simp [Lib.joinTail]
theorem joinTail_len (r : List (List UInt8)) (h : ∀ x ∈ r, x.length ≤ 20) : (Lib.joinTail [44] r).length ≤ 21 * r.length := by
  induction r with
  | nil => simp [Lib.joinTail]
  | cons a r ih =>
    have h1 := h a (by simp)
    have h2 := ih (fun x hx => h x (by simp [hx]))
    unfold Lib.joinTail at *
    simp only [List.map_cons, List.flatten_cons, List.length_append, List.length_cons, List.length_nil] at *
    omega
theorem join_len (l : List (List UInt8)) (h : ∀ x ∈ l, x.length ≤ 20) : (Lib.join l [44]).length ≤ 21 * l.length := by
  cases l with
  | nil => simp [Lib.join_nil]
  | cons a r =>
    have h1 := h a (by simp)
    have h2 := joinTail_len r (fun x hx => h x (by simp [hx]))
    rw [Lib.join_cons, List.length_append, List.length_cons]
    omega

/-- The joined numerals of the first k elements. -/
def jB (zs : List Int) (k : Nat) : ByteArray := ⟨(Lib.join ((zs.take k).map Lib.itoa) [44]).toArray⟩
theorem jB_zero (zs : List Int) : jB zs 0 = ⟨#[]⟩ := by unfold jB; simp [Lib.join_nil]
theorem jB_one {zs : List Int} {z : Int} (h : zs[0]? = some z) : jB zs 1 = itoaB z := by
  cases zs with
  | nil => cases h
  | cons a r => simp at h; subst h; unfold jB itoaB; simp [Lib.join_one]
theorem jB_succ {zs : List Int} {k : Nat} {z : Int} (h : zs[k]? = some z) (hk : 0 < k) : jB zs (k + 1) = jB zs k ++ ⟨#[44]⟩ ++ itoaB z := by
  obtain ⟨hl, e⟩ := List.getElem?_eq_some_iff.1 h
  unfold jB itoaB
  rw [List.take_succ_eq_append_getElem hl, e, List.map_append, List.map_cons, List.map_nil, join_snoc, if_neg (by
    intro h0
    rw [List.map_eq_nil_iff, List.take_eq_nil_iff] at h0
    rcases h0 with h0 | h0
    · omega
    · rw [h0] at hl; simp at hl)]
  rw [ByteArray.mk_append_mk, ByteArray.mk_append_mk]
theorem itoa_short (z : Int) (h : vl z = true) : (Lib.itoa z).length ≤ 20 := by
  obtain ⟨a, b⟩ := (vl_iff z).1 h
  have := (itoa_len z a b).2
  unfold itoaB at this
  change (List.toArray _).size ≤ 20 at this
  rwa [List.size_toArray] at this
theorem jB_size (zs : List Int) (k : Nat) (h : allv zs = true) (hk : k ≤ zs.length) : (jB zs k).size ≤ 21 * k := by
  unfold jB
  show (List.toArray _).size ≤ 21 * k
  rw [List.size_toArray]
  have := join_len ((zs.take k).map Lib.itoa) (fun x hx => by
    obtain ⟨z, hz, rfl⟩ := List.mem_map.1 hx
    unfold allv at h
    rw [List.all_eq_true] at h
    exact itoa_short z (h z (List.mem_of_mem_take hz)))
  rw [List.length_map, List.length_take] at this
  omega
theorem app_empty (s : ByteArray) : (⟨#[]⟩ : ByteArray) ++ s = s := by
  obtain ⟨⟨l⟩⟩ := s
  have := ByteArray.mk_append_mk [] l
  simpa using this

theorem join_spec (A : Option Addr) (n c : Nat) (zs : List Int) (w : World) (hn : zs.length = n) (hN : n ≤ 100) (hv : allv zs = true) (hA : Reads w w.heap.size A (zs.map vi)) :
    Calls Tryd.prog 106 #[.slice A n c, .string ⟨#[44]⟩] w fun e w' => e = .returned (.string (jB zs n)) ∧ Gr w w' := by
  have HL := Lib.hid hn
  have HV := Lib.hid hv
  clear hn hv
  go_enter Tryd.func106, Tryd.ntmps106
  go_wp2
  go_loopw [5, 6] (fun o i wr => ∃ k : Nat, k ≤ n ∧ i = .int .i64 k ∧ o = .string (jB zs k) ∧ Gr w wr) (fun o i _ => n - (intOf i).toNat)
  case atStart => exact ⟨0, by omega, rfl, by rw [jB_zero], Gr.refl w⟩
  case round =>
    obtain ⟨k, hk, rfl, rfl, hg⟩ := hrel
    by_cases hlt : k < n
    · obtain ⟨z, hz⟩ := some_at (l := zs) (k := k) (by rw [HL.out]; exact hlt)
      obtain ⟨z1, z2⟩ := (vl_iff z).1 (allv_at hz HV.out)
      obtain ⟨g, o, rfl, hgl, hc⟩ := (hA.gr hg).at_ (map_at hz)
      obtain ⟨y1, y2⟩ := itoa_len z z1 z2
      have hs := jB_size zs k HV.out (by rw [HL.out]; omega)
      have hN' : ∀ w, Calls Tryd.prog 120 #[.int .i64 z] w fun e w' => e = .returned (.string (itoaB z)) ∧ Gr w w' := fun w => number_g z w z1 z2
      by_cases h0 : k = 0
      · subst h0
        have HJ := Lib.hid (jB_one hz)
        have HE := Lib.hid (app_empty (itoaB z))
        clear hz hs
        rw [Nat.add_zero] at hc
        rw [jB_zero]
        generalize itoaB z = y at *
        go_wp2_with (go_at_call 120; refine (hN' _).mono ?_; rintro e w' ⟨rfl, hg2⟩)
        go_roundw
        case rel => exact ⟨1, by omega, by go_num, by rw [HJ.out]; first | rfl | (rw [HE.out]), hg.trans hg2⟩
        case measure => simp [intOf]; omega
      · have HJ := Lib.hid (jB_succ hz (by omega))
        have h0' : (0 : Int) < k := by omega
        clear hz h0
        generalize itoaB z = y at *
        generalize jB zs k = s at *
        go_wp2_with (go_at_call 120; refine (hN' _).mono ?_; rintro e w' ⟨rfl, hg2⟩)
        go_roundw
        case rel => exact ⟨k + 1, by omega, by go_num, by rw [HJ.out], hg.trans hg2⟩
        case measure => simp [intOf]; omega
    · obtain rfl : k = n := by omega
      go_wp2
      go_ret
      exact ⟨rfl, hg⟩
end Go.Proofs.YtenpgchkailocaaDoor
