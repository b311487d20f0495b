/- strings.IndexAny(s, "*/") for whatever bytes. -/
import Derived.Test.YtphebmbapllinaaDoorShelf
import Derived.Test.YtphebmbapllinaaDoorGr
import Derived.Laws.RangeAny
import Derived.WalkMore
import Derived.Laws.Runes
import Derived.Lib.IndexAny
import Derived.Lib.OthersKept
namespace Go.Proofs.YtphebmbapllinaaDoor
open Go.RowKit
set_option linter.unusedVariables false
set_option linter.unusedSimpArgs false

/-- Go's source text of two signs. -/
def sgs : ByteArray := ⟨#[42, 47]⟩
theorem Gr.iter {u w : World} (h : Gr u w) (s : ByteArray) (p : Nat) : Gr u (w.iter s p) := h.alloc _
theorem bytes2 (E : ByteArray) (h : E.size = 2) : ∃ a b, E = ⟨#[a, b]⟩ := by
  obtain ⟨⟨l⟩⟩ := E
  change l.length = 2 at h
  match l, h with
  | [a, b], _ => exact ⟨a, b, rfl⟩
theorem bytes3 (E : ByteArray) (h : E.size = 3) : ∃ a b c, E = ⟨#[a, b, c]⟩ := by
  obtain ⟨⟨l⟩⟩ := E
  change l.length = 3 at h
  match l, h with
  | [a, b, c], _ => exact ⟨a, b, c, rfl⟩
theorem bytes4 (E : ByteArray) (h : E.size = 4) : ∃ a b c d, E = ⟨#[a, b, c, d]⟩ := by
  obtain ⟨⟨l⟩⟩ := E
  change l.length = 4 at h
  match l, h with
  | [a, b, c, d], _ => exact ⟨a, b, c, d, rfl⟩
set_option maxHeartbeats 2000000 in
set_option maxRecDepth 1000000 in
/-- No rune from 128 on is a sign. -/
theorem idxRune_hi (r : Int) (w : World) (h : 128 ≤ r) (h2 : r ≤ 2147483647) :
    Calls Tryd.prog 58 #[.string ⟨#[42, 47]⟩, .int .i32 r] w fun e w' => e = .returned (.int .i64 (-1)) ∧ Gr w w' := by
  by_cases he : r = 65533
  · subst he
    have hn0 := fun ty => run_next_ascii (P := Tryd.prog) w ⟨#[42, 47]⟩ 0 ty (by decide) (by decide)
    have hn1 := fun ty => run_next_ascii (P := Tryd.prog) w ⟨#[42, 47]⟩ 1 ty (by decide) (by decide)
    have hn2 := run_next_end (P := Tryd.prog) w ⟨#[42, 47]⟩ 2
    go_enter Tryd.func58, Tryd.ntmps58
    go_wp2
    go_loopg [5, 6] 3 (fun g _ _ wx => ∃ i : Nat, i + g = 3 ∧ i ≤ 2 ∧ wx = w.iter ⟨#[42, 47]⟩ i)
    case atStart => exact ⟨0, by omega, by omega, rfl⟩
    case round =>
      obtain ⟨i, hg, hi, rfl⟩ := hrel
      rcases (show i = 0 ∨ i = 1 ∨ i = 2 by omega) with rfl | rfl | rfl
      · go_wp2
        go_roundg 2
        case measure => omega
        case rel => exact ⟨1, by omega, by omega, rfl⟩
      · go_wp2
        go_roundg 1
        case measure => omega
        case rel => exact ⟨2, by omega, by omega, rfl⟩
      · go_wp2
        go_ret
        exact ⟨rfl, (Gr.refl w).iter _ _⟩
  · have hE : ((r : Int) == 65533) = false := by simp [he]
    have hlt : ¬ r < 128 := by omega
    cases hv : Lib.validRune r with
    | false =>
      go_enter Tryd.func58, Tryd.ntmps58
      go_wp2_with (go_at_call 69; refine (Tryd.utf8_ValidRune _ _).mono ?_; rintro e w' ⟨rfl, hw⟩; rw [hw, hv])
      go_ret
      exact ⟨rfl, Gr.refl w⟩
    | true =>
      have hu : Utf8.valid r = true := by rw [validRune_eq]; exact hv
      obtain ⟨e1, e2, e3⟩ := encode_facts r hu h
      have HV := Lib.hid (fun W => show Calls Tryd.prog 69 #[.int .i32 r] W (fun e w' => e = .returned (.bool true) ∧ w' = W) from (Tryd.utf8_ValidRune r W).mono (by rintro e w' ⟨rfl, hw⟩; exact ⟨by rw [hv], hw⟩))
      have t21 := Tryd.underlying21; have t9 := Tryd.underlying9; have t3 := Tryd.underlying3; have t5 := Tryd.underlying5
      clear hv hu
      generalize hEE : Utf8.encode r = E at *
      rcases (show E.size = 2 ∨ E.size = 3 ∨ E.size = 4 by omega) with hs | hs | hs
      · obtain ⟨a, b, rfl⟩ := bytes2 E hs
        have hb : 128 ≤ b.toNat := e3 (by show 1 < 2; omega)
        have hne : ((47 : UInt8) == b) = false := by
          rw [beq_eq_false_iff_ne]; rintro rfl; simp at hb
        have hnei : (((47 : Int) == (b.toNat : Int))) = false := by
          rw [beq_eq_false_iff_ne]; omega
        have hnn : (((((⟨#[42, 47]⟩ : ByteArray)[1]'(by decide)).toNat : Int)) != ((((⟨#[a, b]⟩ : ByteArray)[1]'(by show 1 < 2; omega)).toNat : Int))) = true := by
          show (!((47 : Int) == (b.toNat : Int))) = true
          rw [hnei]; rfl
        have hw2 : IntKind.i64.wrap (2 : Int) = 2 := rfl
        have HI := Lib.hid (fun (s : ByteArray) (c : Int) W (h : s.data.toList = []) => show Calls Tryd.prog 68 #[.string s, .int .u8 c] W (fun e w' => e = .returned (.int .i64 (-1)) ∧ Gr W w') from (Tryd.strings_IndexByte s c W).mono (by rintro e w' ⟨rfl, rfl⟩; exact ⟨by rw [h]; rfl, Gr.refl _⟩))
        go_enter Tryd.func58, Tryd.ntmps58
        go_wp2_with (go_at_call 69; refine (HV.out _).mono ?_; rintro e w' ⟨rfl, rfl⟩)
        clear HV e1 e2 e3 hs
        go_step3
        go_wp2
        go_loopw [9, 10] (fun i f wr => i = .int .i64 1 ∧ wr = w') (fun _ _ _ => 0)
        case atStart => exact ⟨rfl, rfl⟩
        case round =>
          obtain ⟨rfl, rfl⟩ := hrel
          go_wp2
          go_step3
          go_wp2
          go_region
          go_wp2
          ((first | refine region_gr_on (by kernel_rfl) (by kernel_rfl) ?_ | refine region_gr (by kernel_rfl) (by kernel_rfl) ?_); (repeat (quiet_step (exact Calls.gr_of (HI.out _ _ _ rfl)))); refine wpQuiet_nil ?_; intro _ hw'; obtain ⟨⟨kq, oq⟩, hw''⟩ := hw'; subst hw'')
          go_wp2
          rw [Exit.noGoto_ret]
          simp (config := { zetaDelta := true }) only [Exit.inBlock, Exit.then, Exit.noGoto_ret]
          go_ret
          exact ⟨rfl, (by repeat (first | with_reducible exact Gr.refl _ | with_reducible refine Gr.alloc ?_ _ | with_reducible refine Gr.gr ?_ _ _ | with_reducible refine Gr.drew ?_ | with_reducible refine Gr.drewN ?_ _))⟩
      · obtain ⟨a, b, c, rfl⟩ := bytes3 E hs
        go_enter Tryd.func58, Tryd.ntmps58
        go_wp2_with (go_at_call 69; refine (HV.out _).mono ?_; rintro e w' ⟨rfl, rfl⟩)
        clear HV e1 e2 e3 hs
        go_step3
        go_wp2
        go_loopw [9, 10] (fun i f wr => i = .int .i64 2 ∧ wr = w') (fun _ _ _ => 0)
        case atStart => exact ⟨rfl, rfl⟩
        case round =>
          obtain ⟨rfl, rfl⟩ := hrel
          go_wp2
          rw [Exit.noGoto_ret]
          go_ret
          exact ⟨rfl, Gr.refl _⟩
      · obtain ⟨a, b, c, d, rfl⟩ := bytes4 E hs
        go_enter Tryd.func58, Tryd.ntmps58
        go_wp2_with (go_at_call 69; refine (HV.out _).mono ?_; rintro e w' ⟨rfl, rfl⟩)
        clear HV e1 e2 e3 hs
        go_step3
        go_wp2
        go_loopw [9, 10] (fun i f wr => i = .int .i64 3 ∧ wr = w') (fun _ _ _ => 0)
        case atStart => exact ⟨rfl, rfl⟩
        case round =>
          obtain ⟨rfl, rfl⟩ := hrel
          go_wp2
          rw [Exit.noGoto_ret]
          go_ret
          exact ⟨rfl, Gr.refl _⟩
/-- What a rune's text holds behind its first byte are no signs. -/
theorem decode_cont (s : ByteArray) (p j : Nat) (h1 : 1 ≤ j) (h : j < (Utf8.decode s p).2) : p + j < s.size ∧ 128 ≤ (s.get! (p + j)).toNat := by
  unfold Utf8.decode at h
  simp only at h
  split at h
  · simp only at h; omega
  split at h
  · rename_i hc
    simp only [Bool.and_eq_true, decide_eq_true_eq, beq_iff_eq] at hc
    split at h <;> simp only at h
    · have : j = 1 := by omega
      subst this; exact ⟨hc.2.1, by omega⟩
    · omega
  split at h
  · rename_i hc
    simp only [Bool.and_eq_true, decide_eq_true_eq, beq_iff_eq] at hc
    split at h <;> simp only at h
    · have : j = 1 ∨ j = 2 := by omega
      rcases this with rfl | rfl
      · exact ⟨hc.1.2.1, by omega⟩
      · exact ⟨hc.2.1, by omega⟩
    · omega
  split at h
  · rename_i hc
    simp only [Bool.and_eq_true, decide_eq_true_eq, beq_iff_eq] at hc
    split at h <;> simp only at h
    · have : j = 1 ∨ j = 2 ∨ j = 3 := by omega
      rcases this with rfl | rfl | rfl
      · exact ⟨hc.1.1.2.1, by omega⟩
      · exact ⟨hc.1.2.1, by omega⟩
      · exact ⟨hc.2.1, by omega⟩
    · omega
  · simp only at h; omega
theorem no_sign {b : UInt8} (h : 128 ≤ b.toNat) : ([42, 47] : List UInt8).contains b = false := by
  have h1 : b ≠ 42 := by rintro rfl; simp at h
  have h2 : b ≠ 47 := by rintro rfl; simp at h
  simp [h1, h2]
theorem get_list (s : ByteArray) (k : Nat) (h : k < s.size) : s.data.toList[k]? = some (s.get! k) := by
  rw [Lib.data_getElem? s k h]
  congr 1
  have := get_at s k h
  simpa using this.symm
theorem NoAny.rune {s : ByteArray} {i : Nat} (hi : i < s.size) (h : Lib.NoAny s.data.toList [42, 47] i) (hx : 128 ≤ (s.get! i).toNat) : Lib.NoAny s.data.toList [42, 47] (i + (Utf8.decode s i).2) := by
  intro j b hj hb
  by_cases h0 : j < i
  · exact h j b h0 hb
  by_cases h1 : j = i
  · subst h1
    rw [get_list s j hi] at hb
    injection hb with hb
    exact no_sign (hb ▸ hx)
  · obtain ⟨q, rfl⟩ : ∃ q, j = i + q := ⟨j - i, by omega⟩
    obtain ⟨c1, c2⟩ := decode_cont s i q (by omega) (by omega)
    rw [get_list s _ c1] at hb
    injection hb with hb
    exact no_sign (hb ▸ c2)

set_option maxHeartbeats 8000000 in
set_option maxRecDepth 1000000 in
theorem idxAny_short (s : ByteArray) (w : World) (h8 : s.size ≤ 8) :
    Calls Tryd.prog 55 #[.string s, .string ⟨#[42, 47]⟩] w fun e w' => e = .returned (.int .i64 (Lib.indexAny s.data.toList [42, 47])) ∧ Gr w w' := by
  have h8z : decide ((8 : Int) < (s.size : Int)) = false := decide_eq_false (by omega)
  have HS := Lib.hid (fun W => (Tryd.strings_shouldUseASCIISet (s.size : Int) W))
  rw [h8z] at HS
  go_enter Tryd.func55, Tryd.ntmps55
  go_wp2_with (go_at_call 59; refine (HS.out _).mono ?_; rintro e w' ⟨rfl, rfl⟩)
  go_loopg [9, 10] s.size (fun g _ _ wx => ∃ i : Nat, i + g = s.size ∧ wx.heap[w'.heap.size]? = some (.stringIter s i) ∧ Below w'.heap.size w' wx ∧ Hid (Lib.NoAny s.data.toList [42, 47] i))
  case atStart => exact ⟨0, by omega, World.iter_heap _ _ _, (Gr.iter (Gr.refl w') s 0).below, Lib.hid (Lib.NoAny.zero _ _)⟩
  case round =>
    obtain ⟨i, hig, hit, hbl, HN⟩ := hrel
    have hlt : w'.heap.size < wr.heap.size := (Array.getElem?_eq_some_iff.1 hit).1
    cases gk with
    | zero =>
      obtain rfl : i = s.size := by omega
      have hnx := fun ty => Lib.run_next_end_at (P := Tryd.prog) wr w'.heap.size s s.size ty hit (by omega)
      go_wp2
      go_ret
      exact ⟨by rw [Lib.indexAny_none (by rw [← Lib.size_eq]; exact HN.out)]; rfl, Gr.of_below hbl⟩
    | succ g =>
      have hi : i < s.size := by omega
      have HIT := Lib.hid hit
      have hxl := get_list s i hi
      have hge := get_at s i hi
      by_cases hx : (s[i]'hi).toNat < 128
      · have hnx := fun ty => Lib.run_next_ascii_at (P := Tryd.prog) wr w'.heap.size s i ty hit hi hx
        have hge' : s.get! i = s[i]'hi := hge
        rw [hge'] at hxl
        clear hge hge'
        obtain ⟨x, hxe⟩ : ∃ x : UInt8, s[i]'hi = x := ⟨_, rfl⟩
        rw [hxe] at hnx hx hxl
        have HX := Lib.hid hxl
        clear hxl hxe hit
        have hcon := Lib.contains_iff_indexByte [42, 47] x
        have hback : ((x.toNat : Int)).toNat.toUInt8 = x := by simp
        have HR := Lib.hid (fun W => show Calls Tryd.prog 58 #[.string ⟨#[42, 47]⟩, .int .i32 (x.toNat : Int)] W (fun e w' => e = .returned (.int .i64 (Lib.indexByte [42, 47] x)) ∧ w' = W) from (Tryd.strings_IndexRune_ascii ⟨#[42, 47]⟩ (x.toNat : Int) W (by omega) (by omega)).mono (by rintro e w' ⟨rfl, h⟩; exact ⟨by rw [hback], h⟩))
        cases hin : ([42, 47] : List UInt8).contains x
        · rw [hin] at hcon
          have hlt0 : ¬ ((0 : Int) ≤ Lib.indexByte [42, 47] x) := of_decide_eq_false hcon.symm
          clear hcon
          have HH := Lib.hid (Lib.iterAt_heap wr w'.heap.size s i (i + 1) HIT.out)
          have HB := Lib.hid (Lib.below_iterAt hbl (Nat.le_refl _) s (i + 1))
          clear hbl HIT
          generalize Lib.indexByte [42, 47] x = q at *
          go_wp2_with (go_at_call 58; refine (HR.out _).mono ?_; rintro e w2 ⟨rfl, rfl⟩)
          go_roundg g
          case measure => omega
          case rel => exact ⟨i + 1, by omega, HH.out, HB.out, Lib.hid (HN.out.succ HX.out hin)⟩
        · rw [hin] at hcon
          have hge0 : (0 : Int) ≤ Lib.indexByte [42, 47] x := of_decide_eq_true hcon.symm
          clear hcon
          have HB := Lib.hid (Lib.below_iterAt hbl (Nat.le_refl _) s (i + 1))
          clear hbl HIT
          generalize Lib.indexByte [42, 47] x = q at *
          go_wp2_with (go_at_call 58; refine (HR.out _).mono ?_; rintro e w2 ⟨rfl, rfl⟩)
          go_ret
          exact ⟨by rw [Lib.indexAny_hit HN.out HX.out hin]; rfl, Gr.of_below HB.out⟩
      · have hnx := fun ty => Lib.run_next_any_at (P := Tryd.prog) wr w'.heap.size s i ty hit hi
        obtain ⟨d1, d2⟩ := decode_high s i hi (by omega)
        have d3 := decode_le s i
        have HNA := Lib.hid (NoAny.rune hi HN.out (by have : s.get! i = s[i]'hi := hge; rw [this]; omega))
        have d4 : i + (Utf8.decode s i).2 ≤ s.size := by
          by_cases h : (Utf8.decode s i).2 = 1
          · omega
          · have := (decode_cont s i ((Utf8.decode s i).2 - 1) (by omega) (by omega)).1
            omega
        clear hx hge hxl hit
        generalize Utf8.decode s i = D at *
        obtain ⟨d, k⟩ := D
        simp only at d1 d2 d3 d4 hnx HNA
        have HH := Lib.hid (Lib.iterAt_heap wr w'.heap.size s i (i + k) HIT.out)
        have HB := Lib.hid (Lib.below_iterAt hbl (Nat.le_refl _) s (i + k))
        have HR := Lib.hid (fun W => idxRune_hi (d : Int) W (by omega) (by omega))
        have hlt2 : w'.heap.size < (wr.iterAt w'.heap.size s (i + k)).heap.size := by rw [Lib.iterAt_size]; exact hlt
        clear hbl HIT
        go_wp2_with (go_at_call 58; refine (HR.out _).mono ?_; rintro e w2 ⟨rfl, hg⟩)
        go_roundg (g + 1 - k)
        case measure => omega
        case rel => exact ⟨i + k, by omega, (hg.below.block _ hlt2).trans HH.out, HB.out.trans (hg.below.mono HB.out.size), HNA⟩
theorem idxAny_any (s : ByteArray) (w : World) (hs : s.size < 4294967281) :
    Calls Tryd.prog 55 #[.string s, .string ⟨#[42, 47]⟩] w fun e w' => e = .returned (.int .i64 (Lib.indexAny s.data.toList [42, 47])) ∧ Gr w w' := by
  by_cases h8 : s.size ≤ 8
  · exact idxAny_short s w h8
  · refine (Tryd.strings_IndexAny_long (zero_of_info (n := 256) (by kernel_rfl)).1 s ⟨#[42, 47]⟩ w (by decide) (by omega) hs (by decide) (fun j b h => ?_)).mono ?_
    · have : b = 42 ∨ b = 47 := by
        have := List.mem_of_getElem? h
        simpa using this
      rcases this with rfl | rfl <;> decide
    · rintro e w' ⟨rfl, rfl⟩
      exact ⟨rfl, ((Gr.refl w).alloc _).alloc _⟩
end Go.Proofs.YtphebmbapllinaaDoor
