/- Contracts of chapter 8: which ticks stay, in the model: every case. -/
import Derived.Test.YtlimfpdibohioaaC08m
namespace Go.Proofs.Ytlimfpdibohioaa
open Go.RowKit Go.Shelf
set_option linter.unusedVariables false
set_option linter.unusedSimpArgs false

set_option maxRecDepth 100000 in
set_option maxHeartbeats 2000000 in
theorem ka_spec (A : Option Addr) (n c : Nat) (zs : List P3) (d : Int) (w : World) (hn : zs.length = n) (hN : n ≤ 16777216) (hA : Reads w w.heap.size A (cells3 zs)) :
    Calls Try.prog 34 #[.slice A n c, .int .i64 d] w fun e w' => (∃ v, e = .returned (.tuple #[v, .int .i64 (kaE zs d)]) ∧ Lst w' w.heap.size v (kaL zs d)) ∧ Below w.heap.size w w' := by
  have HC := Lib.hid (tkcode_spec A n c zs w hn hN hA)
  have HNIL := Lib.hid (fun W => World.ownsRow_nil W w.heap.size 2 1)
  have HL := Lib.hid hn
  have HA := Lib.hid hA
  rcases ka_cases zs d with ⟨h1, h2, h3⟩ | ⟨h1, hno, h2, h3⟩ | ⟨h1, hH, hd, h2, h3⟩
  · rw [h2, h3]
    clear h2 h3 hn hA
    generalize tkE zs true = cd at *
    have hc0 : (cd == 0) = false := by simpa using h1
    go_enter Try.func34, Try.ntmps34
    go_wp2_with (go_at_call 56; refine (HC.out).mono ?_; rintro e w' ⟨rfl, rfl⟩)
    go_loop [6, 7] (fun e i => e = .int .i64 cd ∧ i = .int .i64 0) (fun _ _ => 0)
    case atStart => exact ⟨rfl, rfl⟩
    case round =>
      obtain ⟨rfl, rfl⟩ := hrel
      go_wp2
      ((try simp only [Exit.inBlock, Exit.then]); refine bodyPost_ret (v := .tuple #[.slice none 0 0, .int .i64 cd]) (by simp [results, Try.results34, go_sem]) rfl ?_)
      exact ⟨⟨_, rfl, HNIL.out _⟩, Below.refl _ _⟩
  · rw [h2, h3]
    rw [h1] at HC
    cases hh : allH zs
    · have HH0 := Lib.hid hh
      have HIN := Lib.hid (fun z W => in_any z 0 4 W)
      clear h1 h2 h3 hno hn hA hh
      go_enter Try.func34, Try.ntmps34
      go_wp2_with (go_at_call 56; refine (HC.out).mono ?_; rintro e w' ⟨rfl, rfl⟩)
      go_loop [6, 7] (fun e i => ∃ k : Nat, k ≤ n ∧ i = .int .i64 k ∧ ((e = .int .i64 0 ∧ Hid (allH (zs.take k) = true)) ∨ e = .int .i64 2)) (fun e i => 2 * (n - (intOf i).toNat) + (2 - intOf e).toNat)
      case atStart => exact ⟨0, by omega, rfl, .inl ⟨rfl, Lib.hid (by simp [allH])⟩⟩
      case round =>
        obtain ⟨k, hk, rfl, ⟨rfl, ha⟩ | rfl⟩ := hrel
        · by_cases hlt : k < n
          · obtain ⟨z, hz⟩ := some_at (l := zs) (k := k) (by rw [HL.out]; exact hlt)
            obtain ⟨g, o, rfl, hg, -, -, x2⟩ := HA.out.at3 hz
            have HZ := Lib.hid hz
            have HI := Lib.hid (HIN.out z.2.2)
            clear hz
            by_cases hb : 0 ≤ z.2.2 ∧ z.2.2 ≤ 4
            · have HQ := Lib.hid (allH_take HZ.out ha.out hb)
              rw [decide_eq_true hb] at HI
              clear hb
              go_wp2_with (go_at_call 49; refine (HI.out _).mono ?_; rintro e w' ⟨rfl, rfl⟩)
              go_round
              case rel => exact ⟨k + 1, by omega, by go_num, .inl ⟨rfl, HQ⟩⟩
              case measure => simp [intOf]; omega
            · rw [decide_eq_false hb] at HI
              clear hb
              go_wp2_with (go_at_call 49; refine (HI.out _).mono ?_; rintro e w' ⟨rfl, rfl⟩)
              go_round
              case rel => exact ⟨k + 1, by omega, by go_num, .inr rfl⟩
              case measure => simp [intOf]; omega
          · exfalso
            have h4 : zs.take k = zs := List.take_of_length_le (by rw [HL.out]; omega)
            have h5 := ha.out
            rw [h4, HH0.out] at h5
            cases h5
        · go_wp2
          ((try simp only [Exit.inBlock, Exit.then]); refine bodyPost_ret (v := .tuple #[.slice none 0 0, .int .i64 2]) (by simp [results, Try.results34, go_sem]) rfl ?_)
          exact ⟨⟨_, rfl, HNIL.out _⟩, Below.refl _ _⟩
    · have hd : ¬ (0 ≤ d ∧ d ≤ 100000) := fun h => hno ⟨hh, h⟩
      have HHB := Lib.hid (fun k => tkH_bd hh k)
      have HIN := Lib.hid (fun k W => in_any (tkH zs k) 0 4 W)
      have HID := Lib.hid (fun W => in_any d 0 100000 W)
      rw [decide_eq_false hd] at HID
      clear h1 h2 h3 hno hn hA hh hd
      go_enter Try.func34, Try.ntmps34
      go_wp2_with (go_at_call 56; refine (HC.out).mono ?_; rintro e w' ⟨rfl, rfl⟩)
      go_loop [6, 7] (fun e i => e = .int .i64 0 ∧ ∃ k : Nat, k ≤ n ∧ i = .int .i64 k) (fun _ i => n - (intOf i).toNat)
      case atStart => exact ⟨rfl, 0, by omega, rfl⟩
      case round =>
        obtain ⟨rfl, k, hk, rfl⟩ := hrel
        by_cases hlt : k < n
        · obtain ⟨za, zb, hz⟩ := th_at (zs := zs) (k := k) (by rw [HL.out]; exact hlt)
          obtain ⟨g, o, rfl, hg, -, -, x2⟩ := HA.out.at3 hz
          have hb := HHB.out k
          have HI := Lib.hid (HIN.out k)
          rw [decide_eq_true hb] at HI
          simp only at x2
          clear hz
          go_wp2_with (go_at_call 49; refine (HI.out _).mono ?_; rintro e w' ⟨rfl, rfl⟩)
          go_round
          case rel => exact ⟨rfl, k + 1, by omega, by go_num⟩
          case measure => simp [intOf]; omega
        · obtain rfl : k = n := by omega
          go_wp2_with (go_at_call 49; refine (HID.out _).mono ?_; rintro e w' ⟨rfl, rfl⟩)
          ((try simp only [Exit.inBlock, Exit.then]); refine bodyPost_ret (v := .tuple #[.slice none 0 0, .int .i64 2]) (by simp [results, Try.results34, go_sem]) rfl ?_)
          exact ⟨⟨_, rfl, HNIL.out _⟩, Below.refl _ _⟩
  · rw [h2, h3, hn]
    exact ka_spec1 A n c zs d w hn hA h1 hH hd
end Go.Proofs.Ytlimfpdibohioaa
