/- Decimal numerals in the model. -/
import Derived.Test.YtphebmbapllinaaDoor1A
import Derived.Below
import Derived.Lib.ItoaNum
import Derived.Deep.RegionWith
import Derived.Laws.IdiomStrings
import Derived.IntWalk
import Derived.WalkSmall
import Derived.Laws.Concat
namespace Go.Proofs.YtphebmbapllinaaDoor
open Go.RowKit
set_option linter.unusedVariables false
set_option linter.unusedSimpArgs false

/-- A string is returned, the old memory is as it was. -/
def Str (l : List UInt8) (w : World) (e : Ending) (w' : World) : Prop := e = .returned (.string ⟨l.toArray⟩) ∧ Below w.heap.size w w'

theorem ret_str {a b : ByteArray} (h : a = b) : Ending.returned (.string a) = .returned (.string b) := by rw [h]
theorem str_app_one (l : List UInt8) (k : Nat) : ByteArray.mk l.toArray ++ ByteArray.mk #[48 + UInt8.ofNat k] = ByteArray.mk (l ++ [UInt8.ofNat (48 + k)]).toArray := by
  have e : (48 : UInt8) + UInt8.ofNat k = UInt8.ofNat (48 + k) := by simp
  rw [e]
  exact ByteArray.mk_append_mk l [UInt8.ofNat (48 + k)]
theorem below_start {w w0 w1 : World} (h0 : Below w.heap.size w w0) (h : Below w0.heap.size w0 w1) : Below w.heap.size w w1 := h0.trans (h.mono h0.size)
theorem below_on {w w0 : World} (h0 : Below w.heap.size w w0) (n : Nat) : Below w.heap.size w (w0.drewN n) := below_drewN h0 n
theorem below_reads {W w1 : World} (hb : Below W.heap.size W w1) : (∀ b o, b < W.heap.size → w1.cell? ⟨b, o, none⟩ = W.cell? ⟨b, o, none⟩) ∧ (∀ b o, b < W.heap.size → w1.frozen? ⟨b, o, none⟩ = W.frozen? ⟨b, o, none⟩) :=
  ⟨fun b o h => hb.cell (p := ⟨b, o, none⟩) h, fun b o h => hb.frozen (p := ⟨b, o, none⟩) h⟩

theorem decDigits_len : ∀ (k n : Nat), n < 10 ^ k → 0 < k → (Lib.decDigits n).length ≤ k
  | 0, _, _, h => absurd h (by omega)
  | k + 1, n, hn, _ => by
    rw [Lib.decDigits]
    by_cases h : n < 10
    · rw [dif_pos h]; simp
    · rw [dif_neg h]
      have hk : 0 < k := by
        rcases Nat.eq_zero_or_pos k with hk | hk
        · subst hk; simp at hn; omega
        · exact hk
      have := decDigits_len k (n / 10) (by rw [Nat.pow_succ] at hn; omega) hk
      simp; omega
theorem decDigits_snoc (n : Nat) (h : 10 ≤ n) : Lib.decDigits n = Lib.decDigits (n / 10) ++ [UInt8.ofNat (48 + n % 10)] := by
  rw [Lib.decDigits, dif_neg (by omega)]

/-- One byte in memory, made a string. -/
theorem conv_one {z : Int} {l : List UInt8} (h0 : 0 ≤ z) (h1 : z < 256) (hl : l = [UInt8.ofNat z.toNat]) (g : Nat) (W : World) (hc : W.cell? ⟨g, 0, none⟩ = some (.int .u8 z)) :
    (convert 22 9 (.slice (some ⟨g, 0, none⟩) 1 1)).run Tryd.prog W = .ok (.string ⟨l.toArray⟩) W := by
  subst hl
  have := run_convert_bytes_back (P := Tryd.prog) W 22 9 5 ⟨g, 0, none⟩ 1 [UInt8.ofNat z.toNat] Tryd.underlying22 Tryd.underlying5 Tryd.underlying9 (fun j hj => by
    simp at hj
    subst hj
    have e : ((UInt8.ofNat z.toNat).toNat : Int) = z := by simp; omega
    show W.cell? _ = some (.int .u8 ((UInt8.ofNat z.toNat).toNat : Int))
    rw [e]
    exact hc)
  exact this

set_option maxRecDepth 1000000 in
theorem dec_small (n : Nat) (w : World) (h : n < 10) :
    Calls Tryd.prog 53 #[.int .i64 n] w (Str (Lib.decDigits n) w) := by
  have hconv := conv_one (z := 48 + n) (l := Lib.decDigits n) (by omega) (by omega) (by rw [Lib.decDigits_one h]; congr)
  go_enter Tryd.func53, Tryd.ntmps53
  go_wp2
  go_ret
  exact ⟨rfl, (Below.refl _ _).alloc (Nat.le_refl _) _⟩

set_option maxRecDepth 1000000 in
theorem dec_big (n : Nat) (w : World) (h : 10 ≤ n) (hn : n ≤ 4000000000000000000) (ih : ∀ w : World, Calls Tryd.prog 53 #[.int .i64 ((n : Int) / 10)] w (Str (Lib.decDigits (n / 10)) w)) :
    Calls Tryd.prog 53 #[.int .i64 n] w (Str (Lib.decDigits n) w) := by
  have hconv := conv_one (z := 48 + n % 10) (l := [UInt8.ofNat (48 + n % 10)]) (by omega) (by omega) (by congr)
  go_enter Tryd.func53, Tryd.ntmps53
  go_wp2_with fail
  have q1 : IntKind.i64.wrap ((n : Int) / 10) = (n : Int) / 10 := IntWalk.i64_in _ (by omega)
  have q2 : (n : Int).tmod 10 = (n : Int) % 10 := Int.tmod_eq_emod_of_nonneg (by omega)
  have q3 : IntKind.i64.wrap (48 + (n : Int) % 10) = 48 + (n : Int) % 10 := IntWalk.i64_in _ (by omega)
  have q4 : IntKind.u8.wrap (48 + (n : Int) % 10) = 48 + (n : Int) % 10 := IntWalk.u8_in _ (by omega)
  have hl : (Lib.decDigits (n / 10)).length + 1 ≤ 9223372036854775807 := by
    have := decDigits_len 19 (n / 10) (by omega) (by omega)
    omega
  have HS := Lib.hid (decDigits_snoc n h)
  go_region_with (go_at_call 53; refine (ih _).mono ?_; rintro e w1 ⟨rfl, hb1⟩; obtain ⟨hc1, hf1⟩ := below_reads hb1)
  all_goals
    go_wp2
    go_ret
    refine ⟨ret_str (by rw [HS.out]; exact str_app_one _ _), ?_⟩
    first
      | exact (below_start ((Below.refl _ w).drew) hb1).alloc (Nat.le_trans (Nat.le_refl _) hb1.size) _
      | exact below_start ((Below.refl _ w).drew.alloc (Nat.le_refl _) _) hb1

theorem dec_any (n : Nat) (hn : n ≤ 4000000000000000000) : ∀ w : World, Calls Tryd.prog 53 #[.int .i64 n] w (Str (Lib.decDigits n) w) := by
  induction n using Nat.strongRecOn with
  | _ n ih =>
    intro w
    by_cases h : n < 10
    · exact dec_small n w h
    · exact dec_big n w (by omega) hn (fun w => by
        have := ih (n / 10) (by omega) (by omega) w
        rwa [show ((n / 10 : Nat) : Int) = (n : Int) / 10 by omega] at this)
end Go.Proofs.YtphebmbapllinaaDoor
