/- Chains drawn by a law's code; lists of terms compared by a law. -/
import Derived.Test.YtphebmbapllinaaD40
import Derived.Test.YtphebmbapllinaaCT
import Derived.Test.YtphebmbapllinaaSA
import Derived.BigQuiet
import Derived.RegionTactic
import Derived.Deep.RegionHeld3
namespace Go.Proofs.Ytphebmbapllinaa
open Go.RowKit Go.ChangeShapes Go.WideShapes Go.ChangeAt
set_option linter.unusedVariables false
set_option linter.unusedSimpArgs false

theorem guard_term (op : BinOp) (x y : Operand) (xs ys : Array Value) (w : World) : (eqGuard op 64 x y (.agg xs) (.agg ys)).run Try.prog w = .ok () w := run_eqGuard_agg w op _ x y xs ys (by kernel_rfl)
theorem neq_term (a b : Int) (c : Bool) (w : World) : (binOp .neq 64 (.agg #[.int .i64 a, .int .i64 b, .bool c]) (.agg #[.int .i64 a, .int .i64 b, .bool c])).run Try.prog w = .ok (.bool false) w := by
  rw [run_neq_struct, run_equalIn_agg (d := 9999) w _ _ _ (by kernel_rfl) (by kernel_rfl)]
  simp [Op.eqFields, Program.fieldsOf, Try.underlying64, Try.underlying38, Try.underlying2, Try.underlying4, go_sem]
section
attribute [local go_sem high] guard_term neq_term
set_option maxHeartbeats 2000000 in
theorem likeTerms_same (A B : Option Addr) (n c d : Nat) (zs : List Tm) (w : World) (hn : zs.length = n) (hN : n ≤ 16777216) (hA : Reads w w.heap.size A (tcells zs)) (hB : Reads w w.heap.size B (tcells zs)) :
    Calls Try.prog 22 #[.slice A n c, .slice B n d] w fun e w' => e = .returned (.bool true) ∧ Gr w w' := by
  have HL := Lib.hid hn
  have HA := Lib.hid hA
  have HB := Lib.hid hB
  clear hn hA hB
  go_enter Try.func22, Try.ntmps22
  go_wp2
  go_loopw [5] (fun i wr => ∃ k : Nat, k ≤ n ∧ i = .int .i64 k ∧ Gr w wr) (fun i _ => n - (intOf i).toNat)
  case atStart => exact ⟨0, by omega, rfl, Gr.refl _⟩
  case round =>
    obtain ⟨k, hk, rfl, hG⟩ := hrel
    by_cases hlt : k < n
    · obtain ⟨z, hz⟩ := some_at (l := zs) (k := k) (by rw [HL.out]; exact hlt)
      obtain ⟨g, o, rfl, hg, x0, x1, x2⟩ := (HA.out.gr hG).att hz
      obtain ⟨g2, o2, rfl, hg2, y0, y1, y2⟩ := (HB.out.gr hG).att hz
      have HG := Lib.hid hG
      clear hz hG
      obtain ⟨za, zb, zc⟩ := z
      simp only at x0 x1 x2 y0 y1 y2
      go_wp2
      go_quiet (fail)
      go_wp2
      go_roundw
      case rel => exact ⟨k + 1, by omega, by go_num, HG.out.trans (by repeat (first | with_reducible exact Gr.refl _ | with_reducible refine Gr.alloc ?_ _ | with_reducible refine Gr.gr ?_ _ _ | with_reducible refine Gr.drew ?_ | with_reducible refine Gr.drewN ?_ _))⟩
      case measure => simp [intOf]; omega
    · go_wp2
      go_ret
      exact ⟨rfl, hG⟩
end
theorem likeTermsLst_any (v u : Value) (xs : List Tm) (B C : Nat) (w : World) (h : LstG tcl 3 64 w B v xs) (k : LstG tcl 3 64 w C u xs) (hN : xs.length ≤ 16777216) :
    Calls Try.prog 22 #[v, u] w fun e w' => e = .returned (.bool true) ∧ Gr w w' := by
  obtain ⟨A1, c1, rfl, r1⟩ := LstG.slice h
  obtain ⟨A2, c2, rfl, r2⟩ := LstG.slice k
  exact likeTerms_same A1 A2 xs.length c1 c2 xs w rfl hN r1 r2
/-- A list of terms drawn by a law's code. -/
def GotTl (w : World) (e : Ending) (w' : World) : Prop :=
  ∃ (g cap : Nat) (zs : List Tm), e = .returned (.slice (some ⟨g, 0, none⟩) zs.length cap) ∧ zs.length ≤ 7 ∧ zs.length ≤ cap ∧ Reads w' w'.heap.size (some ⟨g, 0, none⟩) (tcells zs) ∧ Below w.heap.size w w'
theorem drawSortT_any (A : Option Addr) (n c : Nat) (w : World) (hn : n ≤ 4611686018427387904) (hB : Bytes w w.heap.size A n) :
    Calls Try.prog 16 #[.slice A n c] w (GotTl w) := by
  go_enter Try.func16, Try.ntmps16
  go_wp2_with fail
  refine (from_any A n c _ hn hB).mono ?_
  rintro e w1 ⟨b, rfl, hb, hS1, hl1⟩
  go_wp2_with fail
  refine (draw13_any A n c b _ hS1).mono ?_
  rintro e w2 ⟨g, cap, zs, rfl, -, z1, hcp, hO, hS2, hd2⟩
  go_wp2_with fail
  go_ret
  exact ⟨g, cap, zs, rfl, z1, hcp, hO.readsT, hl1.trans (hd2.below hb hl1.size)⟩
theorem drawChLog_any (A : Option Addr) (n c : Nat) (w : World) (hn : n ≤ 4611686018427387904) (hB : Bytes w w.heap.size A n) :
    Calls Try.prog 19 #[.slice A n c] w (GotTl w) := by
  go_enter Try.func19, Try.ntmps19
  go_wp2_with fail
  refine (from_any A n c _ hn hB).mono ?_
  rintro e w1 ⟨b, rfl, hb, hS1, hl1⟩
  go_wp2_with fail
  refine (draw13_any A n c b _ hS1).mono ?_
  rintro e w2 ⟨g, cap, zs, rfl, -, z1, hcp, hO, hS2, hd2⟩
  go_wp2_with fail
  go_ret
  exact ⟨g, cap, zs, rfl, z1, hcp, hO.readsT, hl1.trans (hd2.below hb hl1.size)⟩
def GotSw (w : World) (e : Ending) (w' : World) : Prop :=
  ∃ (g cap : Nat) (zs : List Tm) (a b : Int), e = .returned (.tuple #[.slice (some ⟨g, 0, none⟩) zs.length cap, .int .i64 a, .int .i64 b]) ∧ zs.length ≤ 7 ∧ zs.length ≤ cap ∧ Reads w' w'.heap.size (some ⟨g, 0, none⟩) (tcells zs) ∧ Below w.heap.size w w'
theorem drawSwapT_any (A : Option Addr) (n c : Nat) (w : World) (hn : n ≤ 4611686018427387904) (hB : Bytes w w.heap.size A n) :
    Calls Try.prog 13 #[.slice A n c] w (GotSw w) := by
  go_enter Try.func13, Try.ntmps13
  go_wp2_with fail
  refine (from_any A n c _ hn hB).mono ?_
  rintro e w1 ⟨b, rfl, hb, hS1, hl1⟩
  go_wp2_with fail
  refine (draw13_any A n c b _ hS1).mono ?_
  rintro e w2 ⟨g, cap, zs, rfl, -, z1, hcp, hO, hS2, hd2⟩
  have R2 := hO.readsT
  have B2 := hl1.trans (hd2.below hb hl1.size)
  have HW2 := Lib.hid hO
  have hbl : b < w1.heap.size := hS1.lt
  clear hO hS1 hd2
  obtain ⟨q, hq⟩ : ∃ q, zs.length = q := ⟨_, rfl⟩
  rw [hq] at z1 hcp HW2 ⊢
  go_wp2_with fail
  refine (next_any A n c b _ _ hS2).mono ?_
  rintro e w3 ⟨x, rfl, x0, x1, -, hS3, hd3⟩
  have x1 := x1 (by omega)
  have hx0 : 0 ≤ x / 11 := by omega
  have hx1 : x / 11 ≤ 1 := by omega
  go_wp2_with fail
  refine (next_any A n c b _ _ hS3).mono ?_
  rintro e w4 ⟨y, rfl, y0, y1, y2, hS4, hd4⟩
  have y8 : y ≤ 8 := by
    by_cases h : 1 < (q : Int) + x / 11
    · have := y1 h; omega
    · have := y2 (by omega); omega
  clear y1 y2
  go_wp2_with fail
  refine (next_any A n c b _ _ hS4).mono ?_
  rintro e w5 ⟨z, rfl, z0, z1', -, hS5, hd5⟩
  have z1' := z1' (by omega)
  have hz0 : 0 ≤ z / 23 := by omega
  have hz1 : z / 23 ≤ 1 := by omega
  go_wp2_with fail
  refine (next_any A n c b _ _ hS5).mono ?_
  rintro e w6 ⟨u, rfl, u0, -, -, hS6, hd6⟩
  go_wp2_with fail
  ((try simp only [Exit.inBlock, Exit.then]); refine bodyPost_ret (v := .tuple #[.slice (some ⟨g, 0, none⟩) q cap, .int .i64 (y - z / 23), .int .i64 u]) (by simp [results, Try.results13, go_sem]) rfl ?_)
  have hd := ((hd3.trans hd4).trans hd5).trans hd6
  have O6 := ownsRow_dr HW2.out hd hbl
  exact ⟨g, cap, zs, _, _, by rw [hq], by omega, by omega, LstG.readsT O6, B2.trans (hd.below hb B2.size)⟩
end Go.Proofs.Ytphebmbapllinaa
