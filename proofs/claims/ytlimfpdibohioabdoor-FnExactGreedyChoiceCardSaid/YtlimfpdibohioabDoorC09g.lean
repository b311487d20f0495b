/- Contracts of chapter 9: what a choice is worth. -/
import Derived.Test.YtlimfpdibohioabDoorC09f
namespace Go.Proofs.YtlimfpdibohioabDoor
open Go.RowKit Go.Shelf
set_option linter.unusedVariables false
set_option linter.unusedSimpArgs false

set_option maxRecDepth 100000 in
set_option maxHeartbeats 2000000 in
theorem wt_spec (A : Option Addr) (n c : Nat) (zs : List P3) (B : Option Addr) (m d : Nat) (cs : List Int) (w : World) (hn : zs.length = n) (hN : n ≤ 16777216) (hA : Reads w w.heap.size A (cells3 zs)) (hm : cs.length = m) (hM : m ≤ 2000000) (hB : Reads w w.heap.size B (cs.map vi)) :
    Calls Tryd.prog 20 #[.slice A n c, .slice B m d] w fun e w' => e = .returned (.tuple #[.int .i64 (wtV zs cs), .int .i64 (wtE zs cs)]) ∧ Gr w w' := by
  have HC := Lib.hid (lbcode_spec A n c zs w hn hN hA)
  rcases wt_cases zs cs with ⟨h1, h2, h3⟩ | ⟨h1, hb, h2, h3⟩ | ⟨h1, hb, h2, h3⟩
  · rw [h2, h3]
    have hc0 : (lbE zs == 0) = false := by simpa using h1
    generalize lbE zs = cd at *
    clear hA hB hn hm h2 h3
    go_enter Tryd.func20, Tryd.ntmps20
    go_wp2_with fail
    refine (HC.out).mono ?_
    rintro e w' ⟨rfl, hg1⟩
    go_wp2_with fail
    ((try simp only [Exit.inBlock, Exit.then]); refine bodyPost_ret (v := .tuple #[.int .i64 0, .int .i64 cd]) (by simp [results, Tryd.results20, go_sem]) rfl ?_)
    exact ⟨rfl, hg1⟩
  · rw [h2, h3]
    have HI := Lib.hid (fun W (hg : Gr w W) => choice_spec A n c zs B m d cs W hn hN (hA.gr hg) (lbE_zero h1).2 hm (by omega) (hB.gr hg))
    rw [hb] at HI
    rw [h1] at HC
    clear hA hB hn hm h1 h2 h3 hb
    go_enter Tryd.func20, Tryd.ntmps20
    go_wp2_with fail
    refine (HC.out).mono ?_
    rintro e w' ⟨rfl, hg1⟩
    go_wp2_with fail
    refine (HI.out _ hg1).mono ?_
    rintro e w2 ⟨rfl, hg2⟩
    go_wp2_with fail
    ((try simp only [Exit.inBlock, Exit.then]); refine bodyPost_ret (v := .tuple #[.int .i64 0, .int .i64 5]) (by simp [results, Tryd.results20, go_sem]) rfl ?_)
    exact ⟨rfl, hg1.trans hg2⟩
  rw [h2, h3]
  have HI := Lib.hid (fun W (hg : Gr w W) => choice_spec A n c zs B m d cs W hn hN (hA.gr hg) (lbE_zero h1).2 hm (by omega) (hB.gr hg))
  rw [hb] at HI
  rw [h1] at HC
  have ha := (lbE_zero h1).2
  have hch := ((chB_iff zs cs).1 hb).1
  rw [hm, hn] at hch
  have HA := Lib.hid hA
  have HB := Lib.hid hB
  have HL := Lib.hid hn
  have HM := Lib.hid hm
  have HR := Lib.hid (fun k hk => (hch k hk).1)
  have HS := Lib.hid (fun k hk => suW_take zs cs k (by rw [hm]; exact hk))
  have HBD := Lib.hid (fun k => suW_bd ha (cs.take k))
  have HWB := Lib.hid (fun k => woN_bd ha k)
  have HH := Lib.hid (fun (k : Nat) (h : k < n) => (tkN_is ha (k := k) (by rw [hn]; exact h)).2.2)
  clear hA hB hn hm h1 h2 h3 hb ha hch
  go_enter Tryd.func20, Tryd.ntmps20
  go_wp2_with fail
  refine (HC.out).mono ?_
  rintro e w' ⟨rfl, hg1⟩
  go_wp2_with fail
  refine (HI.out _ hg1).mono ?_
  rintro e w2 ⟨rfl, hg2⟩
  have HG2 := Lib.hid (hg1.trans hg2)
  clear hg1 hg2
  go_wp2
  go_loopw [7, 8] (fun s i wr => ∃ k : Nat, k ≤ m ∧ i = .int .i64 k ∧ s = .int .i64 (suW zs (cs.take k)) ∧ Gr w wr) (fun _ i _ => m - (intOf i).toNat)
  case atStart => exact ⟨0, by omega, rfl, by simp [suW], HG2.out⟩
  case round =>
    obtain ⟨k, hk, rfl, rfl, hG⟩ := hrel
    by_cases hlt : k < m
    · have h1 := cs_at (cs := cs) (k := k) (by rw [HM.out]; exact hlt)
      obtain ⟨gb, ob, rfl, hgb, xk⟩ := (HB.out.gr hG).at_ h1
      have r1 := HR.out k hlt
      have HS1 := Lib.hid (HS.out k hlt)
      obtain ⟨i, hi⟩ := Int.eq_ofNat_of_zero_le r1.1
      rw [hi, Int.toNat_natCast] at HS1
      rw [hi] at xk r1
      have hin : i < n := by omega
      have hb := HBD.out k
      have hb2 := HWB.out i
      have hl := List.length_take_le k cs
      have hz := tkN_at (zs := zs) (k := i) (by rw [HL.out]; exact hin)
      obtain ⟨g, o, rfl, hg, x0, x1, x2⟩ := (HA.out.gr hG).at3 hz
      have HW := fun W => worth_spec (tkN zs i) W (HH.out i hin)
      have HWE := Lib.hid (show woN zs i = 1 + 10 * (tkN zs i).2.2 from rfl)
      generalize tkN zs i = z at *
      obtain ⟨za, zb, zc⟩ := z
      simp only [tkV] at HW
      simp only at x0 x1 x2 HWE
      rw [← HWE.out] at HW
      replace HW := Lib.hid HW
      generalize suW zs (cs.take k) = s at *
      generalize woN zs i = x at *
      have hkk : ((cs.take k).length : Int) ≤ 2000000 := by omega
      have hws : IntKind.i64.wrap (s + x) = s + x := IntWalk.i64_in _ (by omega)
      have hG0 := Lib.hid hG
      have hki : (i : Int) < (n : Int) := by omega
      clear h1 hi hz hG
      go_wp2_with fail
      refine (HW.out _).mono ?_
      rintro e w3 ⟨rfl, hg3⟩
      have HG3 := Lib.hid (hG0.out.trans hg3)
      clear hg3
      go_wp2
      go_roundw
      case rel => exact ⟨k + 1, by omega, by go_num, by rw [HS1.out], HG3.out⟩
      case measure => simp [intOf]; omega
    · obtain rfl : k = m := by omega
      have HQ := Lib.hid (show suW zs (cs.take k) = suW zs cs by rw [List.take_of_length_le (by rw [HM.out]; omega)])
      go_wp2
      ((try simp only [Exit.inBlock, Exit.then]); refine bodyPost_ret (v := .tuple #[.int .i64 (suW zs (cs.take k)), .int .i64 0]) (by simp [results, Tryd.results20, go_sem]) rfl ?_)
      exact ⟨by rw [HQ.out], hG⟩
set_option maxRecDepth 100000 in
theorem wt_impl (A : Option Addr) (n c : Nat) (zs : List P3) (B : Option Addr) (m d : Nat) (cs : List Int) (w : World) (ht : Tab w) (hn : zs.length = n) (hN : n ≤ 16777216) (hA : Reads w w.heap.size A (cells3 zs)) (hm : cs.length = m) (hM : m ≤ 2000000) (hmd : m ≤ d) (hB : Reads w w.heap.size B (cs.map vi)) :
    Calls Tryd.prog 21 #[.slice A n c, .slice B m d] w fun e w' => e = .returned (.tuple #[.int .i64 (wtV zs cs), .int .i64 (wtE zs cs)]) ∧ Gr w w' := by
  have HC := Lib.hid (lbcode_impl A n c zs w hn hN hA)
  rcases wt_cases zs cs with ⟨h1, h2, h3⟩ | ⟨h1, hb, h2, h3⟩ | ⟨h1, hb, h2, h3⟩
  · rw [h2, h3]
    have hc0 : (lbE zs == 0) = false := by simpa using h1
    generalize lbE zs = cd at *
    clear hA hB hn hm h2 h3
    go_enter Tryd.func21, Tryd.ntmps21
    go_wp2_with fail
    refine (HC.out).mono ?_
    rintro e w' ⟨rfl, hg1⟩
    go_wp2_with fail
    ((try simp only [Exit.inBlock, Exit.then]); refine bodyPost_ret (v := .tuple #[.int .i64 0, .int .i64 cd]) (by simp [results, Tryd.results21, go_sem]) rfl ?_)
    exact ⟨rfl, hg1⟩
  all_goals have h40 := (lbE_zero h1).1
  all_goals rw [h2, h3]
  all_goals have HI := Lib.hid (fun W (hg : Gr w W) => choice_impl A n c zs B m d cs W (ht.gr hg) hn (by omega) (hA.gr hg) (lbE_zero h1).2 hm hM hmd (hB.gr hg))
  all_goals rw [hb] at HI
  all_goals rw [h1] at HC
  · clear hA hB hn hm h1 h2 h3 hb
    go_enter Tryd.func21, Tryd.ntmps21
    go_wp2_with fail
    refine (HC.out).mono ?_
    rintro e w' ⟨rfl, hg1⟩
    go_wp2_with fail
    refine (HI.out _ hg1).mono ?_
    rintro e w2 ⟨rfl, hg2⟩
    go_wp2_with fail
    ((try simp only [Exit.inBlock, Exit.then]); refine bodyPost_ret (v := .tuple #[.int .i64 0, .int .i64 5]) (by simp [results, Tryd.results21, go_sem]) rfl ?_)
    exact ⟨rfl, hg1.trans hg2⟩
  · have hch := ((chB_iff zs cs).1 hb).1
    rw [hm, hn] at hch
    have HS := Lib.hid (fun W (hg : Gr w W) => sum_impl A n c zs B m d cs W hn (by omega) (hA.gr hg) (lbE_zero h1).2 hm hM (hB.gr hg) (fun k hk => (hch k hk).1))
    generalize suW zs cs = s at *
    clear hA hB hn hm h1 h2 h3 hb hch
    go_enter Tryd.func21, Tryd.ntmps21
    go_wp2_with fail
    refine (HC.out).mono ?_
    rintro e w' ⟨rfl, hg1⟩
    go_wp2_with fail
    refine (HI.out _ hg1).mono ?_
    rintro e w2 ⟨rfl, hg2⟩
    go_wp2_with fail
    refine (HS.out _ (hg1.trans hg2)).mono ?_
    rintro e w3 ⟨rfl, hg3⟩
    go_wp2_with fail
    ((try simp only [Exit.inBlock, Exit.then]); refine bodyPost_ret (v := .tuple #[.int .i64 s, .int .i64 0]) (by simp [results, Tryd.results21, go_sem]) rfl ?_)
    exact ⟨rfl, (hg1.trans hg2).trans hg3⟩
end Go.Proofs.YtlimfpdibohioabDoor
