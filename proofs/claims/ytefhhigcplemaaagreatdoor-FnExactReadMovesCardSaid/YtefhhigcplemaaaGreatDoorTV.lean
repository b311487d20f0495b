/- Plain mathematics, merged. -/
import Derived.Test.YtefhhigcplemaaaGreatDoorTM
import Derived.Test.YtefhhigcplemaaaGreatDoor12A
import Derived.Test.YtefhhigcplemaaaGreatDoorTA
import Derived.Test.YtefhhigcplemaaaGreatDoorC05e
import Derived.Test.YtefhhigcplemaaaGreatDoorLw
import Derived.Test.YtefhhigcplemaaaGreatDoorDs
import Derived.Laws.EntriesVeiled
import Derived.Test.YtefhhigcplemaaaGreatDoorLX
import Derived.Test.YtefhhigcplemaaaGreatDoorTD
import Derived.Test.YtefhhigcplemaaaGreatDoorTR
import Derived.Test.YtefhhigcplemaaaGreatDoorOMB
/- Contracts: a move read from a word, in the model. (Written by laws/gen_T33.py.) -/
namespace Go.Proofs.YtefhhigcplemaaaGreatDoor
open Go.RowKit Go.ChangeShapes Go.WideShapes Go.ChangeAt
set_option linter.unusedVariables false
set_option linter.unusedSimpArgs false

def mvTup (r : Mv × Bool) : Value := .tuple #[.agg #[.int .i64 (r.1.1), .int .i64 (r.1.2.1), .int .i64 (r.1.2.2.1), .int .i64 (r.1.2.2.2)], .bool r.2]
/-- The kind among the first letters. -/
def kdI (b : UInt8) (i : Nat) : Int := match mvQ b with
  | some k => if k < i then k else -1
  | none => -1
theorem kdI_zero (b : UInt8) : kdI b 0 = -1 := by
  unfold kdI
  split
  · rename_i k h
    have := (mvQ_some h).1.1
    rw [if_neg (by simpa using this)]
  · rfl
theorem kdI_hit (b : UInt8) (i : Nat) (h : mvQ b = some (i : Int)) : kdI b (i + 1) = i := by
  unfold kdI; rw [h]; simp only; rw [if_pos (by omega)]
theorem kdI_miss (b : UInt8) (i : Nat) (h : mvQ b ≠ some (i : Int)) : kdI b (i + 1) = kdI b i := by
  unfold kdI
  split
  · rename_i k hk
    by_cases h1 : k < (i : Int)
    · rw [if_pos h1, if_pos (by omega)]
    · rw [if_neg h1, if_neg]
      intro h2
      exact h (by rw [hk]; congr 1; omega)
  · rfl
theorem kdI_some {b : UInt8} {k : Int} (h : mvQ b = some k) : kdI b 7 = k := by
  have := (mvQ_some h).1.2
  unfold kdI; rw [h]; simp only; rw [if_pos (by omega)]
theorem kdI_none {b : UInt8} (h : mvQ b = none) : kdI b 7 = -1 := by unfold kdI; rw [h]
theorem mvQ_is0 (b : UInt8) : mvQ b = some 0 ↔ b = 80 := by
  constructor
  · intro h; have := (mvQ_some h).2; rw [← this]; decide
  · intro h; rw [h]; decide
theorem mvQ_is1 (b : UInt8) : mvQ b = some 1 ↔ b = 83 := by
  constructor
  · intro h; have := (mvQ_some h).2; rw [← this]; decide
  · intro h; rw [h]; decide
theorem mvQ_is2 (b : UInt8) : mvQ b = some 2 ↔ b = 84 := by
  constructor
  · intro h; have := (mvQ_some h).2; rw [← this]; decide
  · intro h; rw [h]; decide
theorem mvQ_is3 (b : UInt8) : mvQ b = some 3 ↔ b = 76 := by
  constructor
  · intro h; have := (mvQ_some h).2; rw [← this]; decide
  · intro h; rw [h]; decide
theorem mvQ_is4 (b : UInt8) : mvQ b = some 4 ↔ b = 82 := by
  constructor
  · intro h; have := (mvQ_some h).2; rw [← this]; decide
  · intro h; rw [h]; decide
theorem mvQ_is5 (b : UInt8) : mvQ b = some 5 ↔ b = 108 := by
  constructor
  · intro h; have := (mvQ_some h).2; rw [← this]; decide
  · intro h; rw [h]; decide
theorem mvQ_is6 (b : UInt8) : mvQ b = some 6 ↔ b = 114 := by
  constructor
  · intro h; have := (mvQ_some h).2; rw [← this]; decide
  · intro h; rw [h]; decide
theorem byte_eq (b c : UInt8) (h : b = c) : ((b.toNat : Int) == (c.toNat : Int)) = true := by rw [h]; simp
theorem byte_ne (b c : UInt8) (h : b ≠ c) : ((b.toNat : Int) == (c.toNat : Int)) = false := by
  simp
  intro e
  exact h (UInt8.toNat_inj.1 (by omega))
theorem setc4 {B : Nat} {w w' : World} (h : Below B w w') {g : Nat} (hg : B ≤ g) (a b c d : Value) : Below B w ((((w'.setCell ⟨g, 0, none⟩ a).setCell ⟨g, 1, none⟩ b).setCell ⟨g, 2, none⟩ c).setCell ⟨g, 3, none⟩ d) :=
  (((h.setCell (p := ⟨g, 0, none⟩) hg a).setCell (p := ⟨g, 1, none⟩) hg b).setCell (p := ⟨g, 2, none⟩) hg c).setCell (p := ⟨g, 3, none⟩) hg d
theorem four4 {w : World} {g : Nat} {t : TypeId} {a b c d : Value} (h : Blk w g t #[a, b, c, d]) : w.cell? ⟨g, 0, none⟩ = some a ∧ w.cell? ⟨g, 1, none⟩ = some b ∧ w.cell? ⟨g, 2, none⟩ = some c ∧ w.cell? ⟨g, 3, none⟩ = some d ∧ (∀ i, w.frozen? ⟨g, i, none⟩ = false) := by
  have c0 := cell_of_row w g 0 _ _ _ h
  have c1 := cell_of_row w g 1 _ _ _ h
  have c2 := cell_of_row w g 2 _ _ _ h
  have c3 := cell_of_row w g 3 _ _ _ h
  simp at c0 c1 c2 c3
  exact ⟨c0, c1, c2, c3, fun i => free_row h i⟩
theorem blk_set4 {w : World} {g : Nat} {t : TypeId} {p q r s : Value} (h : Blk w g t #[p, q, r, s]) (a b c d : Value) : Blk ((((w.setCell ⟨g, 0, none⟩ a).setCell ⟨g, 1, none⟩ b).setCell ⟨g, 2, none⟩ c).setCell ⟨g, 3, none⟩ d) g t #[a, b, c, d] :=
  (((h.set 0 a).set 1 b).set 2 c).set 3 d
theorem str_of (s : ByteArray) (b : UInt8) (r : List UInt8) (h : s.data.toList = b :: r) : s.size = r.length + 1 ∧ (∀ hh : 0 < s.size, s[0] = b) ∧ s.extract 1 s.size = ⟨r.toArray⟩ := by
  have hs : s = ⟨(b :: r).toArray⟩ := ByteArray.ext (Array.toList_inj.1 (by rw [h]))
  subst hs
  refine ⟨by show (List.toArray (b :: r)).size = _; simp, fun _ => rfl, ?_⟩
  apply ByteArray.ext
  apply Array.toList_inj.1
  rw [ext_data, List.take_of_length_le (by rw [len_data]; exact Nat.le_refl _)]
  rfl

set_option maxRecDepth 100000 in
set_option maxHeartbeats 8000000 in
theorem read12_spec (s : ByteArray) (w : World) (hs : s.size ≤ 1048576) :
    Calls Tryz.prog 74 #[.string s] w fun e w' => e = .returned (mvTup (rmS s.data.toList)) ∧ Gr w w' := by
  have P := Blk.new w 39 #[.int .i64 0, .int .i64 0, .int .i64 0, .int .i64 0]
  have hG0 : Gr w (w.alloc (.cells #[.int .i64 0, .int .i64 0, .int .i64 0, .int .i64 0] 39)) := (by repeat (first | with_reducible exact Gr.refl _ | with_reducible refine Gr.alloc ?_ _ | with_reducible refine Gr.gr ?_ _ _ | with_reducible refine Gr.drew ?_ | with_reducible refine Gr.drewN ?_ _))
  cases hl : s.data.toList with
  | nil =>
    have hs0 : s.size = 0 := by have := len_data s; rw [hl] at this; simpa using this.symm
    have hp2 : ¬ ((0 : Int) < (s.size : Int)) := by omega
    have HR := Lib.hid (show mvTup (rmS []) = .tuple #[.agg #[.int .i64 (0), .int .i64 (0), .int .i64 (0), .int .i64 (0)], .bool false] from rfl)
    rw [HR.out]
    clear hl HR
    go_enter Tryz.func74, Tryz.ntmps74
    go_wp2
    generalize w.alloc (.cells #[.int .i64 0, .int .i64 0, .int .i64 0, .int .i64 0] 39) = v at *
    go_loopw [4, 5] (fun x i wr => ∃ k : Nat, k ≤ 7 ∧ x = .int .i64 (-1) ∧ i = .int .i64 k ∧ Gr v wr) (fun _ i _ => 7 - (intOf i).toNat)
    case atStart => exact ⟨0, by omega, rfl, rfl, Gr.refl _⟩
    case round =>
      obtain ⟨k, hk, rfl, rfl, hG⟩ := hrel
      by_cases hlt : k < 7
      · have hk7 : (k : Int) < 7 := by omega
        go_wp2
        refine region_grows [] (by kernel_rfl) (by kernel_rfl) ?_
        (refine lz_one rfl (fun K hK => ?_); refine ⟨rfl, ?_⟩; apply Exists.intro; refine ⟨fun wz hz => ?_, ?_⟩; (focus (skip; go_simp; (first | done | exact ⟨rfl, rfl⟩ | trivial))); (go_simp; refine hK _ _ ?_; clear hK K))
        (refine lz_one rfl (fun K hK => ?_); refine ⟨rfl, ?_⟩; apply Exists.intro; refine ⟨fun wz hz => ?_, ?_⟩; (focus (skip; go_simp; (first | done | exact ⟨rfl, rfl⟩ | trivial))); (go_simp; refine hK _ _ ?_; clear hK K))
        (refine lz_one rfl (fun K hK => ?_); refine ⟨rfl, ?_⟩; apply Exists.intro; refine ⟨fun wz hz => ?_, ?_⟩; (focus (skip; go_simp; (first | done | exact ⟨rfl, rfl⟩ | trivial))); (go_simp; refine hK _ _ ?_; clear hK K))
        (refine lz_one rfl (fun K hK => ?_); refine ⟨rfl, ?_⟩; apply Exists.intro; refine ⟨fun wz hz => ?_, ?_⟩; (focus (skip; go_simp; (first | done | exact ⟨rfl, rfl⟩ | trivial))); (go_simp; refine hK _ _ ?_; clear hK K))
        (refine lz_skip (fun K hK => ?_); refine ⟨rfl, ?_⟩; go_simp; refine hK _ _ ?_; clear hK K)
        (refine lz_skip (fun K hK => ?_); refine ⟨rfl, ?_⟩; go_simp; refine hK _ _ ?_; clear hK K)
        (refine lz_skip (fun K hK => ?_); refine ⟨rfl, ?_⟩; go_simp; refine hK _ _ ?_; clear hK K)
        (refine lz_skip (fun K hK => ?_); refine ⟨rfl, ?_⟩; go_simp; refine hK _ _ ?_; clear hK K)
        (refine lz_skip (fun K hK => ?_); refine ⟨rfl, ?_⟩; go_simp; refine hK _ _ ?_; clear hK K)
        (refine lz_one rfl (fun K hK => ?_); refine ⟨rfl, ?_⟩; apply Exists.intro; refine ⟨fun wz hz => ?_, ?_⟩; (focus (skip; go_simp; (first | done | exact ⟨rfl, rfl⟩ | trivial))); (go_simp; refine hK _ _ ?_; clear hK K))
        refine lz_nil ?_
        intro w3 hz3 _
        go_wp2
        go_roundw
        case rel => exact ⟨k + 1, by omega, rfl, by go_num, hG.trans hz3⟩
        case measure => simp [intOf]; omega
      · obtain rfl : k = 7 := by omega
        have P2 := P.gr hG
        obtain ⟨c0, c1, c2, c3, cf⟩ := four4 P2
        have cl := P2.lt
        obtain ⟨r0, r1, r2, r3, -⟩ := four4 (blk_set4 P2 (.int .i64 0) (.int .i64 0) (.int .i64 0) (.int .i64 0))
        go_wp2
        ((try simp only [Exit.inBlock, Exit.then]); refine bodyPost_ret (v := .tuple #[.agg #[.int .i64 (0), .int .i64 (0), .int .i64 (0), .int .i64 (0)], .bool false]) (by simp [results, Tryz.results74, go_sem, r0, r1, r2, r3, World.cell?_setCell_same']) rfl ?_)
        exact ⟨rfl, Gr.of_below (setc4 (hG0.trans hG).below (Nat.le_refl _) _ _ _ _)⟩
  | cons b r =>
    obtain ⟨hz, h0, he⟩ := str_of s b r hl
    have hpos : 0 < s.size := by omega
    have hb0 := h0 hpos
    have HE := Lib.hid he
    have HSP := Lib.hid (fun W => splitC_spec ⟨r.toArray⟩ W (by show (List.toArray r).size ≤ _; rw [List.size_toArray]; omega))
    have HW := Lib.hid (fun p hp => spC_size r p hp)
    have hrl : r.length ≤ 1048576 := by omega
    have hbk := Lib.hid (fun k (h : mvQ b = some k) => kdI_some h)
    have hbn := Lib.hid (fun (h : mvQ b = none) => kdI_none h)
    have HR := Lib.hid (show rmS (b :: r) = match mvQ b with
      | none => ((0, 0, 0, 0), false)
      | some k => if mvF k = true then rmP k (spC r) else ((k, 0, 0, 0), r.isEmpty) from rfl)
    have hp1 : ¬ ((s.size : Int) ≤ 0) := by omega
    have hp2 : (0 : Int) < (s.size : Int) := by omega
    clear hl h0
    go_enter Tryz.func74, Tryz.ntmps74
    go_wp2
    generalize w.alloc (.cells #[.int .i64 0, .int .i64 0, .int .i64 0, .int .i64 0] 39) = v at *
    go_loopw [4, 5] (fun x i wr => ∃ k : Nat, k ≤ 7 ∧ x = .int .i64 (kdI b k) ∧ i = .int .i64 k ∧ Gr v wr) (fun _ i _ => 7 - (intOf i).toNat)
    case atStart => exact ⟨0, by omega, by rw [kdI_zero], rfl, Gr.refl _⟩
    case round =>
      obtain ⟨k, hk, rfl, rfl, hG⟩ := hrel
      by_cases hlt : k < 7
      · rcases (show k = 0 ∨ k = 1 ∨ k = 2 ∨ k = 3 ∨ k = 4 ∨ k = 5 ∨ k = 6 by omega) with rfl | rfl | rfl | rfl | rfl | rfl | rfl
        · by_cases hb : b = 80
          · have HK := Lib.hid (kdI_hit b 0 ((mvQ_is0 b).2 hb))
            have hbb : ((b.toNat : Int) == (({ data := #[80, 83, 84, 76, 82, 108, 114] } : ByteArray)[0].toNat : Int)) = true := by rw [hb]; rfl
            clear hb
            go_wp2
            refine region_grows [] (by kernel_rfl) (by kernel_rfl) ?_
            (refine lz_one rfl (fun K hK => ?_); refine ⟨rfl, ?_⟩; apply Exists.intro; refine ⟨fun wz hz => ?_, ?_⟩; (focus (skip; go_simp; (first | done | exact ⟨rfl, rfl⟩ | trivial))); (go_simp; refine hK _ _ ?_; clear hK K))
            (refine lz_one rfl (fun K hK => ?_); refine ⟨rfl, ?_⟩; apply Exists.intro; refine ⟨fun wz hz => ?_, ?_⟩; (focus (skip; go_simp; (first | done | exact ⟨rfl, rfl⟩ | trivial))); (go_simp; refine hK _ _ ?_; clear hK K))
            (refine lz_one rfl (fun K hK => ?_); refine ⟨rfl, ?_⟩; apply Exists.intro; refine ⟨fun wz hz => ?_, ?_⟩; (focus (skip; go_simp; (first | done | exact ⟨rfl, rfl⟩ | trivial))); (go_simp; refine hK _ _ ?_; clear hK K))
            (refine lz_one rfl (fun K hK => ?_); refine ⟨rfl, ?_⟩; apply Exists.intro; refine ⟨fun wz hz => ?_, ?_⟩; (focus (skip; go_simp; (first | done | exact ⟨rfl, rfl⟩ | trivial))); (go_simp; refine hK _ _ ?_; clear hK K))
            (refine lz_one rfl (fun K hK => ?_); refine ⟨rfl, ?_⟩; apply Exists.intro; refine ⟨fun wz hz => ?_, ?_⟩; (focus (skip; go_simp; (first | done | exact ⟨rfl, rfl⟩ | trivial))); (go_simp; refine hK _ _ ?_; clear hK K))
            (refine lz_one rfl (fun K hK => ?_); refine ⟨rfl, ?_⟩; apply Exists.intro; refine ⟨fun wz hz => ?_, ?_⟩; (focus (skip; go_simp; (first | done | exact ⟨rfl, rfl⟩ | trivial))); (go_simp; refine hK _ _ ?_; clear hK K))
            (refine lz_one rfl (fun K hK => ?_); refine ⟨rfl, ?_⟩; apply Exists.intro; refine ⟨fun wz hz => ?_, ?_⟩; (focus (skip; go_simp; (first | done | exact ⟨rfl, rfl⟩ | trivial))); (go_simp; refine hK _ _ ?_; clear hK K))
            (refine lz_one rfl (fun K hK => ?_); refine ⟨rfl, ?_⟩; apply Exists.intro; refine ⟨fun wz hz => ?_, ?_⟩; (focus (skip; go_simp; (first | done | exact ⟨rfl, rfl⟩ | trivial))); (go_simp; refine hK _ _ ?_; clear hK K))
            (refine lz_one rfl (fun K hK => ?_); refine ⟨rfl, ?_⟩; apply Exists.intro; refine ⟨fun wz hz => ?_, ?_⟩; (focus (skip; go_simp; (first | done | exact ⟨rfl, rfl⟩ | trivial))); (go_simp; refine hK _ _ ?_; clear hK K))
            (refine lz_one rfl (fun K hK => ?_); refine ⟨rfl, ?_⟩; apply Exists.intro; refine ⟨fun wz hz => ?_, ?_⟩; (focus (skip; go_simp; (first | done | exact ⟨rfl, rfl⟩ | trivial))); (go_simp; refine hK _ _ ?_; clear hK K))
            refine lz_nil ?_
            intro w3 hz3 _
            go_wp2
            go_roundw
            case rel => exact ⟨0 + 1, by omega, by rw [HK.out]; first | rfl | simp, by first | rfl | go_num, hG.trans hz3⟩
            case measure => simp [intOf]
          · have HK := Lib.hid (kdI_miss b 0 (fun h => hb ((mvQ_is0 b).1 h)))
            have hbb : ((b.toNat : Int) == (({ data := #[80, 83, 84, 76, 82, 108, 114] } : ByteArray)[0].toNat : Int)) = false := byte_ne b 80 hb
            generalize kdI b 0 = z at *
            clear hb
            go_wp2
            refine region_grows [] (by kernel_rfl) (by kernel_rfl) ?_
            (refine lz_one rfl (fun K hK => ?_); refine ⟨rfl, ?_⟩; apply Exists.intro; refine ⟨fun wz hz => ?_, ?_⟩; (focus (skip; go_simp; (first | done | exact ⟨rfl, rfl⟩ | trivial))); (go_simp; refine hK _ _ ?_; clear hK K))
            (refine lz_one rfl (fun K hK => ?_); refine ⟨rfl, ?_⟩; apply Exists.intro; refine ⟨fun wz hz => ?_, ?_⟩; (focus (skip; go_simp; (first | done | exact ⟨rfl, rfl⟩ | trivial))); (go_simp; refine hK _ _ ?_; clear hK K))
            (refine lz_one rfl (fun K hK => ?_); refine ⟨rfl, ?_⟩; apply Exists.intro; refine ⟨fun wz hz => ?_, ?_⟩; (focus (skip; go_simp; (first | done | exact ⟨rfl, rfl⟩ | trivial))); (go_simp; refine hK _ _ ?_; clear hK K))
            (refine lz_one rfl (fun K hK => ?_); refine ⟨rfl, ?_⟩; apply Exists.intro; refine ⟨fun wz hz => ?_, ?_⟩; (focus (skip; go_simp; (first | done | exact ⟨rfl, rfl⟩ | trivial))); (go_simp; refine hK _ _ ?_; clear hK K))
            (refine lz_one rfl (fun K hK => ?_); refine ⟨rfl, ?_⟩; apply Exists.intro; refine ⟨fun wz hz => ?_, ?_⟩; (focus (skip; go_simp; (first | done | exact ⟨rfl, rfl⟩ | trivial))); (go_simp; refine hK _ _ ?_; clear hK K))
            (refine lz_one rfl (fun K hK => ?_); refine ⟨rfl, ?_⟩; apply Exists.intro; refine ⟨fun wz hz => ?_, ?_⟩; (focus (skip; go_simp; (first | done | exact ⟨rfl, rfl⟩ | trivial))); (go_simp; refine hK _ _ ?_; clear hK K))
            (refine lz_one rfl (fun K hK => ?_); refine ⟨rfl, ?_⟩; apply Exists.intro; refine ⟨fun wz hz => ?_, ?_⟩; (focus (skip; go_simp; (first | done | exact ⟨rfl, rfl⟩ | trivial))); (go_simp; refine hK _ _ ?_; clear hK K))
            (refine lz_one rfl (fun K hK => ?_); refine ⟨rfl, ?_⟩; apply Exists.intro; refine ⟨fun wz hz => ?_, ?_⟩; (focus (skip; go_simp; (first | done | exact ⟨rfl, rfl⟩ | trivial))); (go_simp; refine hK _ _ ?_; clear hK K))
            (refine lz_one rfl (fun K hK => ?_); refine ⟨rfl, ?_⟩; apply Exists.intro; refine ⟨fun wz hz => ?_, ?_⟩; (focus (skip; go_simp; (first | done | exact ⟨rfl, rfl⟩ | trivial))); (go_simp; refine hK _ _ ?_; clear hK K))
            (refine lz_one rfl (fun K hK => ?_); refine ⟨rfl, ?_⟩; apply Exists.intro; refine ⟨fun wz hz => ?_, ?_⟩; (focus (skip; go_simp; (first | done | exact ⟨rfl, rfl⟩ | trivial))); (go_simp; refine hK _ _ ?_; clear hK K))
            refine lz_nil ?_
            intro w3 hz3 _
            go_wp2
            go_roundw
            case rel => exact ⟨0 + 1, by omega, by rw [HK.out], by first | rfl | go_num, hG.trans hz3⟩
            case measure => simp [intOf]
        · by_cases hb : b = 83
          · have HK := Lib.hid (kdI_hit b 1 ((mvQ_is1 b).2 hb))
            have hbb : ((b.toNat : Int) == (({ data := #[80, 83, 84, 76, 82, 108, 114] } : ByteArray)[1].toNat : Int)) = true := by rw [hb]; rfl
            clear hb
            go_wp2
            refine region_grows [] (by kernel_rfl) (by kernel_rfl) ?_
            (refine lz_one rfl (fun K hK => ?_); refine ⟨rfl, ?_⟩; apply Exists.intro; refine ⟨fun wz hz => ?_, ?_⟩; (focus (skip; go_simp; (first | done | exact ⟨rfl, rfl⟩ | trivial))); (go_simp; refine hK _ _ ?_; clear hK K))
            (refine lz_one rfl (fun K hK => ?_); refine ⟨rfl, ?_⟩; apply Exists.intro; refine ⟨fun wz hz => ?_, ?_⟩; (focus (skip; go_simp; (first | done | exact ⟨rfl, rfl⟩ | trivial))); (go_simp; refine hK _ _ ?_; clear hK K))
            (refine lz_one rfl (fun K hK => ?_); refine ⟨rfl, ?_⟩; apply Exists.intro; refine ⟨fun wz hz => ?_, ?_⟩; (focus (skip; go_simp; (first | done | exact ⟨rfl, rfl⟩ | trivial))); (go_simp; refine hK _ _ ?_; clear hK K))
            (refine lz_one rfl (fun K hK => ?_); refine ⟨rfl, ?_⟩; apply Exists.intro; refine ⟨fun wz hz => ?_, ?_⟩; (focus (skip; go_simp; (first | done | exact ⟨rfl, rfl⟩ | trivial))); (go_simp; refine hK _ _ ?_; clear hK K))
            (refine lz_one rfl (fun K hK => ?_); refine ⟨rfl, ?_⟩; apply Exists.intro; refine ⟨fun wz hz => ?_, ?_⟩; (focus (skip; go_simp; (first | done | exact ⟨rfl, rfl⟩ | trivial))); (go_simp; refine hK _ _ ?_; clear hK K))
            (refine lz_one rfl (fun K hK => ?_); refine ⟨rfl, ?_⟩; apply Exists.intro; refine ⟨fun wz hz => ?_, ?_⟩; (focus (skip; go_simp; (first | done | exact ⟨rfl, rfl⟩ | trivial))); (go_simp; refine hK _ _ ?_; clear hK K))
            (refine lz_one rfl (fun K hK => ?_); refine ⟨rfl, ?_⟩; apply Exists.intro; refine ⟨fun wz hz => ?_, ?_⟩; (focus (skip; go_simp; (first | done | exact ⟨rfl, rfl⟩ | trivial))); (go_simp; refine hK _ _ ?_; clear hK K))
            (refine lz_one rfl (fun K hK => ?_); refine ⟨rfl, ?_⟩; apply Exists.intro; refine ⟨fun wz hz => ?_, ?_⟩; (focus (skip; go_simp; (first | done | exact ⟨rfl, rfl⟩ | trivial))); (go_simp; refine hK _ _ ?_; clear hK K))
            (refine lz_one rfl (fun K hK => ?_); refine ⟨rfl, ?_⟩; apply Exists.intro; refine ⟨fun wz hz => ?_, ?_⟩; (focus (skip; go_simp; (first | done | exact ⟨rfl, rfl⟩ | trivial))); (go_simp; refine hK _ _ ?_; clear hK K))
            (refine lz_one rfl (fun K hK => ?_); refine ⟨rfl, ?_⟩; apply Exists.intro; refine ⟨fun wz hz => ?_, ?_⟩; (focus (skip; go_simp; (first | done | exact ⟨rfl, rfl⟩ | trivial))); (go_simp; refine hK _ _ ?_; clear hK K))
            refine lz_nil ?_
            intro w3 hz3 _
            go_wp2
            go_roundw
            case rel => exact ⟨1 + 1, by omega, by rw [HK.out]; first | rfl | simp, by first | rfl | go_num, hG.trans hz3⟩
            case measure => simp [intOf]
          · have HK := Lib.hid (kdI_miss b 1 (fun h => hb ((mvQ_is1 b).1 h)))
            have hbb : ((b.toNat : Int) == (({ data := #[80, 83, 84, 76, 82, 108, 114] } : ByteArray)[1].toNat : Int)) = false := byte_ne b 83 hb
            generalize kdI b 1 = z at *
            clear hb
            go_wp2
            refine region_grows [] (by kernel_rfl) (by kernel_rfl) ?_
            (refine lz_one rfl (fun K hK => ?_); refine ⟨rfl, ?_⟩; apply Exists.intro; refine ⟨fun wz hz => ?_, ?_⟩; (focus (skip; go_simp; (first | done | exact ⟨rfl, rfl⟩ | trivial))); (go_simp; refine hK _ _ ?_; clear hK K))
            (refine lz_one rfl (fun K hK => ?_); refine ⟨rfl, ?_⟩; apply Exists.intro; refine ⟨fun wz hz => ?_, ?_⟩; (focus (skip; go_simp; (first | done | exact ⟨rfl, rfl⟩ | trivial))); (go_simp; refine hK _ _ ?_; clear hK K))
            (refine lz_one rfl (fun K hK => ?_); refine ⟨rfl, ?_⟩; apply Exists.intro; refine ⟨fun wz hz => ?_, ?_⟩; (focus (skip; go_simp; (first | done | exact ⟨rfl, rfl⟩ | trivial))); (go_simp; refine hK _ _ ?_; clear hK K))
            (refine lz_one rfl (fun K hK => ?_); refine ⟨rfl, ?_⟩; apply Exists.intro; refine ⟨fun wz hz => ?_, ?_⟩; (focus (skip; go_simp; (first | done | exact ⟨rfl, rfl⟩ | trivial))); (go_simp; refine hK _ _ ?_; clear hK K))
            (refine lz_one rfl (fun K hK => ?_); refine ⟨rfl, ?_⟩; apply Exists.intro; refine ⟨fun wz hz => ?_, ?_⟩; (focus (skip; go_simp; (first | done | exact ⟨rfl, rfl⟩ | trivial))); (go_simp; refine hK _ _ ?_; clear hK K))
            (refine lz_one rfl (fun K hK => ?_); refine ⟨rfl, ?_⟩; apply Exists.intro; refine ⟨fun wz hz => ?_, ?_⟩; (focus (skip; go_simp; (first | done | exact ⟨rfl, rfl⟩ | trivial))); (go_simp; refine hK _ _ ?_; clear hK K))
            (refine lz_one rfl (fun K hK => ?_); refine ⟨rfl, ?_⟩; apply Exists.intro; refine ⟨fun wz hz => ?_, ?_⟩; (focus (skip; go_simp; (first | done | exact ⟨rfl, rfl⟩ | trivial))); (go_simp; refine hK _ _ ?_; clear hK K))
            (refine lz_one rfl (fun K hK => ?_); refine ⟨rfl, ?_⟩; apply Exists.intro; refine ⟨fun wz hz => ?_, ?_⟩; (focus (skip; go_simp; (first | done | exact ⟨rfl, rfl⟩ | trivial))); (go_simp; refine hK _ _ ?_; clear hK K))
            (refine lz_one rfl (fun K hK => ?_); refine ⟨rfl, ?_⟩; apply Exists.intro; refine ⟨fun wz hz => ?_, ?_⟩; (focus (skip; go_simp; (first | done | exact ⟨rfl, rfl⟩ | trivial))); (go_simp; refine hK _ _ ?_; clear hK K))
            (refine lz_one rfl (fun K hK => ?_); refine ⟨rfl, ?_⟩; apply Exists.intro; refine ⟨fun wz hz => ?_, ?_⟩; (focus (skip; go_simp; (first | done | exact ⟨rfl, rfl⟩ | trivial))); (go_simp; refine hK _ _ ?_; clear hK K))
            refine lz_nil ?_
            intro w3 hz3 _
            go_wp2
            go_roundw
            case rel => exact ⟨1 + 1, by omega, by rw [HK.out], by first | rfl | go_num, hG.trans hz3⟩
            case measure => simp [intOf]
        · by_cases hb : b = 84
          · have HK := Lib.hid (kdI_hit b 2 ((mvQ_is2 b).2 hb))
            have hbb : ((b.toNat : Int) == (({ data := #[80, 83, 84, 76, 82, 108, 114] } : ByteArray)[2].toNat : Int)) = true := by rw [hb]; rfl
            clear hb
            go_wp2
            refine region_grows [] (by kernel_rfl) (by kernel_rfl) ?_
            (refine lz_one rfl (fun K hK => ?_); refine ⟨rfl, ?_⟩; apply Exists.intro; refine ⟨fun wz hz => ?_, ?_⟩; (focus (skip; go_simp; (first | done | exact ⟨rfl, rfl⟩ | trivial))); (go_simp; refine hK _ _ ?_; clear hK K))
            (refine lz_one rfl (fun K hK => ?_); refine ⟨rfl, ?_⟩; apply Exists.intro; refine ⟨fun wz hz => ?_, ?_⟩; (focus (skip; go_simp; (first | done | exact ⟨rfl, rfl⟩ | trivial))); (go_simp; refine hK _ _ ?_; clear hK K))
            (refine lz_one rfl (fun K hK => ?_); refine ⟨rfl, ?_⟩; apply Exists.intro; refine ⟨fun wz hz => ?_, ?_⟩; (focus (skip; go_simp; (first | done | exact ⟨rfl, rfl⟩ | trivial))); (go_simp; refine hK _ _ ?_; clear hK K))
            (refine lz_one rfl (fun K hK => ?_); refine ⟨rfl, ?_⟩; apply Exists.intro; refine ⟨fun wz hz => ?_, ?_⟩; (focus (skip; go_simp; (first | done | exact ⟨rfl, rfl⟩ | trivial))); (go_simp; refine hK _ _ ?_; clear hK K))
            (refine lz_one rfl (fun K hK => ?_); refine ⟨rfl, ?_⟩; apply Exists.intro; refine ⟨fun wz hz => ?_, ?_⟩; (focus (skip; go_simp; (first | done | exact ⟨rfl, rfl⟩ | trivial))); (go_simp; refine hK _ _ ?_; clear hK K))
            (refine lz_one rfl (fun K hK => ?_); refine ⟨rfl, ?_⟩; apply Exists.intro; refine ⟨fun wz hz => ?_, ?_⟩; (focus (skip; go_simp; (first | done | exact ⟨rfl, rfl⟩ | trivial))); (go_simp; refine hK _ _ ?_; clear hK K))
            (refine lz_one rfl (fun K hK => ?_); refine ⟨rfl, ?_⟩; apply Exists.intro; refine ⟨fun wz hz => ?_, ?_⟩; (focus (skip; go_simp; (first | done | exact ⟨rfl, rfl⟩ | trivial))); (go_simp; refine hK _ _ ?_; clear hK K))
            (refine lz_one rfl (fun K hK => ?_); refine ⟨rfl, ?_⟩; apply Exists.intro; refine ⟨fun wz hz => ?_, ?_⟩; (focus (skip; go_simp; (first | done | exact ⟨rfl, rfl⟩ | trivial))); (go_simp; refine hK _ _ ?_; clear hK K))
            (refine lz_one rfl (fun K hK => ?_); refine ⟨rfl, ?_⟩; apply Exists.intro; refine ⟨fun wz hz => ?_, ?_⟩; (focus (skip; go_simp; (first | done | exact ⟨rfl, rfl⟩ | trivial))); (go_simp; refine hK _ _ ?_; clear hK K))
            (refine lz_one rfl (fun K hK => ?_); refine ⟨rfl, ?_⟩; apply Exists.intro; refine ⟨fun wz hz => ?_, ?_⟩; (focus (skip; go_simp; (first | done | exact ⟨rfl, rfl⟩ | trivial))); (go_simp; refine hK _ _ ?_; clear hK K))
            refine lz_nil ?_
            intro w3 hz3 _
            go_wp2
            go_roundw
            case rel => exact ⟨2 + 1, by omega, by rw [HK.out]; first | rfl | simp, by first | rfl | go_num, hG.trans hz3⟩
            case measure => simp [intOf]
          · have HK := Lib.hid (kdI_miss b 2 (fun h => hb ((mvQ_is2 b).1 h)))
            have hbb : ((b.toNat : Int) == (({ data := #[80, 83, 84, 76, 82, 108, 114] } : ByteArray)[2].toNat : Int)) = false := byte_ne b 84 hb
            generalize kdI b 2 = z at *
            clear hb
            go_wp2
            refine region_grows [] (by kernel_rfl) (by kernel_rfl) ?_
            (refine lz_one rfl (fun K hK => ?_); refine ⟨rfl, ?_⟩; apply Exists.intro; refine ⟨fun wz hz => ?_, ?_⟩; (focus (skip; go_simp; (first | done | exact ⟨rfl, rfl⟩ | trivial))); (go_simp; refine hK _ _ ?_; clear hK K))
            (refine lz_one rfl (fun K hK => ?_); refine ⟨rfl, ?_⟩; apply Exists.intro; refine ⟨fun wz hz => ?_, ?_⟩; (focus (skip; go_simp; (first | done | exact ⟨rfl, rfl⟩ | trivial))); (go_simp; refine hK _ _ ?_; clear hK K))
            (refine lz_one rfl (fun K hK => ?_); refine ⟨rfl, ?_⟩; apply Exists.intro; refine ⟨fun wz hz => ?_, ?_⟩; (focus (skip; go_simp; (first | done | exact ⟨rfl, rfl⟩ | trivial))); (go_simp; refine hK _ _ ?_; clear hK K))
            (refine lz_one rfl (fun K hK => ?_); refine ⟨rfl, ?_⟩; apply Exists.intro; refine ⟨fun wz hz => ?_, ?_⟩; (focus (skip; go_simp; (first | done | exact ⟨rfl, rfl⟩ | trivial))); (go_simp; refine hK _ _ ?_; clear hK K))
            (refine lz_one rfl (fun K hK => ?_); refine ⟨rfl, ?_⟩; apply Exists.intro; refine ⟨fun wz hz => ?_, ?_⟩; (focus (skip; go_simp; (first | done | exact ⟨rfl, rfl⟩ | trivial))); (go_simp; refine hK _ _ ?_; clear hK K))
            (refine lz_one rfl (fun K hK => ?_); refine ⟨rfl, ?_⟩; apply Exists.intro; refine ⟨fun wz hz => ?_, ?_⟩; (focus (skip; go_simp; (first | done | exact ⟨rfl, rfl⟩ | trivial))); (go_simp; refine hK _ _ ?_; clear hK K))
            (refine lz_one rfl (fun K hK => ?_); refine ⟨rfl, ?_⟩; apply Exists.intro; refine ⟨fun wz hz => ?_, ?_⟩; (focus (skip; go_simp; (first | done | exact ⟨rfl, rfl⟩ | trivial))); (go_simp; refine hK _ _ ?_; clear hK K))
            (refine lz_one rfl (fun K hK => ?_); refine ⟨rfl, ?_⟩; apply Exists.intro; refine ⟨fun wz hz => ?_, ?_⟩; (focus (skip; go_simp; (first | done | exact ⟨rfl, rfl⟩ | trivial))); (go_simp; refine hK _ _ ?_; clear hK K))
            (refine lz_one rfl (fun K hK => ?_); refine ⟨rfl, ?_⟩; apply Exists.intro; refine ⟨fun wz hz => ?_, ?_⟩; (focus (skip; go_simp; (first | done | exact ⟨rfl, rfl⟩ | trivial))); (go_simp; refine hK _ _ ?_; clear hK K))
            (refine lz_one rfl (fun K hK => ?_); refine ⟨rfl, ?_⟩; apply Exists.intro; refine ⟨fun wz hz => ?_, ?_⟩; (focus (skip; go_simp; (first | done | exact ⟨rfl, rfl⟩ | trivial))); (go_simp; refine hK _ _ ?_; clear hK K))
            refine lz_nil ?_
            intro w3 hz3 _
            go_wp2
            go_roundw
            case rel => exact ⟨2 + 1, by omega, by rw [HK.out], by first | rfl | go_num, hG.trans hz3⟩
            case measure => simp [intOf]
        · by_cases hb : b = 76
          · have HK := Lib.hid (kdI_hit b 3 ((mvQ_is3 b).2 hb))
            have hbb : ((b.toNat : Int) == (({ data := #[80, 83, 84, 76, 82, 108, 114] } : ByteArray)[3].toNat : Int)) = true := by rw [hb]; rfl
            clear hb
            go_wp2
            refine region_grows [] (by kernel_rfl) (by kernel_rfl) ?_
            (refine lz_one rfl (fun K hK => ?_); refine ⟨rfl, ?_⟩; apply Exists.intro; refine ⟨fun wz hz => ?_, ?_⟩; (focus (skip; go_simp; (first | done | exact ⟨rfl, rfl⟩ | trivial))); (go_simp; refine hK _ _ ?_; clear hK K))
            (refine lz_one rfl (fun K hK => ?_); refine ⟨rfl, ?_⟩; apply Exists.intro; refine ⟨fun wz hz => ?_, ?_⟩; (focus (skip; go_simp; (first | done | exact ⟨rfl, rfl⟩ | trivial))); (go_simp; refine hK _ _ ?_; clear hK K))
            (refine lz_one rfl (fun K hK => ?_); refine ⟨rfl, ?_⟩; apply Exists.intro; refine ⟨fun wz hz => ?_, ?_⟩; (focus (skip; go_simp; (first | done | exact ⟨rfl, rfl⟩ | trivial))); (go_simp; refine hK _ _ ?_; clear hK K))
            (refine lz_one rfl (fun K hK => ?_); refine ⟨rfl, ?_⟩; apply Exists.intro; refine ⟨fun wz hz => ?_, ?_⟩; (focus (skip; go_simp; (first | done | exact ⟨rfl, rfl⟩ | trivial))); (go_simp; refine hK _ _ ?_; clear hK K))
            (refine lz_one rfl (fun K hK => ?_); refine ⟨rfl, ?_⟩; apply Exists.intro; refine ⟨fun wz hz => ?_, ?_⟩; (focus (skip; go_simp; (first | done | exact ⟨rfl, rfl⟩ | trivial))); (go_simp; refine hK _ _ ?_; clear hK K))
            (refine lz_one rfl (fun K hK => ?_); refine ⟨rfl, ?_⟩; apply Exists.intro; refine ⟨fun wz hz => ?_, ?_⟩; (focus (skip; go_simp; (first | done | exact ⟨rfl, rfl⟩ | trivial))); (go_simp; refine hK _ _ ?_; clear hK K))
            (refine lz_one rfl (fun K hK => ?_); refine ⟨rfl, ?_⟩; apply Exists.intro; refine ⟨fun wz hz => ?_, ?_⟩; (focus (skip; go_simp; (first | done | exact ⟨rfl, rfl⟩ | trivial))); (go_simp; refine hK _ _ ?_; clear hK K))
            (refine lz_one rfl (fun K hK => ?_); refine ⟨rfl, ?_⟩; apply Exists.intro; refine ⟨fun wz hz => ?_, ?_⟩; (focus (skip; go_simp; (first | done | exact ⟨rfl, rfl⟩ | trivial))); (go_simp; refine hK _ _ ?_; clear hK K))
            (refine lz_one rfl (fun K hK => ?_); refine ⟨rfl, ?_⟩; apply Exists.intro; refine ⟨fun wz hz => ?_, ?_⟩; (focus (skip; go_simp; (first | done | exact ⟨rfl, rfl⟩ | trivial))); (go_simp; refine hK _ _ ?_; clear hK K))
            (refine lz_one rfl (fun K hK => ?_); refine ⟨rfl, ?_⟩; apply Exists.intro; refine ⟨fun wz hz => ?_, ?_⟩; (focus (skip; go_simp; (first | done | exact ⟨rfl, rfl⟩ | trivial))); (go_simp; refine hK _ _ ?_; clear hK K))
            refine lz_nil ?_
            intro w3 hz3 _
            go_wp2
            go_roundw
            case rel => exact ⟨3 + 1, by omega, by rw [HK.out]; first | rfl | simp, by first | rfl | go_num, hG.trans hz3⟩
            case measure => simp [intOf]
          · have HK := Lib.hid (kdI_miss b 3 (fun h => hb ((mvQ_is3 b).1 h)))
            have hbb : ((b.toNat : Int) == (({ data := #[80, 83, 84, 76, 82, 108, 114] } : ByteArray)[3].toNat : Int)) = false := byte_ne b 76 hb
            generalize kdI b 3 = z at *
            clear hb
            go_wp2
            refine region_grows [] (by kernel_rfl) (by kernel_rfl) ?_
            (refine lz_one rfl (fun K hK => ?_); refine ⟨rfl, ?_⟩; apply Exists.intro; refine ⟨fun wz hz => ?_, ?_⟩; (focus (skip; go_simp; (first | done | exact ⟨rfl, rfl⟩ | trivial))); (go_simp; refine hK _ _ ?_; clear hK K))
            (refine lz_one rfl (fun K hK => ?_); refine ⟨rfl, ?_⟩; apply Exists.intro; refine ⟨fun wz hz => ?_, ?_⟩; (focus (skip; go_simp; (first | done | exact ⟨rfl, rfl⟩ | trivial))); (go_simp; refine hK _ _ ?_; clear hK K))
            (refine lz_one rfl (fun K hK => ?_); refine ⟨rfl, ?_⟩; apply Exists.intro; refine ⟨fun wz hz => ?_, ?_⟩; (focus (skip; go_simp; (first | done | exact ⟨rfl, rfl⟩ | trivial))); (go_simp; refine hK _ _ ?_; clear hK K))
            (refine lz_one rfl (fun K hK => ?_); refine ⟨rfl, ?_⟩; apply Exists.intro; refine ⟨fun wz hz => ?_, ?_⟩; (focus (skip; go_simp; (first | done | exact ⟨rfl, rfl⟩ | trivial))); (go_simp; refine hK _ _ ?_; clear hK K))
            (refine lz_one rfl (fun K hK => ?_); refine ⟨rfl, ?_⟩; apply Exists.intro; refine ⟨fun wz hz => ?_, ?_⟩; (focus (skip; go_simp; (first | done | exact ⟨rfl, rfl⟩ | trivial))); (go_simp; refine hK _ _ ?_; clear hK K))
            (refine lz_one rfl (fun K hK => ?_); refine ⟨rfl, ?_⟩; apply Exists.intro; refine ⟨fun wz hz => ?_, ?_⟩; (focus (skip; go_simp; (first | done | exact ⟨rfl, rfl⟩ | trivial))); (go_simp; refine hK _ _ ?_; clear hK K))
            (refine lz_one rfl (fun K hK => ?_); refine ⟨rfl, ?_⟩; apply Exists.intro; refine ⟨fun wz hz => ?_, ?_⟩; (focus (skip; go_simp; (first | done | exact ⟨rfl, rfl⟩ | trivial))); (go_simp; refine hK _ _ ?_; clear hK K))
            (refine lz_one rfl (fun K hK => ?_); refine ⟨rfl, ?_⟩; apply Exists.intro; refine ⟨fun wz hz => ?_, ?_⟩; (focus (skip; go_simp; (first | done | exact ⟨rfl, rfl⟩ | trivial))); (go_simp; refine hK _ _ ?_; clear hK K))
            (refine lz_one rfl (fun K hK => ?_); refine ⟨rfl, ?_⟩; apply Exists.intro; refine ⟨fun wz hz => ?_, ?_⟩; (focus (skip; go_simp; (first | done | exact ⟨rfl, rfl⟩ | trivial))); (go_simp; refine hK _ _ ?_; clear hK K))
            (refine lz_one rfl (fun K hK => ?_); refine ⟨rfl, ?_⟩; apply Exists.intro; refine ⟨fun wz hz => ?_, ?_⟩; (focus (skip; go_simp; (first | done | exact ⟨rfl, rfl⟩ | trivial))); (go_simp; refine hK _ _ ?_; clear hK K))
            refine lz_nil ?_
            intro w3 hz3 _
            go_wp2
            go_roundw
            case rel => exact ⟨3 + 1, by omega, by rw [HK.out], by first | rfl | go_num, hG.trans hz3⟩
            case measure => simp [intOf]
        · by_cases hb : b = 82
          · have HK := Lib.hid (kdI_hit b 4 ((mvQ_is4 b).2 hb))
            have hbb : ((b.toNat : Int) == (({ data := #[80, 83, 84, 76, 82, 108, 114] } : ByteArray)[4].toNat : Int)) = true := by rw [hb]; rfl
            clear hb
            go_wp2
            refine region_grows [] (by kernel_rfl) (by kernel_rfl) ?_
            (refine lz_one rfl (fun K hK => ?_); refine ⟨rfl, ?_⟩; apply Exists.intro; refine ⟨fun wz hz => ?_, ?_⟩; (focus (skip; go_simp; (first | done | exact ⟨rfl, rfl⟩ | trivial))); (go_simp; refine hK _ _ ?_; clear hK K))
            (refine lz_one rfl (fun K hK => ?_); refine ⟨rfl, ?_⟩; apply Exists.intro; refine ⟨fun wz hz => ?_, ?_⟩; (focus (skip; go_simp; (first | done | exact ⟨rfl, rfl⟩ | trivial))); (go_simp; refine hK _ _ ?_; clear hK K))
            (refine lz_one rfl (fun K hK => ?_); refine ⟨rfl, ?_⟩; apply Exists.intro; refine ⟨fun wz hz => ?_, ?_⟩; (focus (skip; go_simp; (first | done | exact ⟨rfl, rfl⟩ | trivial))); (go_simp; refine hK _ _ ?_; clear hK K))
            (refine lz_one rfl (fun K hK => ?_); refine ⟨rfl, ?_⟩; apply Exists.intro; refine ⟨fun wz hz => ?_, ?_⟩; (focus (skip; go_simp; (first | done | exact ⟨rfl, rfl⟩ | trivial))); (go_simp; refine hK _ _ ?_; clear hK K))
            (refine lz_one rfl (fun K hK => ?_); refine ⟨rfl, ?_⟩; apply Exists.intro; refine ⟨fun wz hz => ?_, ?_⟩; (focus (skip; go_simp; (first | done | exact ⟨rfl, rfl⟩ | trivial))); (go_simp; refine hK _ _ ?_; clear hK K))
            (refine lz_one rfl (fun K hK => ?_); refine ⟨rfl, ?_⟩; apply Exists.intro; refine ⟨fun wz hz => ?_, ?_⟩; (focus (skip; go_simp; (first | done | exact ⟨rfl, rfl⟩ | trivial))); (go_simp; refine hK _ _ ?_; clear hK K))
            (refine lz_one rfl (fun K hK => ?_); refine ⟨rfl, ?_⟩; apply Exists.intro; refine ⟨fun wz hz => ?_, ?_⟩; (focus (skip; go_simp; (first | done | exact ⟨rfl, rfl⟩ | trivial))); (go_simp; refine hK _ _ ?_; clear hK K))
            (refine lz_one rfl (fun K hK => ?_); refine ⟨rfl, ?_⟩; apply Exists.intro; refine ⟨fun wz hz => ?_, ?_⟩; (focus (skip; go_simp; (first | done | exact ⟨rfl, rfl⟩ | trivial))); (go_simp; refine hK _ _ ?_; clear hK K))
            (refine lz_one rfl (fun K hK => ?_); refine ⟨rfl, ?_⟩; apply Exists.intro; refine ⟨fun wz hz => ?_, ?_⟩; (focus (skip; go_simp; (first | done | exact ⟨rfl, rfl⟩ | trivial))); (go_simp; refine hK _ _ ?_; clear hK K))
            (refine lz_one rfl (fun K hK => ?_); refine ⟨rfl, ?_⟩; apply Exists.intro; refine ⟨fun wz hz => ?_, ?_⟩; (focus (skip; go_simp; (first | done | exact ⟨rfl, rfl⟩ | trivial))); (go_simp; refine hK _ _ ?_; clear hK K))
            refine lz_nil ?_
            intro w3 hz3 _
            go_wp2
            go_roundw
            case rel => exact ⟨4 + 1, by omega, by rw [HK.out]; first | rfl | simp, by first | rfl | go_num, hG.trans hz3⟩
            case measure => simp [intOf]
          · have HK := Lib.hid (kdI_miss b 4 (fun h => hb ((mvQ_is4 b).1 h)))
            have hbb : ((b.toNat : Int) == (({ data := #[80, 83, 84, 76, 82, 108, 114] } : ByteArray)[4].toNat : Int)) = false := byte_ne b 82 hb
            generalize kdI b 4 = z at *
            clear hb
            go_wp2
            refine region_grows [] (by kernel_rfl) (by kernel_rfl) ?_
            (refine lz_one rfl (fun K hK => ?_); refine ⟨rfl, ?_⟩; apply Exists.intro; refine ⟨fun wz hz => ?_, ?_⟩; (focus (skip; go_simp; (first | done | exact ⟨rfl, rfl⟩ | trivial))); (go_simp; refine hK _ _ ?_; clear hK K))
            (refine lz_one rfl (fun K hK => ?_); refine ⟨rfl, ?_⟩; apply Exists.intro; refine ⟨fun wz hz => ?_, ?_⟩; (focus (skip; go_simp; (first | done | exact ⟨rfl, rfl⟩ | trivial))); (go_simp; refine hK _ _ ?_; clear hK K))
            (refine lz_one rfl (fun K hK => ?_); refine ⟨rfl, ?_⟩; apply Exists.intro; refine ⟨fun wz hz => ?_, ?_⟩; (focus (skip; go_simp; (first | done | exact ⟨rfl, rfl⟩ | trivial))); (go_simp; refine hK _ _ ?_; clear hK K))
            (refine lz_one rfl (fun K hK => ?_); refine ⟨rfl, ?_⟩; apply Exists.intro; refine ⟨fun wz hz => ?_, ?_⟩; (focus (skip; go_simp; (first | done | exact ⟨rfl, rfl⟩ | trivial))); (go_simp; refine hK _ _ ?_; clear hK K))
            (refine lz_one rfl (fun K hK => ?_); refine ⟨rfl, ?_⟩; apply Exists.intro; refine ⟨fun wz hz => ?_, ?_⟩; (focus (skip; go_simp; (first | done | exact ⟨rfl, rfl⟩ | trivial))); (go_simp; refine hK _ _ ?_; clear hK K))
            (refine lz_one rfl (fun K hK => ?_); refine ⟨rfl, ?_⟩; apply Exists.intro; refine ⟨fun wz hz => ?_, ?_⟩; (focus (skip; go_simp; (first | done | exact ⟨rfl, rfl⟩ | trivial))); (go_simp; refine hK _ _ ?_; clear hK K))
            (refine lz_one rfl (fun K hK => ?_); refine ⟨rfl, ?_⟩; apply Exists.intro; refine ⟨fun wz hz => ?_, ?_⟩; (focus (skip; go_simp; (first | done | exact ⟨rfl, rfl⟩ | trivial))); (go_simp; refine hK _ _ ?_; clear hK K))
            (refine lz_one rfl (fun K hK => ?_); refine ⟨rfl, ?_⟩; apply Exists.intro; refine ⟨fun wz hz => ?_, ?_⟩; (focus (skip; go_simp; (first | done | exact ⟨rfl, rfl⟩ | trivial))); (go_simp; refine hK _ _ ?_; clear hK K))
            (refine lz_one rfl (fun K hK => ?_); refine ⟨rfl, ?_⟩; apply Exists.intro; refine ⟨fun wz hz => ?_, ?_⟩; (focus (skip; go_simp; (first | done | exact ⟨rfl, rfl⟩ | trivial))); (go_simp; refine hK _ _ ?_; clear hK K))
            (refine lz_one rfl (fun K hK => ?_); refine ⟨rfl, ?_⟩; apply Exists.intro; refine ⟨fun wz hz => ?_, ?_⟩; (focus (skip; go_simp; (first | done | exact ⟨rfl, rfl⟩ | trivial))); (go_simp; refine hK _ _ ?_; clear hK K))
            refine lz_nil ?_
            intro w3 hz3 _
            go_wp2
            go_roundw
            case rel => exact ⟨4 + 1, by omega, by rw [HK.out], by first | rfl | go_num, hG.trans hz3⟩
            case measure => simp [intOf]
        · by_cases hb : b = 108
          · have HK := Lib.hid (kdI_hit b 5 ((mvQ_is5 b).2 hb))
            have hbb : ((b.toNat : Int) == (({ data := #[80, 83, 84, 76, 82, 108, 114] } : ByteArray)[5].toNat : Int)) = true := by rw [hb]; rfl
            clear hb
            go_wp2
            refine region_grows [] (by kernel_rfl) (by kernel_rfl) ?_
            (refine lz_one rfl (fun K hK => ?_); refine ⟨rfl, ?_⟩; apply Exists.intro; refine ⟨fun wz hz => ?_, ?_⟩; (focus (skip; go_simp; (first | done | exact ⟨rfl, rfl⟩ | trivial))); (go_simp; refine hK _ _ ?_; clear hK K))
            (refine lz_one rfl (fun K hK => ?_); refine ⟨rfl, ?_⟩; apply Exists.intro; refine ⟨fun wz hz => ?_, ?_⟩; (focus (skip; go_simp; (first | done | exact ⟨rfl, rfl⟩ | trivial))); (go_simp; refine hK _ _ ?_; clear hK K))
            (refine lz_one rfl (fun K hK => ?_); refine ⟨rfl, ?_⟩; apply Exists.intro; refine ⟨fun wz hz => ?_, ?_⟩; (focus (skip; go_simp; (first | done | exact ⟨rfl, rfl⟩ | trivial))); (go_simp; refine hK _ _ ?_; clear hK K))
            (refine lz_one rfl (fun K hK => ?_); refine ⟨rfl, ?_⟩; apply Exists.intro; refine ⟨fun wz hz => ?_, ?_⟩; (focus (skip; go_simp; (first | done | exact ⟨rfl, rfl⟩ | trivial))); (go_simp; refine hK _ _ ?_; clear hK K))
            (refine lz_one rfl (fun K hK => ?_); refine ⟨rfl, ?_⟩; apply Exists.intro; refine ⟨fun wz hz => ?_, ?_⟩; (focus (skip; go_simp; (first | done | exact ⟨rfl, rfl⟩ | trivial))); (go_simp; refine hK _ _ ?_; clear hK K))
            (refine lz_one rfl (fun K hK => ?_); refine ⟨rfl, ?_⟩; apply Exists.intro; refine ⟨fun wz hz => ?_, ?_⟩; (focus (skip; go_simp; (first | done | exact ⟨rfl, rfl⟩ | trivial))); (go_simp; refine hK _ _ ?_; clear hK K))
            (refine lz_one rfl (fun K hK => ?_); refine ⟨rfl, ?_⟩; apply Exists.intro; refine ⟨fun wz hz => ?_, ?_⟩; (focus (skip; go_simp; (first | done | exact ⟨rfl, rfl⟩ | trivial))); (go_simp; refine hK _ _ ?_; clear hK K))
            (refine lz_one rfl (fun K hK => ?_); refine ⟨rfl, ?_⟩; apply Exists.intro; refine ⟨fun wz hz => ?_, ?_⟩; (focus (skip; go_simp; (first | done | exact ⟨rfl, rfl⟩ | trivial))); (go_simp; refine hK _ _ ?_; clear hK K))
            (refine lz_one rfl (fun K hK => ?_); refine ⟨rfl, ?_⟩; apply Exists.intro; refine ⟨fun wz hz => ?_, ?_⟩; (focus (skip; go_simp; (first | done | exact ⟨rfl, rfl⟩ | trivial))); (go_simp; refine hK _ _ ?_; clear hK K))
            (refine lz_one rfl (fun K hK => ?_); refine ⟨rfl, ?_⟩; apply Exists.intro; refine ⟨fun wz hz => ?_, ?_⟩; (focus (skip; go_simp; (first | done | exact ⟨rfl, rfl⟩ | trivial))); (go_simp; refine hK _ _ ?_; clear hK K))
            refine lz_nil ?_
            intro w3 hz3 _
            go_wp2
            go_roundw
            case rel => exact ⟨5 + 1, by omega, by rw [HK.out]; first | rfl | simp, by first | rfl | go_num, hG.trans hz3⟩
            case measure => simp [intOf]
          · have HK := Lib.hid (kdI_miss b 5 (fun h => hb ((mvQ_is5 b).1 h)))
            have hbb : ((b.toNat : Int) == (({ data := #[80, 83, 84, 76, 82, 108, 114] } : ByteArray)[5].toNat : Int)) = false := byte_ne b 108 hb
            generalize kdI b 5 = z at *
            clear hb
            go_wp2
            refine region_grows [] (by kernel_rfl) (by kernel_rfl) ?_
            (refine lz_one rfl (fun K hK => ?_); refine ⟨rfl, ?_⟩; apply Exists.intro; refine ⟨fun wz hz => ?_, ?_⟩; (focus (skip; go_simp; (first | done | exact ⟨rfl, rfl⟩ | trivial))); (go_simp; refine hK _ _ ?_; clear hK K))
            (refine lz_one rfl (fun K hK => ?_); refine ⟨rfl, ?_⟩; apply Exists.intro; refine ⟨fun wz hz => ?_, ?_⟩; (focus (skip; go_simp; (first | done | exact ⟨rfl, rfl⟩ | trivial))); (go_simp; refine hK _ _ ?_; clear hK K))
            (refine lz_one rfl (fun K hK => ?_); refine ⟨rfl, ?_⟩; apply Exists.intro; refine ⟨fun wz hz => ?_, ?_⟩; (focus (skip; go_simp; (first | done | exact ⟨rfl, rfl⟩ | trivial))); (go_simp; refine hK _ _ ?_; clear hK K))
            (refine lz_one rfl (fun K hK => ?_); refine ⟨rfl, ?_⟩; apply Exists.intro; refine ⟨fun wz hz => ?_, ?_⟩; (focus (skip; go_simp; (first | done | exact ⟨rfl, rfl⟩ | trivial))); (go_simp; refine hK _ _ ?_; clear hK K))
            (refine lz_one rfl (fun K hK => ?_); refine ⟨rfl, ?_⟩; apply Exists.intro; refine ⟨fun wz hz => ?_, ?_⟩; (focus (skip; go_simp; (first | done | exact ⟨rfl, rfl⟩ | trivial))); (go_simp; refine hK _ _ ?_; clear hK K))
            (refine lz_one rfl (fun K hK => ?_); refine ⟨rfl, ?_⟩; apply Exists.intro; refine ⟨fun wz hz => ?_, ?_⟩; (focus (skip; go_simp; (first | done | exact ⟨rfl, rfl⟩ | trivial))); (go_simp; refine hK _ _ ?_; clear hK K))
            (refine lz_one rfl (fun K hK => ?_); refine ⟨rfl, ?_⟩; apply Exists.intro; refine ⟨fun wz hz => ?_, ?_⟩; (focus (skip; go_simp; (first | done | exact ⟨rfl, rfl⟩ | trivial))); (go_simp; refine hK _ _ ?_; clear hK K))
            (refine lz_one rfl (fun K hK => ?_); refine ⟨rfl, ?_⟩; apply Exists.intro; refine ⟨fun wz hz => ?_, ?_⟩; (focus (skip; go_simp; (first | done | exact ⟨rfl, rfl⟩ | trivial))); (go_simp; refine hK _ _ ?_; clear hK K))
            (refine lz_one rfl (fun K hK => ?_); refine ⟨rfl, ?_⟩; apply Exists.intro; refine ⟨fun wz hz => ?_, ?_⟩; (focus (skip; go_simp; (first | done | exact ⟨rfl, rfl⟩ | trivial))); (go_simp; refine hK _ _ ?_; clear hK K))
            (refine lz_one rfl (fun K hK => ?_); refine ⟨rfl, ?_⟩; apply Exists.intro; refine ⟨fun wz hz => ?_, ?_⟩; (focus (skip; go_simp; (first | done | exact ⟨rfl, rfl⟩ | trivial))); (go_simp; refine hK _ _ ?_; clear hK K))
            refine lz_nil ?_
            intro w3 hz3 _
            go_wp2
            go_roundw
            case rel => exact ⟨5 + 1, by omega, by rw [HK.out], by first | rfl | go_num, hG.trans hz3⟩
            case measure => simp [intOf]
        · by_cases hb : b = 114
          · have HK := Lib.hid (kdI_hit b 6 ((mvQ_is6 b).2 hb))
            have hbb : ((b.toNat : Int) == (({ data := #[80, 83, 84, 76, 82, 108, 114] } : ByteArray)[6].toNat : Int)) = true := by rw [hb]; rfl
            clear hb
            go_wp2
            refine region_grows [] (by kernel_rfl) (by kernel_rfl) ?_
            (refine lz_one rfl (fun K hK => ?_); refine ⟨rfl, ?_⟩; apply Exists.intro; refine ⟨fun wz hz => ?_, ?_⟩; (focus (skip; go_simp; (first | done | exact ⟨rfl, rfl⟩ | trivial))); (go_simp; refine hK _ _ ?_; clear hK K))
            (refine lz_one rfl (fun K hK => ?_); refine ⟨rfl, ?_⟩; apply Exists.intro; refine ⟨fun wz hz => ?_, ?_⟩; (focus (skip; go_simp; (first | done | exact ⟨rfl, rfl⟩ | trivial))); (go_simp; refine hK _ _ ?_; clear hK K))
            (refine lz_one rfl (fun K hK => ?_); refine ⟨rfl, ?_⟩; apply Exists.intro; refine ⟨fun wz hz => ?_, ?_⟩; (focus (skip; go_simp; (first | done | exact ⟨rfl, rfl⟩ | trivial))); (go_simp; refine hK _ _ ?_; clear hK K))
            (refine lz_one rfl (fun K hK => ?_); refine ⟨rfl, ?_⟩; apply Exists.intro; refine ⟨fun wz hz => ?_, ?_⟩; (focus (skip; go_simp; (first | done | exact ⟨rfl, rfl⟩ | trivial))); (go_simp; refine hK _ _ ?_; clear hK K))
            (refine lz_one rfl (fun K hK => ?_); refine ⟨rfl, ?_⟩; apply Exists.intro; refine ⟨fun wz hz => ?_, ?_⟩; (focus (skip; go_simp; (first | done | exact ⟨rfl, rfl⟩ | trivial))); (go_simp; refine hK _ _ ?_; clear hK K))
            (refine lz_one rfl (fun K hK => ?_); refine ⟨rfl, ?_⟩; apply Exists.intro; refine ⟨fun wz hz => ?_, ?_⟩; (focus (skip; go_simp; (first | done | exact ⟨rfl, rfl⟩ | trivial))); (go_simp; refine hK _ _ ?_; clear hK K))
            (refine lz_one rfl (fun K hK => ?_); refine ⟨rfl, ?_⟩; apply Exists.intro; refine ⟨fun wz hz => ?_, ?_⟩; (focus (skip; go_simp; (first | done | exact ⟨rfl, rfl⟩ | trivial))); (go_simp; refine hK _ _ ?_; clear hK K))
            (refine lz_one rfl (fun K hK => ?_); refine ⟨rfl, ?_⟩; apply Exists.intro; refine ⟨fun wz hz => ?_, ?_⟩; (focus (skip; go_simp; (first | done | exact ⟨rfl, rfl⟩ | trivial))); (go_simp; refine hK _ _ ?_; clear hK K))
            (refine lz_one rfl (fun K hK => ?_); refine ⟨rfl, ?_⟩; apply Exists.intro; refine ⟨fun wz hz => ?_, ?_⟩; (focus (skip; go_simp; (first | done | exact ⟨rfl, rfl⟩ | trivial))); (go_simp; refine hK _ _ ?_; clear hK K))
            (refine lz_one rfl (fun K hK => ?_); refine ⟨rfl, ?_⟩; apply Exists.intro; refine ⟨fun wz hz => ?_, ?_⟩; (focus (skip; go_simp; (first | done | exact ⟨rfl, rfl⟩ | trivial))); (go_simp; refine hK _ _ ?_; clear hK K))
            refine lz_nil ?_
            intro w3 hz3 _
            go_wp2
            go_roundw
            case rel => exact ⟨6 + 1, by omega, by rw [HK.out]; first | rfl | simp, by first | rfl | go_num, hG.trans hz3⟩
            case measure => simp [intOf]
          · have HK := Lib.hid (kdI_miss b 6 (fun h => hb ((mvQ_is6 b).1 h)))
            have hbb : ((b.toNat : Int) == (({ data := #[80, 83, 84, 76, 82, 108, 114] } : ByteArray)[6].toNat : Int)) = false := byte_ne b 114 hb
            generalize kdI b 6 = z at *
            clear hb
            go_wp2
            refine region_grows [] (by kernel_rfl) (by kernel_rfl) ?_
            (refine lz_one rfl (fun K hK => ?_); refine ⟨rfl, ?_⟩; apply Exists.intro; refine ⟨fun wz hz => ?_, ?_⟩; (focus (skip; go_simp; (first | done | exact ⟨rfl, rfl⟩ | trivial))); (go_simp; refine hK _ _ ?_; clear hK K))
            (refine lz_one rfl (fun K hK => ?_); refine ⟨rfl, ?_⟩; apply Exists.intro; refine ⟨fun wz hz => ?_, ?_⟩; (focus (skip; go_simp; (first | done | exact ⟨rfl, rfl⟩ | trivial))); (go_simp; refine hK _ _ ?_; clear hK K))
            (refine lz_one rfl (fun K hK => ?_); refine ⟨rfl, ?_⟩; apply Exists.intro; refine ⟨fun wz hz => ?_, ?_⟩; (focus (skip; go_simp; (first | done | exact ⟨rfl, rfl⟩ | trivial))); (go_simp; refine hK _ _ ?_; clear hK K))
            (refine lz_one rfl (fun K hK => ?_); refine ⟨rfl, ?_⟩; apply Exists.intro; refine ⟨fun wz hz => ?_, ?_⟩; (focus (skip; go_simp; (first | done | exact ⟨rfl, rfl⟩ | trivial))); (go_simp; refine hK _ _ ?_; clear hK K))
            (refine lz_one rfl (fun K hK => ?_); refine ⟨rfl, ?_⟩; apply Exists.intro; refine ⟨fun wz hz => ?_, ?_⟩; (focus (skip; go_simp; (first | done | exact ⟨rfl, rfl⟩ | trivial))); (go_simp; refine hK _ _ ?_; clear hK K))
            (refine lz_one rfl (fun K hK => ?_); refine ⟨rfl, ?_⟩; apply Exists.intro; refine ⟨fun wz hz => ?_, ?_⟩; (focus (skip; go_simp; (first | done | exact ⟨rfl, rfl⟩ | trivial))); (go_simp; refine hK _ _ ?_; clear hK K))
            (refine lz_one rfl (fun K hK => ?_); refine ⟨rfl, ?_⟩; apply Exists.intro; refine ⟨fun wz hz => ?_, ?_⟩; (focus (skip; go_simp; (first | done | exact ⟨rfl, rfl⟩ | trivial))); (go_simp; refine hK _ _ ?_; clear hK K))
            (refine lz_one rfl (fun K hK => ?_); refine ⟨rfl, ?_⟩; apply Exists.intro; refine ⟨fun wz hz => ?_, ?_⟩; (focus (skip; go_simp; (first | done | exact ⟨rfl, rfl⟩ | trivial))); (go_simp; refine hK _ _ ?_; clear hK K))
            (refine lz_one rfl (fun K hK => ?_); refine ⟨rfl, ?_⟩; apply Exists.intro; refine ⟨fun wz hz => ?_, ?_⟩; (focus (skip; go_simp; (first | done | exact ⟨rfl, rfl⟩ | trivial))); (go_simp; refine hK _ _ ?_; clear hK K))
            (refine lz_one rfl (fun K hK => ?_); refine ⟨rfl, ?_⟩; apply Exists.intro; refine ⟨fun wz hz => ?_, ?_⟩; (focus (skip; go_simp; (first | done | exact ⟨rfl, rfl⟩ | trivial))); (go_simp; refine hK _ _ ?_; clear hK K))
            refine lz_nil ?_
            intro w3 hz3 _
            go_wp2
            go_roundw
            case rel => exact ⟨6 + 1, by omega, by rw [HK.out], by first | rfl | go_num, hG.trans hz3⟩
            case measure => simp [intOf]
      · obtain rfl : k = 7 := by omega
        have P2 := P.gr hG
        have hGv := hG0.trans hG
        cases hq : mvQ b with
        | none =>
          have HN := Lib.hid (show rmS (b :: r) = ((0, 0, 0, 0), false) by rw [HR.out, hq])
          rw [hbn.out hq]
          obtain ⟨c0, c1, c2, c3, cf⟩ := four4 P2
          have cl := P2.lt
          obtain ⟨r0, r1, r2, r3, -⟩ := four4 (blk_set4 P2 (.int .i64 0) (.int .i64 0) (.int .i64 0) (.int .i64 0))
          clear HR hbk hbn hq HSP
          go_wp2
          ((try simp only [Exit.inBlock, Exit.then]); refine bodyPost_ret (v := .tuple #[.agg #[.int .i64 (0), .int .i64 (0), .int .i64 (0), .int .i64 (0)], .bool false]) (by simp [results, Tryz.results74, go_sem, r0, r1, r2, r3, World.cell?_setCell_same']) rfl ?_)
          rw [HN.out]
          exact ⟨rfl, Gr.of_below (setc4 hGv.below (Nat.le_refl _) _ _ _ _)⟩
        | some k =>
          obtain ⟨⟨k0, k6⟩, -⟩ := mvQ_some hq
          have hk0 : ¬ (k < 0) := by omega
          rw [hbk.out k hq]
          rcases (show mvF k = true ∨ mvF k = false by cases mvF k <;> simp) with hf | hf
          rotate_left
          · have HN := Lib.hid (show rmS (b :: r) = ((k, 0, 0, 0), r.isEmpty) by rw [HR.out, hq]; simp only [hf, Bool.false_eq_true, if_false])
            have hk2 : 2 < k := by
              have : ¬ (0 ≤ k ∧ k ≤ 2) := fun h => by rw [(mvF_iff k).2 h] at hf; cases hf
              omega
            have HEm := Lib.hid (show ((r.length : Int) + 1 == 1) = r.isEmpty by
              cases r with
              | nil => rfl
              | cons x l => simp; omega)
            obtain ⟨c0, c1, c2, c3, cf⟩ := four4 P2
            have cl := P2.lt
            obtain ⟨r0, r1, r2, r3, -⟩ := four4 (blk_set4 P2 (.int .i64 k) (.int .i64 0) (.int .i64 0) (.int .i64 0))
            have hem := HEm.out
            generalize r.isEmpty = em at *
            clear HR hbk hbn hq HSP hf
            go_wp2
            ((try simp only [Exit.inBlock, Exit.then]); refine bodyPost_ret (v := .tuple #[.agg #[.int .i64 (k), .int .i64 (0), .int .i64 (0), .int .i64 (0)], .bool em]) (by simp [results, Tryz.results74, go_sem, r0, r1, r2, r3, World.cell?_setCell_same']) rfl ?_)
            rw [HN.out]
            exact ⟨rfl, Gr.of_below (setc4 hGv.below (Nat.le_refl _) _ _ _ _)⟩
          · have HN := Lib.hid (show rmS (b :: r) = rmP k (spC r) by rw [HR.out, hq]; simp only [hf, if_true])
            have hk2 : k ≤ 2 := ((mvF_iff k).1 hf).2
            have hk2' : ¬ (2 < k) := by omega
            have hs1 : (1 : Int) ≤ (s.size : Int) := by omega
            have hs2 : (1 : Int) ≤ (r.length : Int) + 1 := by omega
            have hex := HE.out
            rw [hz] at hex
            clear HR hbk hbn hq hf
            go_wp2_with fail
            refine (HSP.out wr).mono ?_
            rintro e w2 ⟨u, rfl, hown, hb2⟩
            replace hown : Owns w2 wr.heap.size 9 u ((spC r).map sv) := hown
            generalize spC r = ws at *
            obtain ⟨gw, cw, rfl, hgw1, hgw2, hA⟩ := hown.reads
            rw [List.length_map]
            have P3 := P2.below hb2 P2.lt
            have hG3 := hGv.trans (Gr.of_below hb2)
            clear hown
            by_cases h2 : ws.length = 2
            rotate_left
            · have HN2 := Lib.hid (HN.out.trans (rmP_no _ _ h2))
              have hb3 : ((ws.length : Int) == 2) = false := by simp; omega
              generalize ws.length = wl at *
              obtain ⟨c0, c1, c2, c3, cf⟩ := four4 P3
              have cl := P3.lt
              obtain ⟨r0, r1, r2, r3, -⟩ := four4 (blk_set4 P3 (.int .i64 0) (.int .i64 0) (.int .i64 0) (.int .i64 0))
              clear hA P2
              go_wp2_with fail
              ((try simp only [Exit.inBlock, Exit.then]); refine bodyPost_ret (v := .tuple #[.agg #[.int .i64 (0), .int .i64 (0), .int .i64 (0), .int .i64 (0)], .bool false]) (by simp [results, Tryz.results74, go_sem, r0, r1, r2, r3, World.cell?_setCell_same']) rfl ?_)
              rw [HN2.out]
              exact ⟨rfl, Gr.of_below (setc4 hG3.below (Nat.le_refl _) _ _ _ _)⟩
            · obtain ⟨x, y, rfl⟩ : ∃ x y, ws = [x, y] := by
                match ws, h2 with
                | [x, y], _ => exact ⟨x, y, rfl⟩
              have hA0 := hA.at_ (k := 0) (x := sv x) rfl
              have hA1 := hA.at_ (k := 1) (x := sv y) rfl
              obtain ⟨g0, o0, e0, -, x0⟩ := hA0
              cases e0
              obtain ⟨g1, o1, e1, -, x1⟩ := hA1
              cases e1
              have hyl := HW.out y (by simp)
              have HN2 := Lib.hid (HN.out.trans (rmP_two k x y))
              have HSc := Lib.hid (fun W => rsR_spec ⟨x.toArray⟩ W)
              have HFg := Lib.hid (fun W => readFigure_spec ⟨y.toArray⟩ W (by show (List.toArray y).size ≤ _; rw [List.size_toArray]; omega))
              rw [rfM_alt] at HFg
              unfold rmV at HN2
              generalize (rsR ⟨x.toArray⟩) = sc at *
              generalize (rfM ⟨y.toArray⟩) = fr at *
              obtain ⟨z1, z2⟩ := sc
              obtain ⟨⟨f1, f2⟩, f3⟩ := fr
              simp only at HN2 HSc HFg
              clear hA h2 HW P2 HN HSP
              go_wp2_with fail
              refine (HSc.out w2).mono ?_
              rintro e w3 ⟨rfl, hg3⟩
              replace x1 := cell_up hg3 x1
              have hgw3 := Nat.lt_of_lt_of_le hgw2 hg3.below.size
              replace P3 := P3.gr hg3
              replace hG3 := hG3.trans hg3
              clear x0
              go_wp2_with fail
              refine (HFg.out w3).mono ?_
              rintro e w4 ⟨rfl, hg4⟩
              replace P3 := P3.gr hg4
              replace hG3 := hG3.trans hg4
              clear x1 hg3 hg4
              obtain ⟨c0, c1, c2, c3, cf⟩ := four4 P3
              have cl := P3.lt
              obtain ⟨r0, r1, r2, r3, -⟩ := four4 ((blk_set4 P3 (.int .i64 k) (.int .i64 z1) (.int .i64 f1) (.int .i64 f2)).alloc (.cells #[.int .i64 f1, .int .i64 f2] 37))
              have hgf := (Gr.of_below (setc4 hG3.below (Nat.le_refl _) (.int .i64 k) (.int .i64 z1) (.int .i64 f1) (.int .i64 f2))).alloc (.cells #[.int .i64 f1, .int .i64 f2] 37)
              cases hz2 : (z2 == 0)
              · have HN3 := Lib.hid (HN2.out.trans (show ((k, z1, f1, f2), decide (z2 = 0) && decide (f3 = 0)) = ((k, z1, f1, f2), false) by rw [show decide (z2 = 0) = false by simpa using hz2, Bool.false_and]))
                go_wp2_with fail
                ((try simp only [Exit.inBlock, Exit.then]); refine bodyPost_ret (v := .tuple #[.agg #[.int .i64 (k), .int .i64 (z1), .int .i64 (f1), .int .i64 (f2)], .bool false]) (by simp [results, Tryz.results74, go_sem, r0, r1, r2, r3, World.cell?_setCell_same']) rfl ?_)
                rw [HN3.out]
                exact ⟨rfl, hgf⟩
              · have HN3 := Lib.hid (HN2.out.trans (show ((k, z1, f1, f2), decide (z2 = 0) && decide (f3 = 0)) = ((k, z1, f1, f2), f3 == 0) by rw [show decide (z2 = 0) = true by simpa using hz2, Bool.true_and]; rfl))
                obtain ⟨em, hem⟩ : ∃ em, (f3 == 0) = em := ⟨_, rfl⟩
                rw [hem] at HN3
                go_wp2_with fail
                ((try simp only [Exit.inBlock, Exit.then]); refine bodyPost_ret (v := .tuple #[.agg #[.int .i64 (k), .int .i64 (z1), .int .i64 (f1), .int .i64 (f2)], .bool em]) (by simp [results, Tryz.results74, go_sem, r0, r1, r2, r3, World.cell?_setCell_same']) rfl ?_)
                rw [HN3.out]
                exact ⟨rfl, hgf⟩
end Go.Proofs.YtefhhigcplemaaaGreatDoor

/- Contracts: a move read from a word, in the program. (Written by laws/gen_T34.py.) -/
namespace Go.Proofs.YtefhhigcplemaaaGreatDoor
open Go.RowKit Go.ChangeShapes Go.WideShapes Go.ChangeAt
set_option linter.unusedVariables false
set_option linter.unusedSimpArgs false

theorem cut_eq (r : List UInt8) : (Lib.cut r [58]).1 = (cutC r).1 ∧ (Lib.cut r [58]).2.1 = (cutC r).2 := by
  unfold Lib.cut
  rw [Lib.index_one]
  by_cases h : 0 ≤ Lib.indexByte r 58
  · rw [if_pos h]
    obtain ⟨i, hi⟩ := Int.eq_ofNat_of_zero_le h
    obtain ⟨a, b, e, hl, ha⟩ := ibC_some r i hi
    rw [hi, e, cutC_cut a b ha]
    subst hl
    constructor
    · simp
    · simp
  · rw [if_neg h]
    have h1 := Lib.index_ge r [58]
    rw [Lib.index_one] at h1
    have ha := ibC_none r (by omega)
    rw [cutC_none r ha]
    exact ⟨rfl, rfl⟩
theorem cutC_len (r : List UInt8) : (cutC r).1.length ≤ r.length ∧ (cutC r).2.length ≤ r.length := by
  induction r with
  | nil => exact ⟨Nat.le_refl _, Nat.le_refl _⟩
  | cons c l ih =>
    show ((if c = 58 then ([], l) else (c :: (cutC l).1, (cutC l).2)) : List UInt8 × List UInt8).1.length ≤ _ ∧ ((if c = 58 then ([], l) else (c :: (cutC l).1, (cutC l).2)) : List UInt8 × List UInt8).2.length ≤ _
    by_cases h : c = 58
    · rw [if_pos h]; simp
    · rw [if_neg h]; simp; omega

set_option maxRecDepth 100000 in
set_option maxHeartbeats 4000000 in
theorem rfmove_impl (k : Int) (r : List UInt8) (w : World) (hr : r.length ≤ 1048576) (hM : Nms w) (hE : Errs w) (hT : Tab w) (hsh : w.ShapedOpen Tryz.prog) :
    Calls Tryz.prog 127 #[.int .i64 k, .string ⟨r.toArray⟩] w fun e w' => e = .returned (mvTup (rmV k (cutC r).1 (cutC r).2)) ∧ Gr w w' := by
  have P := Blk.new w 39 #[.int .i64 0, .int .i64 0, .int .i64 0, .int .i64 0]
  have hG0 : Gr w (w.alloc (.cells #[.int .i64 0, .int .i64 0, .int .i64 0, .int .i64 0] 39)) := (by repeat (first | with_reducible exact Gr.refl _ | with_reducible refine Gr.alloc ?_ _ | with_reducible refine Gr.gr ?_ _ _ | with_reducible refine Gr.drew ?_ | with_reducible refine Gr.drewN ?_ _))
  obtain ⟨u1, u2⟩ := cut_eq r
  obtain ⟨v1, v2⟩ := cutC_len r
  have HCu := Lib.hid (Tryz.strings_Cut_shaped ⟨r.toArray⟩ ⟨#[58]⟩ _ (shaped_below hsh hG0.below) (by show (List.toArray r).size < _; rw [List.size_toArray]; omega))
  have hd1 : (ByteArray.mk r.toArray).data.toList = r := rfl
  have hd2 : (ByteArray.mk #[58]).data.toList = [58] := rfl
  rw [hd1, hd2, u1, u2] at HCu
  have HN := Lib.hid (show rmV k (cutC r).1 (cutC r).2 = ((k, (rsR ⟨(cutC r).1.toArray⟩).1, (rfM ⟨(cutC r).2.toArray⟩).1.1, (rfM ⟨(cutC r).2.toArray⟩).1.2), decide ((rsR ⟨(cutC r).1.toArray⟩).2 = 0) && decide ((rfM ⟨(cutC r).2.toArray⟩).2 = 0)) from rfl)
  generalize (Lib.cut r [58]).2.2 = fd at *
  have HSc := Lib.hid (fun W h => rsR_impl ⟨(cutC r).1.toArray⟩ W h)
  have HFg := Lib.hid (fun W h1 h2 => readFigure_impl ⟨(cutC r).2.toArray⟩ W (by show (List.toArray (cutC r).2).size ≤ _; rw [List.size_toArray]; omega) h1 h2)
  have hfm : rfT ⟨(cutC r).2.toArray⟩ (rf2 (rvI (rfx ⟨(cutC r).2.toArray⟩)) (rvI (rfy ⟨(cutC r).2.toArray⟩))) = rfM ⟨(cutC r).2.toArray⟩ := rfl
  rw [hfm] at HFg
  have HMs := Lib.hid hM
  have HEs := Lib.hid hE
  have HTs := Lib.hid hT
  generalize rmV k (cutC r).1 (cutC r).2 = R at *
  generalize (cutC r).1 = xx at *
  generalize (cutC r).2 = yy at *
  generalize rsR ⟨xx.toArray⟩ = sc at *
  generalize rfM ⟨yy.toArray⟩ = fr at *
  obtain ⟨z1, z2⟩ := sc
  obtain ⟨⟨f1, f2⟩, f3⟩ := fr
  simp only at HN HSc HFg
  clear u1 u2 v1 v2 hd1 hd2 hfm hM hE hT hsh
  go_enter Tryz.func127, Tryz.ntmps127
  go_wp2_with fail
  refine HCu.out.mono ?_
  rintro e w2 ⟨rfl, nd, rfl⟩
  have hGd : Gr (w.alloc (.cells #[.int .i64 0, .int .i64 0, .int .i64 0, .int .i64 0] 39)) ((w.alloc (.cells #[.int .i64 0, .int .i64 0, .int .i64 0, .int .i64 0] 39)).drewN nd) := (by repeat (first | with_reducible exact Gr.refl _ | with_reducible refine Gr.alloc ?_ _ | with_reducible refine Gr.gr ?_ _ _ | with_reducible refine Gr.drew ?_ | with_reducible refine Gr.drewN ?_ _))
  replace P := P.gr hGd
  replace hG0 := hG0.trans hGd
  clear HCu
  go_wp2_with fail
  generalize (w.alloc (.cells #[.int .i64 0, .int .i64 0, .int .i64 0, .int .i64 0] 39)).drewN nd = v at *
  clear hGd
  refine (HSc.out v (HMs.out.gr hG0)).mono ?_
  rintro e w3 ⟨rfl, rfl⟩
  go_wp2_with fail
  refine (HFg.out v (HEs.out.gr hG0) (HTs.out.gr hG0)).mono ?_
  rintro e w4 ⟨rfl, hg4⟩
  replace P := P.gr hg4
  replace hG0 := hG0.trans hg4
  obtain ⟨c0, c1, c2, c3, cf⟩ := four4 P
  have cl := P.lt
  obtain ⟨r0, r1, r2, r3, -⟩ := four4 ((blk_set4 P (.int .i64 k) (.int .i64 z1) (.int .i64 f1) (.int .i64 f2)).alloc (.cells #[.int .i64 f1, .int .i64 f2] 37))
  have hgf := (Gr.of_below (setc4 hG0.below (Nat.le_refl _) (.int .i64 k) (.int .i64 z1) (.int .i64 f1) (.int .i64 f2))).alloc (.cells #[.int .i64 f1, .int .i64 f2] 37)
  cases hz2 : (z2 == 0)
  · have HN3 := Lib.hid (HN.out.trans (show ((k, z1, f1, f2), decide (z2 = 0) && decide (f3 = 0)) = ((k, z1, f1, f2), false) by rw [show decide (z2 = 0) = false by simpa using hz2, Bool.false_and]))
    go_wp2_with fail
    ((try simp only [Exit.inBlock, Exit.then]); refine bodyPost_ret (v := .tuple #[.agg #[.int .i64 (k), .int .i64 (z1), .int .i64 (f1), .int .i64 (f2)], .bool false]) (by simp [results, Tryz.results127, go_sem, r0, r1, r2, r3, World.cell?_setCell_same']) rfl ?_)
    rw [HN3.out]
    exact ⟨rfl, hgf⟩
  · have HN3 := Lib.hid (HN.out.trans (show ((k, z1, f1, f2), decide (z2 = 0) && decide (f3 = 0)) = ((k, z1, f1, f2), f3 == 0) by rw [show decide (z2 = 0) = true by simpa using hz2, Bool.true_and]; rfl))
    obtain ⟨em, hem⟩ : ∃ em, (f3 == 0) = em := ⟨_, rfl⟩
    rw [hem] at HN3
    go_wp2_with fail
    ((try simp only [Exit.inBlock, Exit.then]); refine bodyPost_ret (v := .tuple #[.agg #[.int .i64 (k), .int .i64 (z1), .int .i64 (f1), .int .i64 (f2)], .bool em]) (by simp [results, Tryz.results127, go_sem, r0, r1, r2, r3, World.cell?_setCell_same']) rfl ?_)
    rw [HN3.out]
    exact ⟨rfl, hgf⟩

theorem str_empty (r : List UInt8) : ((ByteArray.mk r.toArray).toList == (ByteArray.mk #[]).toList) = r.isEmpty := by
  rw [ByteArray.toList_eq, ByteArray.toList_eq]
  cases r <;> simp
theorem hp_nil (c : UInt8) : Lib.hasPrefix [] [c] = false := rfl
theorem hp_cons (b c : UInt8) (r : List UInt8) : Lib.hasPrefix (b :: r) [c] = (c == b) := by
  show (c == b && List.isPrefixOf [] r) = _
  simp [List.isPrefixOf]
theorem tp_cons (c : UInt8) (r : List UInt8) : Lib.trimPrefix (c :: r) [c] = r := by unfold Lib.trimPrefix; rw [hp_cons]; simp
theorem hp_some {q : List UInt8} {c : UInt8} (h : Lib.hasPrefix q [c] = true) : ∃ r, q = c :: r := by
  cases q with
  | nil => rw [hp_nil] at h; cases h
  | cons b r => rw [hp_cons] at h; exact ⟨r, by rw [eq_of_beq h]⟩
theorem rmI_none {q : List UInt8} (h : Lib.hasPrefix q [80] = false ∧ Lib.hasPrefix q [83] = false ∧ Lib.hasPrefix q [84] = false ∧ Lib.hasPrefix q [76] = false ∧ Lib.hasPrefix q [82] = false ∧ Lib.hasPrefix q [108] = false ∧ Lib.hasPrefix q [114] = false) : rmI q = ((0, 0, 0, 0), false) := by
  cases q with
  | nil => rfl
  | cons b r =>
    simp only [hp_cons] at h
    obtain ⟨h0, h1, h2, h3, h4, h5, h6⟩ := h
    have hn : mvQ b = none := by
      unfold mvQ
      rw [if_neg (fun e => by rw [e] at h0; simp at h0), if_neg (fun e => by rw [e] at h1; simp at h1), if_neg (fun e => by rw [e] at h2; simp at h2), if_neg (fun e => by rw [e] at h3; simp at h3), if_neg (fun e => by rw [e] at h4; simp at h4), if_neg (fun e => by rw [e] at h5; simp at h5), if_neg (fun e => by rw [e] at h6; simp at h6)]
    unfold rmI
    simp only [hn]
theorem rmI_cons {b : UInt8} {k : Int} (r : List UInt8) (h : mvQ b = some k) : rmI (b :: r) = if mvF k = true then rmV k (cutC r).1 (cutC r).2 else ((k, 0, 0, 0), r.isEmpty) := by
  unfold rmI
  simp only [h]
theorem idxK_0 (w : World) : (Instr.index 108 (.agg mkA) (.int .i64 0)).run Tryz.prog w = .ok (.agg #[.string ⟨#[80]⟩, .bool true, .func (.func 131) #[] #[]]) w := by kernel_rfl
theorem idxK_1 (w : World) : (Instr.index 108 (.agg mkA) (.int .i64 1)).run Tryz.prog w = .ok (.agg #[.string ⟨#[83]⟩, .bool true, .func (.func 132) #[] #[]]) w := by kernel_rfl
theorem idxK_2 (w : World) : (Instr.index 108 (.agg mkA) (.int .i64 2)).run Tryz.prog w = .ok (.agg #[.string ⟨#[84]⟩, .bool true, .func (.func 133) #[] #[]]) w := by kernel_rfl
theorem idxK_3 (w : World) : (Instr.index 108 (.agg mkA) (.int .i64 3)).run Tryz.prog w = .ok (.agg #[.string ⟨#[76]⟩, .bool false, .func (.func 135) #[] #[]]) w := by kernel_rfl
theorem idxK_4 (w : World) : (Instr.index 108 (.agg mkA) (.int .i64 4)).run Tryz.prog w = .ok (.agg #[.string ⟨#[82]⟩, .bool false, .func (.func 137) #[] #[]]) w := by kernel_rfl
theorem idxK_5 (w : World) : (Instr.index 108 (.agg mkA) (.int .i64 5)).run Tryz.prog w = .ok (.agg #[.string ⟨#[108]⟩, .bool false, .func (.func 138) #[] #[]]) w := by kernel_rfl
theorem idxK_6 (w : World) : (Instr.index 108 (.agg mkA) (.int .i64 6)).run Tryz.prog w = .ok (.agg #[.string ⟨#[114]⟩, .bool false, .func (.func 139) #[] #[]]) w := by kernel_rfl
def ltA (j : Nat) : UInt8 := [80, 83, 84, 76, 82, 108, 114].getD j 0
theorem lt_snoc {q : List UInt8} {k : Nat} (h : ∀ j, j < k → Lib.hasPrefix q [ltA j] = false) (hk : Lib.hasPrefix q [ltA k] = false) : ∀ j, j < k + 1 → Lib.hasPrefix q [ltA j] = false := fun j hj => by
  rcases (show j < k ∨ j = k by omega) with h1 | rfl
  · exact h j h1
  · exact hk
set_option maxRecDepth 100000 in
set_option maxHeartbeats 8000000 in
theorem readMove_impl (q : List UInt8) (w : World) (hq : q.length ≤ 1048576) (hM : Nms w) (hE : Errs w) (hT : Tab w) (hsh : w.ShapedOpen Tryz.prog) :
    Calls Tryz.prog 72 #[.string ⟨q.toArray⟩] w fun e w' => e = .returned (mvTup (rmI q)) ∧ Gr w w' := by
  have P := Blk.new w 39 #[.int .i64 0, .int .i64 0, .int .i64 0, .int .i64 0]
  have hG0 : Gr w (w.alloc (.cells #[.int .i64 0, .int .i64 0, .int .i64 0, .int .i64 0] 39)) := (by repeat (first | with_reducible exact Gr.refl _ | with_reducible refine Gr.alloc ?_ _ | with_reducible refine Gr.gr ?_ _ _ | with_reducible refine Gr.drew ?_ | with_reducible refine Gr.drewN ?_ _))
  have HMK := Lib.hid (fun W => moveKinds_impl W)
  unfold mkV at HMK
  have HRf := Lib.hid (fun (k : Int) (r : List UInt8) W (hr : r.length ≤ 1048576) (hg : Gr w W) => rfmove_impl k r W hr (hM.gr hg) (hE.gr hg) (hT.gr hg) (shaped_below hsh hg.below))
  have HCP := Lib.hid (fun (c : UInt8) W => show Calls Tryz.prog 126 #[.string ⟨q.toArray⟩, .string ⟨#[c]⟩] W (fun e w' => e = .returned (.tuple #[.string ⟨(Lib.trimPrefix q [c]).toArray⟩, .bool (Lib.hasPrefix q [c])]) ∧ w' = W) from Tryz.strings_CutPrefix ⟨q.toArray⟩ ⟨#[c]⟩ W)
  clear hM hE hT hsh
  go_enter Tryz.func72, Tryz.ntmps72
  go_wp2_with fail
  generalize w.alloc (.cells #[.int .i64 0, .int .i64 0, .int .i64 0, .int .i64 0] 39) = v at *
  refine (HMK.out v).mono ?_
  rintro e w1 ⟨rfl, hg1⟩
  replace P := P.gr hg1
  replace hG0 := hG0.trans hg1
  clear hg1 HMK
  go_wp2_with fail
  go_loopw [9] (fun i wr => ∃ k : Nat, k ≤ 7 ∧ i = .int .i64 k ∧ Hid (∀ j, j < k → Lib.hasPrefix q [ltA j] = false) ∧ Gr w1 wr) (fun i _ => 7 - (intOf i).toNat)
  case atStart => exact ⟨0, by omega, rfl, Lib.hid (fun j hj => by omega), Gr.refl _⟩
  case round =>
    obtain ⟨k, hk, rfl, HI, hG⟩ := hrel
    by_cases hlt : k < 7
    · have P2 := P.gr hG
      have hGw := hG0.trans hG
      rcases (show k = 0 ∨ k = 1 ∨ k = 2 ∨ k = 3 ∨ k = 4 ∨ k = 5 ∨ k = 6 by omega) with rfl | rfl | rfl | rfl | rfl | rfl | rfl
      · have HC := Lib.hid (HCP.out 80)
        have hix := fun W => idxK_0 W
        rcases (show Lib.hasPrefix q [80] = true ∨ Lib.hasPrefix q [80] = false by cases Lib.hasPrefix q [80] <;> simp) with hh | hh
        rotate_left
        · have HN := Lib.hid (lt_snoc HI.out (show Lib.hasPrefix q [ltA 0] = false from hh))
          rw [hh] at HC
          clear hh
          generalize (Lib.trimPrefix q [80]) = tp at *
          go_wp2_with fail
          refine (HC.out _).mono ?_
          rintro e w3 ⟨rfl, rfl⟩
          go_wp2_with fail
          go_roundw
          case rel => exact ⟨0 + 1, by omega, by first | rfl | go_num, HN, hG.alloc _⟩
          case measure => simp [intOf]
        · rw [hh] at HC
          obtain ⟨r, rfl⟩ := hp_some hh
          have HR := Lib.hid (rmI_cons (k := 0) r (show mvQ 80 = some 0 from by decide))
          rw [tp_cons] at HC
          have hrl : r.length ≤ 1048576 := by simp at hq; omega
          clear hh HI HCP
          have HR2 := Lib.hid (HR.out.trans (if_pos (by decide)))
          generalize hrv : rmV 0 (cutC r).1 (cutC r).2 = V at *
          have HRk := Lib.hid (fun W hg => HRf.out 0 r W hrl hg)
          rw [hrv] at HRk
          obtain ⟨⟨m0, m1, m2, m3⟩, fl⟩ := V
          clear hrv HRf HR
          simp only [mvTup] at HRk
          go_wp2_with fail
          have hgb : Gr wr (wr.alloc (.cells #[.string ⟨#[80]⟩, .bool true, .func (.func 131) #[] #[]] 107)) := (by repeat (first | with_reducible exact Gr.refl _ | with_reducible refine Gr.alloc ?_ _ | with_reducible refine Gr.gr ?_ _ _ | with_reducible refine Gr.drew ?_ | with_reducible refine Gr.drewN ?_ _))
          have K2 := Blk.new wr 107 #[.string ⟨#[80]⟩, .bool true, .func (.func 131) #[] #[]]
          generalize wr.alloc (.cells #[.string ⟨#[80]⟩, .bool true, .func (.func 131) #[] #[]] 107) = v2 at *
          obtain ⟨a0, a1, a2, -⟩ := K2.trio
          have al := K2.lt
          refine (HC.out v2).mono ?_
          rintro e w3 ⟨rfl, rfl⟩
          go_wp2_with fail
          refine (HRk.out w3 (hGw.trans hgb)).mono ?_
          rintro e w4 ⟨rfl, hg4⟩
          have P4 := (P2.gr hgb).gr hg4
          have hGf := (hGw.trans hgb).trans hg4
          obtain ⟨c0, c1, c2, c3, cf⟩ := four4 P4
          have cl := P4.lt
          obtain ⟨r0, r1, r2, r3, -⟩ := four4 (blk_set4 P4 (.int .i64 m0) (.int .i64 m1) (.int .i64 m2) (.int .i64 m3))
          clear a0 a1 a2 al
          go_wp2_with fail
          ((try simp only [Exit.inBlock, Exit.then]); refine bodyPost_ret (v := .tuple #[.agg #[.int .i64 (m0), .int .i64 (m1), .int .i64 (m2), .int .i64 (m3)], .bool fl]) (by simp [results, Tryz.results72, go_sem, r0, r1, r2, r3, World.cell?_setCell_same']) rfl ?_)
          rw [HR2.out]
          exact ⟨rfl, Gr.of_below (setc4 hGf.below (Nat.le_refl _) _ _ _ _)⟩
      · have HC := Lib.hid (HCP.out 83)
        have hix := fun W => idxK_1 W
        rcases (show Lib.hasPrefix q [83] = true ∨ Lib.hasPrefix q [83] = false by cases Lib.hasPrefix q [83] <;> simp) with hh | hh
        rotate_left
        · have HN := Lib.hid (lt_snoc HI.out (show Lib.hasPrefix q [ltA 1] = false from hh))
          rw [hh] at HC
          clear hh
          generalize (Lib.trimPrefix q [83]) = tp at *
          go_wp2_with fail
          refine (HC.out _).mono ?_
          rintro e w3 ⟨rfl, rfl⟩
          go_wp2_with fail
          go_roundw
          case rel => exact ⟨1 + 1, by omega, by first | rfl | go_num, HN, hG.alloc _⟩
          case measure => simp [intOf]
        · rw [hh] at HC
          obtain ⟨r, rfl⟩ := hp_some hh
          have HR := Lib.hid (rmI_cons (k := 1) r (show mvQ 83 = some 1 from by decide))
          rw [tp_cons] at HC
          have hrl : r.length ≤ 1048576 := by simp at hq; omega
          clear hh HI HCP
          have HR2 := Lib.hid (HR.out.trans (if_pos (by decide)))
          generalize hrv : rmV 1 (cutC r).1 (cutC r).2 = V at *
          have HRk := Lib.hid (fun W hg => HRf.out 1 r W hrl hg)
          rw [hrv] at HRk
          obtain ⟨⟨m0, m1, m2, m3⟩, fl⟩ := V
          clear hrv HRf HR
          simp only [mvTup] at HRk
          go_wp2_with fail
          have hgb : Gr wr (wr.alloc (.cells #[.string ⟨#[83]⟩, .bool true, .func (.func 132) #[] #[]] 107)) := (by repeat (first | with_reducible exact Gr.refl _ | with_reducible refine Gr.alloc ?_ _ | with_reducible refine Gr.gr ?_ _ _ | with_reducible refine Gr.drew ?_ | with_reducible refine Gr.drewN ?_ _))
          have K2 := Blk.new wr 107 #[.string ⟨#[83]⟩, .bool true, .func (.func 132) #[] #[]]
          generalize wr.alloc (.cells #[.string ⟨#[83]⟩, .bool true, .func (.func 132) #[] #[]] 107) = v2 at *
          obtain ⟨a0, a1, a2, -⟩ := K2.trio
          have al := K2.lt
          refine (HC.out v2).mono ?_
          rintro e w3 ⟨rfl, rfl⟩
          go_wp2_with fail
          refine (HRk.out w3 (hGw.trans hgb)).mono ?_
          rintro e w4 ⟨rfl, hg4⟩
          have P4 := (P2.gr hgb).gr hg4
          have hGf := (hGw.trans hgb).trans hg4
          obtain ⟨c0, c1, c2, c3, cf⟩ := four4 P4
          have cl := P4.lt
          obtain ⟨r0, r1, r2, r3, -⟩ := four4 (blk_set4 P4 (.int .i64 m0) (.int .i64 m1) (.int .i64 m2) (.int .i64 m3))
          clear a0 a1 a2 al
          go_wp2_with fail
          ((try simp only [Exit.inBlock, Exit.then]); refine bodyPost_ret (v := .tuple #[.agg #[.int .i64 (m0), .int .i64 (m1), .int .i64 (m2), .int .i64 (m3)], .bool fl]) (by simp [results, Tryz.results72, go_sem, r0, r1, r2, r3, World.cell?_setCell_same']) rfl ?_)
          rw [HR2.out]
          exact ⟨rfl, Gr.of_below (setc4 hGf.below (Nat.le_refl _) _ _ _ _)⟩
      · have HC := Lib.hid (HCP.out 84)
        have hix := fun W => idxK_2 W
        rcases (show Lib.hasPrefix q [84] = true ∨ Lib.hasPrefix q [84] = false by cases Lib.hasPrefix q [84] <;> simp) with hh | hh
        rotate_left
        · have HN := Lib.hid (lt_snoc HI.out (show Lib.hasPrefix q [ltA 2] = false from hh))
          rw [hh] at HC
          clear hh
          generalize (Lib.trimPrefix q [84]) = tp at *
          go_wp2_with fail
          refine (HC.out _).mono ?_
          rintro e w3 ⟨rfl, rfl⟩
          go_wp2_with fail
          go_roundw
          case rel => exact ⟨2 + 1, by omega, by first | rfl | go_num, HN, hG.alloc _⟩
          case measure => simp [intOf]
        · rw [hh] at HC
          obtain ⟨r, rfl⟩ := hp_some hh
          have HR := Lib.hid (rmI_cons (k := 2) r (show mvQ 84 = some 2 from by decide))
          rw [tp_cons] at HC
          have hrl : r.length ≤ 1048576 := by simp at hq; omega
          clear hh HI HCP
          have HR2 := Lib.hid (HR.out.trans (if_pos (by decide)))
          generalize hrv : rmV 2 (cutC r).1 (cutC r).2 = V at *
          have HRk := Lib.hid (fun W hg => HRf.out 2 r W hrl hg)
          rw [hrv] at HRk
          obtain ⟨⟨m0, m1, m2, m3⟩, fl⟩ := V
          clear hrv HRf HR
          simp only [mvTup] at HRk
          go_wp2_with fail
          have hgb : Gr wr (wr.alloc (.cells #[.string ⟨#[84]⟩, .bool true, .func (.func 133) #[] #[]] 107)) := (by repeat (first | with_reducible exact Gr.refl _ | with_reducible refine Gr.alloc ?_ _ | with_reducible refine Gr.gr ?_ _ _ | with_reducible refine Gr.drew ?_ | with_reducible refine Gr.drewN ?_ _))
          have K2 := Blk.new wr 107 #[.string ⟨#[84]⟩, .bool true, .func (.func 133) #[] #[]]
          generalize wr.alloc (.cells #[.string ⟨#[84]⟩, .bool true, .func (.func 133) #[] #[]] 107) = v2 at *
          obtain ⟨a0, a1, a2, -⟩ := K2.trio
          have al := K2.lt
          refine (HC.out v2).mono ?_
          rintro e w3 ⟨rfl, rfl⟩
          go_wp2_with fail
          refine (HRk.out w3 (hGw.trans hgb)).mono ?_
          rintro e w4 ⟨rfl, hg4⟩
          have P4 := (P2.gr hgb).gr hg4
          have hGf := (hGw.trans hgb).trans hg4
          obtain ⟨c0, c1, c2, c3, cf⟩ := four4 P4
          have cl := P4.lt
          obtain ⟨r0, r1, r2, r3, -⟩ := four4 (blk_set4 P4 (.int .i64 m0) (.int .i64 m1) (.int .i64 m2) (.int .i64 m3))
          clear a0 a1 a2 al
          go_wp2_with fail
          ((try simp only [Exit.inBlock, Exit.then]); refine bodyPost_ret (v := .tuple #[.agg #[.int .i64 (m0), .int .i64 (m1), .int .i64 (m2), .int .i64 (m3)], .bool fl]) (by simp [results, Tryz.results72, go_sem, r0, r1, r2, r3, World.cell?_setCell_same']) rfl ?_)
          rw [HR2.out]
          exact ⟨rfl, Gr.of_below (setc4 hGf.below (Nat.le_refl _) _ _ _ _)⟩
      · have HC := Lib.hid (HCP.out 76)
        have hix := fun W => idxK_3 W
        rcases (show Lib.hasPrefix q [76] = true ∨ Lib.hasPrefix q [76] = false by cases Lib.hasPrefix q [76] <;> simp) with hh | hh
        rotate_left
        · have HN := Lib.hid (lt_snoc HI.out (show Lib.hasPrefix q [ltA 3] = false from hh))
          rw [hh] at HC
          clear hh
          generalize (Lib.trimPrefix q [76]) = tp at *
          go_wp2_with fail
          refine (HC.out _).mono ?_
          rintro e w3 ⟨rfl, rfl⟩
          go_wp2_with fail
          go_roundw
          case rel => exact ⟨3 + 1, by omega, by first | rfl | go_num, HN, hG.alloc _⟩
          case measure => simp [intOf]
        · rw [hh] at HC
          obtain ⟨r, rfl⟩ := hp_some hh
          have HR := Lib.hid (rmI_cons (k := 3) r (show mvQ 76 = some 3 from by decide))
          rw [tp_cons] at HC
          have hrl : r.length ≤ 1048576 := by simp at hq; omega
          clear hh HI HCP
          have HR2 := Lib.hid (HR.out.trans (if_neg (by decide)))
          clear HRf HR
          obtain ⟨em, hem⟩ : ∃ em, r.isEmpty = em := ⟨_, rfl⟩
          rw [hem] at HR2
          go_wp2_with fail
          have hgb : Gr wr (wr.alloc (.cells #[.string ⟨#[76]⟩, .bool false, .func (.func 135) #[] #[]] 107)) := (by repeat (first | with_reducible exact Gr.refl _ | with_reducible refine Gr.alloc ?_ _ | with_reducible refine Gr.gr ?_ _ _ | with_reducible refine Gr.drew ?_ | with_reducible refine Gr.drewN ?_ _))
          have K2 := Blk.new wr 107 #[.string ⟨#[76]⟩, .bool false, .func (.func 135) #[] #[]]
          generalize wr.alloc (.cells #[.string ⟨#[76]⟩, .bool false, .func (.func 135) #[] #[]] 107) = v2 at *
          obtain ⟨a0, a1, a2, -⟩ := K2.trio
          have al := K2.lt
          have P4 := P2.gr hgb
          have hGf := hGw.trans hgb
          obtain ⟨c0, c1, c2, c3, cf⟩ := four4 P4
          have cl := P4.lt
          obtain ⟨r0, r1, r2, r3, -⟩ := four4 (blk_set4 P4 (.int .i64 3) (.int .i64 0) (.int .i64 0) (.int .i64 0))
          refine (HC.out v2).mono ?_
          rintro e w3 ⟨rfl, rfl⟩
          go_wp2_with fail
          ((try simp only [Exit.inBlock, Exit.then]); refine bodyPost_ret (v := .tuple #[.agg #[.int .i64 (3), .int .i64 (0), .int .i64 (0), .int .i64 (0)], .bool em]) (by simp [results, Tryz.results72, go_sem, r0, r1, r2, r3, World.cell?_setCell_same']) rfl ?_)
          rw [HR2.out]
          exact ⟨rfl, Gr.of_below (setc4 hGf.below (Nat.le_refl _) _ _ _ _)⟩
      · have HC := Lib.hid (HCP.out 82)
        have hix := fun W => idxK_4 W
        rcases (show Lib.hasPrefix q [82] = true ∨ Lib.hasPrefix q [82] = false by cases Lib.hasPrefix q [82] <;> simp) with hh | hh
        rotate_left
        · have HN := Lib.hid (lt_snoc HI.out (show Lib.hasPrefix q [ltA 4] = false from hh))
          rw [hh] at HC
          clear hh
          generalize (Lib.trimPrefix q [82]) = tp at *
          go_wp2_with fail
          refine (HC.out _).mono ?_
          rintro e w3 ⟨rfl, rfl⟩
          go_wp2_with fail
          go_roundw
          case rel => exact ⟨4 + 1, by omega, by first | rfl | go_num, HN, hG.alloc _⟩
          case measure => simp [intOf]
        · rw [hh] at HC
          obtain ⟨r, rfl⟩ := hp_some hh
          have HR := Lib.hid (rmI_cons (k := 4) r (show mvQ 82 = some 4 from by decide))
          rw [tp_cons] at HC
          have hrl : r.length ≤ 1048576 := by simp at hq; omega
          clear hh HI HCP
          have HR2 := Lib.hid (HR.out.trans (if_neg (by decide)))
          clear HRf HR
          obtain ⟨em, hem⟩ : ∃ em, r.isEmpty = em := ⟨_, rfl⟩
          rw [hem] at HR2
          go_wp2_with fail
          have hgb : Gr wr (wr.alloc (.cells #[.string ⟨#[82]⟩, .bool false, .func (.func 137) #[] #[]] 107)) := (by repeat (first | with_reducible exact Gr.refl _ | with_reducible refine Gr.alloc ?_ _ | with_reducible refine Gr.gr ?_ _ _ | with_reducible refine Gr.drew ?_ | with_reducible refine Gr.drewN ?_ _))
          have K2 := Blk.new wr 107 #[.string ⟨#[82]⟩, .bool false, .func (.func 137) #[] #[]]
          generalize wr.alloc (.cells #[.string ⟨#[82]⟩, .bool false, .func (.func 137) #[] #[]] 107) = v2 at *
          obtain ⟨a0, a1, a2, -⟩ := K2.trio
          have al := K2.lt
          have P4 := P2.gr hgb
          have hGf := hGw.trans hgb
          obtain ⟨c0, c1, c2, c3, cf⟩ := four4 P4
          have cl := P4.lt
          obtain ⟨r0, r1, r2, r3, -⟩ := four4 (blk_set4 P4 (.int .i64 4) (.int .i64 0) (.int .i64 0) (.int .i64 0))
          refine (HC.out v2).mono ?_
          rintro e w3 ⟨rfl, rfl⟩
          go_wp2_with fail
          ((try simp only [Exit.inBlock, Exit.then]); refine bodyPost_ret (v := .tuple #[.agg #[.int .i64 (4), .int .i64 (0), .int .i64 (0), .int .i64 (0)], .bool em]) (by simp [results, Tryz.results72, go_sem, r0, r1, r2, r3, World.cell?_setCell_same']) rfl ?_)
          rw [HR2.out]
          exact ⟨rfl, Gr.of_below (setc4 hGf.below (Nat.le_refl _) _ _ _ _)⟩
      · have HC := Lib.hid (HCP.out 108)
        have hix := fun W => idxK_5 W
        rcases (show Lib.hasPrefix q [108] = true ∨ Lib.hasPrefix q [108] = false by cases Lib.hasPrefix q [108] <;> simp) with hh | hh
        rotate_left
        · have HN := Lib.hid (lt_snoc HI.out (show Lib.hasPrefix q [ltA 5] = false from hh))
          rw [hh] at HC
          clear hh
          generalize (Lib.trimPrefix q [108]) = tp at *
          go_wp2_with fail
          refine (HC.out _).mono ?_
          rintro e w3 ⟨rfl, rfl⟩
          go_wp2_with fail
          go_roundw
          case rel => exact ⟨5 + 1, by omega, by first | rfl | go_num, HN, hG.alloc _⟩
          case measure => simp [intOf]
        · rw [hh] at HC
          obtain ⟨r, rfl⟩ := hp_some hh
          have HR := Lib.hid (rmI_cons (k := 5) r (show mvQ 108 = some 5 from by decide))
          rw [tp_cons] at HC
          have hrl : r.length ≤ 1048576 := by simp at hq; omega
          clear hh HI HCP
          have HR2 := Lib.hid (HR.out.trans (if_neg (by decide)))
          clear HRf HR
          obtain ⟨em, hem⟩ : ∃ em, r.isEmpty = em := ⟨_, rfl⟩
          rw [hem] at HR2
          go_wp2_with fail
          have hgb : Gr wr (wr.alloc (.cells #[.string ⟨#[108]⟩, .bool false, .func (.func 138) #[] #[]] 107)) := (by repeat (first | with_reducible exact Gr.refl _ | with_reducible refine Gr.alloc ?_ _ | with_reducible refine Gr.gr ?_ _ _ | with_reducible refine Gr.drew ?_ | with_reducible refine Gr.drewN ?_ _))
          have K2 := Blk.new wr 107 #[.string ⟨#[108]⟩, .bool false, .func (.func 138) #[] #[]]
          generalize wr.alloc (.cells #[.string ⟨#[108]⟩, .bool false, .func (.func 138) #[] #[]] 107) = v2 at *
          obtain ⟨a0, a1, a2, -⟩ := K2.trio
          have al := K2.lt
          have P4 := P2.gr hgb
          have hGf := hGw.trans hgb
          obtain ⟨c0, c1, c2, c3, cf⟩ := four4 P4
          have cl := P4.lt
          obtain ⟨r0, r1, r2, r3, -⟩ := four4 (blk_set4 P4 (.int .i64 5) (.int .i64 0) (.int .i64 0) (.int .i64 0))
          refine (HC.out v2).mono ?_
          rintro e w3 ⟨rfl, rfl⟩
          go_wp2_with fail
          ((try simp only [Exit.inBlock, Exit.then]); refine bodyPost_ret (v := .tuple #[.agg #[.int .i64 (5), .int .i64 (0), .int .i64 (0), .int .i64 (0)], .bool em]) (by simp [results, Tryz.results72, go_sem, r0, r1, r2, r3, World.cell?_setCell_same']) rfl ?_)
          rw [HR2.out]
          exact ⟨rfl, Gr.of_below (setc4 hGf.below (Nat.le_refl _) _ _ _ _)⟩
      · have HC := Lib.hid (HCP.out 114)
        have hix := fun W => idxK_6 W
        rcases (show Lib.hasPrefix q [114] = true ∨ Lib.hasPrefix q [114] = false by cases Lib.hasPrefix q [114] <;> simp) with hh | hh
        rotate_left
        · have HN := Lib.hid (lt_snoc HI.out (show Lib.hasPrefix q [ltA 6] = false from hh))
          rw [hh] at HC
          clear hh
          generalize (Lib.trimPrefix q [114]) = tp at *
          go_wp2_with fail
          refine (HC.out _).mono ?_
          rintro e w3 ⟨rfl, rfl⟩
          go_wp2_with fail
          go_roundw
          case rel => exact ⟨6 + 1, by omega, by first | rfl | go_num, HN, hG.alloc _⟩
          case measure => simp [intOf]
        · rw [hh] at HC
          obtain ⟨r, rfl⟩ := hp_some hh
          have HR := Lib.hid (rmI_cons (k := 6) r (show mvQ 114 = some 6 from by decide))
          rw [tp_cons] at HC
          have hrl : r.length ≤ 1048576 := by simp at hq; omega
          clear hh HI HCP
          have HR2 := Lib.hid (HR.out.trans (if_neg (by decide)))
          clear HRf HR
          obtain ⟨em, hem⟩ : ∃ em, r.isEmpty = em := ⟨_, rfl⟩
          rw [hem] at HR2
          go_wp2_with fail
          have hgb : Gr wr (wr.alloc (.cells #[.string ⟨#[114]⟩, .bool false, .func (.func 139) #[] #[]] 107)) := (by repeat (first | with_reducible exact Gr.refl _ | with_reducible refine Gr.alloc ?_ _ | with_reducible refine Gr.gr ?_ _ _ | with_reducible refine Gr.drew ?_ | with_reducible refine Gr.drewN ?_ _))
          have K2 := Blk.new wr 107 #[.string ⟨#[114]⟩, .bool false, .func (.func 139) #[] #[]]
          generalize wr.alloc (.cells #[.string ⟨#[114]⟩, .bool false, .func (.func 139) #[] #[]] 107) = v2 at *
          obtain ⟨a0, a1, a2, -⟩ := K2.trio
          have al := K2.lt
          have P4 := P2.gr hgb
          have hGf := hGw.trans hgb
          obtain ⟨c0, c1, c2, c3, cf⟩ := four4 P4
          have cl := P4.lt
          obtain ⟨r0, r1, r2, r3, -⟩ := four4 (blk_set4 P4 (.int .i64 6) (.int .i64 0) (.int .i64 0) (.int .i64 0))
          refine (HC.out v2).mono ?_
          rintro e w3 ⟨rfl, rfl⟩
          go_wp2_with fail
          ((try simp only [Exit.inBlock, Exit.then]); refine bodyPost_ret (v := .tuple #[.agg #[.int .i64 (6), .int .i64 (0), .int .i64 (0), .int .i64 (0)], .bool em]) (by simp [results, Tryz.results72, go_sem, r0, r1, r2, r3, World.cell?_setCell_same']) rfl ?_)
          rw [HR2.out]
          exact ⟨rfl, Gr.of_below (setc4 hGf.below (Nat.le_refl _) _ _ _ _)⟩
    · obtain rfl : k = 7 := by omega
      have HN := Lib.hid (rmI_none ⟨HI.out 0 (by omega), HI.out 1 (by omega), HI.out 2 (by omega), HI.out 3 (by omega), HI.out 4 (by omega), HI.out 5 (by omega), HI.out 6 (by omega)⟩)
      have P2 := P.gr hG
      have hGw := hG0.trans hG
      obtain ⟨c0, c1, c2, c3, cf⟩ := four4 P2
      have cl := P2.lt
      obtain ⟨r0, r1, r2, r3, -⟩ := four4 (blk_set4 P2 (.int .i64 0) (.int .i64 0) (.int .i64 0) (.int .i64 0))
      go_wp2_with fail
      ((try simp only [Exit.inBlock, Exit.then]); refine bodyPost_ret (v := .tuple #[.agg #[.int .i64 (0), .int .i64 (0), .int .i64 (0), .int .i64 (0)], .bool false]) (by simp [results, Tryz.results72, go_sem, r0, r1, r2, r3, World.cell?_setCell_same']) rfl ?_)
      rw [HN.out]
      exact ⟨rfl, Gr.of_below (setc4 hGw.below (Nat.le_refl _) _ _ _ _)⟩
end Go.Proofs.YtefhhigcplemaaaGreatDoor

/- Contracts: moves read from a text, in the model. -/
namespace Go.Proofs.YtefhhigcplemaaaGreatDoor
open Go.RowKit Go.ChangeShapes Go.WideShapes Go.ChangeAt
set_option linter.unusedVariables false
set_option linter.unusedSimpArgs false

theorem mcl_len (m : Mv) : (mcl m).length = 4 := rfl
/-- Moves were read, or none. -/
def RmR (r : Option (List Mv)) (w : World) (e : Ending) (w' : World) : Prop :=
  (∃ v, e = .returned (.tuple #[v, .int .i64 (if r.isSome = true then 0 else 6)]) ∧ LstG mcl 4 39 w' w.heap.size v (r.getD [])) ∧ Below w.heap.size w w'
theorem RmR.no {w w' : World} (h : Below w.heap.size w w') : RmR none w (.returned (.tuple #[.slice none 0 0, .int .i64 6])) w' := ⟨⟨_, rfl, World.ownsRow_nil _ _ _ _⟩, h⟩
theorem LstG.appM {T : TypeId} {w wr w1 : World} {B : Nat} {v v' : Value} {xs : List Mv} {a b c d : Int} {o : Obj} (hb : Below B w wr) (hB : B ≤ wr.heap.size) (hx : (wr.alloc o).ownsRow B T 4 v xs.length (xs.flatMap mcl)) (h' : w1.ownsRow B T 4 v' (xs.length + 1) (xs.flatMap mcl ++ [vi a, vi b, vi c, vi d])) (hg : (wr.alloc o).grownBy w1 v.ownBlock) :
    LstG mcl 4 T w1 B v' (xs ++ [(a, b, c, d)]) ∧ Below B w w1 := by
  refine ⟨?_, (hb.alloc hB o).grown hg (by simp; omega) (fun k hk => (hx.lt k hk).1)⟩
  unfold LstG
  rw [List.flatMap_append, List.length_append]
  exact h'
theorem cells4_new (w : World) (x y z u : Value) (t : TypeId) : ∀ j v, [x, y, z, u][j]? = some v → (w.alloc (.cells #[x, y, z, u] t)).cell? ((⟨w.heap.size, 0, none⟩ : Addr).add j) = some v := by
  intro j v hj
  match j, hj with
  | 0, hj => simp at hj; subst hj; simp [Addr.add]
  | 1, hj => simp at hj; subst hj; simp [Addr.add]
  | 2, hj => simp at hj; subst hj; simp [Addr.add]
  | 3, hj => simp at hj; subst hj; simp [Addr.add]
theorem info_move : (Tryz.prog.info? 39).map (fun i => (i.zero, i.size, i.bytes)) = some (some (.agg #[vi 0, vi 0, vi 0, vi 0]), 4, 32) := by kernel_rfl
theorem rmO_zero (s : ByteArray) (h : s.size = 0) : rmO s = some [] := if_pos h
theorem rmO_pos (s : ByteArray) (h : s.size ≠ 0) : rmO s = rmW rmS (spB s.data.toList) := if_neg h

set_option maxRecDepth 100000 in
set_option maxHeartbeats 8000000 in
theorem readMoves_spec (s : ByteArray) (w : World) (hs : s.size ≤ 1048576) :
    Calls Tryz.prog 26 #[.string s] w (RmR (rmO s) w) := by
  obtain ⟨j0, hj, hy0, hy1, hy2⟩ := info_parts info_move
  by_cases h0 : s.size = 0
  · have HR := Lib.hid (rmO_zero s h0)
    have hse : s = ⟨#[]⟩ := ByteArray.ext (Array.eq_empty_of_size_eq_zero h0)
    subst hse
    go_enter Tryz.func26, Tryz.ntmps26
    go_wp2
    go_ret2
    rw [HR.out]
    exact ⟨⟨_, rfl, LstG.new _ _ _ (Nat.le_refl _)⟩, (Below.refl _ _).alloc (Nat.le_refl _) _⟩
  have hne : s.toList.isEmpty = false := by
    rw [ByteArray.toList_eq]
    cases hc : s.data.toList with
    | nil => have := len_data s; rw [hc] at this; simp at this; omega
    | cons b r => rfl
  have HSP := Lib.hid (spB_size s.data.toList)
  have HSL := Lib.hid (spB_length s.data.toList)
  have HLD := Lib.hid (len_data s)
  have HRG := Lib.hid (rmO_pos s h0)
  clear h0
  go_enter Tryz.func26, Tryz.ntmps26
  go_wp2_with fail
  refine (splitB_spec s w hs).mono ?_
  generalize spB s.data.toList = ws at *
  generalize rmO s = rr at *
  rintro e w1 ⟨u, rfl, hown, hb1⟩
  obtain ⟨gw, cw, rfl, hgw1, hgw2, hrw⟩ := hown.reads
  obtain ⟨q, hq⟩ : ∃ q, ws.length = q := ⟨_, rfl⟩
  rw [List.length_map, hq]
  have HQ := Lib.hid hq
  have hq2 : q ≤ 1048577 := by have := HSL.out; rw [HLD.out] at this; omega
  have HRW := Lib.hid hrw
  have HB1 := Lib.hid hb1
  have hb1s := hb1.size
  clear hown hq hrw hb1
  have HO0 : Hid (LstG mcl 4 39 (w1.alloc (.cells #[] 39)) w1.heap.size (.slice (some ⟨w1.heap.size, 0, none⟩) 0 0) []) := Lib.hid (LstG.new _ _ _ (Nat.le_refl _))
  have HW0 : Hid (Below w1.heap.size w1 (w1.alloc (.cells #[] 39))) := Lib.hid ((Below.refl _ _).alloc (Nat.le_refl _) _)
  go_wp2_with fail
  generalize w1.alloc (.cells #[] 39) = w2 at *
  go_loopw [5, 6] (fun v i wr => ∃ k : Nat, i = .int .i64 k ∧ k ≤ q ∧ Hid ((ws.take k).all (fun x => (rmS x).2) = true) ∧ Hid (LstG mcl 4 39 wr w1.heap.size v ((ws.take k).map fun x => (rmS x).1)) ∧ Hid (Below w1.heap.size w1 wr)) (fun _ i _ => q - (intOf i).toNat)
  case atStart => exact ⟨0, rfl, by omega, Lib.hid (by simp), by simpa using HO0, HW0⟩
  case round =>
    obtain ⟨k, rfl, hk, HOK, HO, HW⟩ := hrel
    clear HO0 HW0
    have hsz := HW.out.size
    have HBW := Lib.hid (HB1.out.trans (HW.out.mono hb1s))
    by_cases hlt : k < q
    · obtain ⟨p, hp⟩ := some_at (l := ws) (k := k) (by rw [HQ.out]; exact hlt)
      have HP := Lib.hid hp
      have hps := HSP.out p (List.mem_of_getElem? hp)
      rw [HLD.out] at hps
      obtain ⟨g9, o9, e9, hg9, hc9⟩ := HRW.out.at_ (map_at (f := sv) hp)
      injection e9 with e9
      injection e9 with e91 e92
      subst e91
      subst e92
      have hc : wr.cell? ⟨gw, k, none⟩ = some (.string ⟨p.toArray⟩) := (HW.out.cell (p := ⟨gw, k, none⟩) hgw2).trans (by rw [Nat.zero_add] at hc9; exact hc9)
      have hlen : ((ws.take k).map fun x => (rmS x).1).length ≤ 1048577 := by rw [List.length_map, List.length_take]; omega
      have HRd := Lib.hid (show Calls Tryz.prog 74 #[.string ⟨p.toArray⟩] wr (fun e w' => e = .returned (mvTup (rmS p)) ∧ Gr wr w') from read12_spec ⟨p.toArray⟩ wr (by show (List.toArray p).size ≤ _; rw [List.size_toArray]; omega))
      have HNo := Lib.hid (fun (h : (rmS p).2 = false) => HRG.out.trans (rmW_bad hp h))
      have HT1 := Lib.hid (fun (h : (rmS p).2 = true) => all_snoc (f := fun x => (rmS x).2) hp HOK.out h)
      have HT2 : Hid (((ws.take (k + 1)).map fun x => (rmS x).1) = ((ws.take k).map fun x => (rmS x).1) ++ [(rmS p).1]) := Lib.hid (by
        obtain ⟨hh, e⟩ := List.getElem?_eq_some_iff.1 hp
        rw [List.take_succ_eq_append_getElem hh, e, List.map_append]
        simp)
      clear hp hc9 HRG
      generalize (ws.take k).map (fun x => (rmS x).1) = xs at *
      generalize rmS p = rp at *
      obtain ⟨⟨a, b, c, d⟩, ok⟩ := rp
      simp only [mvTup] at HRd
      simp only at HNo HT1 HT2
      go_wp2_with fail
      refine HRd.out.mono ?_
      rintro e w3 ⟨rfl, hg3⟩
      have hW3 := HW.out.trans (hg3.below.mono hsz)
      have hO3 := Lib.hid (LstG.below HO.out hg3.below)
      have hs3 := hW3.size
      clear hg3 HRd hc
      cases ok
      · have HN := Lib.hid (HNo.out rfl)
        have HW4 := Lib.hid (HB1.out.trans (hW3.mono hb1s))
        go_wp2_with fail
        go_ret2
        rw [HN.out]
        exact RmR.no (HW4.out.trans ((show Gr w3 _ from (by repeat (first | with_reducible exact Gr.refl _ | with_reducible refine Gr.alloc ?_ _ | with_reducible refine Gr.gr ?_ _ _ | with_reducible refine Gr.drew ?_ | with_reducible refine Gr.drewN ?_ _))).below.mono HW4.out.size))
      · have HT := Lib.hid (HT1.out rfl)
        have hz1 : xs.length + 1 ≤ maxLen := by unfold maxLen; omega
        have hz2 : (xs.length + 1) * 32 ≤ 140737488355328 := by omega
        clear HNo HT1
        have HO4 := Lib.hid (LstG.below hO3.out ((Below.refl w3.heap.size w3).alloc (Nat.le_refl _) (.cells #[vi a, vi b, vi c, vi d] 39)))
        have HB4 : Hid (Below w1.heap.size w1 (w3.alloc (.cells #[vi a, vi b, vi c, vi d] 39))) := Lib.hid (hW3.alloc hs3 _)
        have HC4 := Lib.hid (cells4_new (w3.alloc (.cells #[vi a, vi b, vi c, vi d] 39)) (vi a) (vi b) (vi c) (vi d) 39)
        have hz4 : w1.heap.size ≤ w3.heap.size + 1 + 1 := by omega
        go_wp2_with (at_builtin; refine wpList_append_own _ rfl _ _ 29 rfl w1.heap.size 39 j0 (.agg #[vi 0, vi 0, vi 0, vi 0]) 4 32 Tryz.underlying29 hj hy0 hy1 hy2 rfl (by decide) _ _ _ rfl (World.ownsRow.alloc HO4.out _) ⟨w3.heap.size + 1, 0, none⟩ 1 1 [vi a, vi b, vi c, vi d] rfl rfl (by simpa using HC4.out) (by simp [Value.oneCell']) (by omega) (by omega) (by simp; omega) ?_; intro v' w4 hown' hgrow _; obtain ⟨hA1, hA2⟩ := LstG.appM HB4.out (by simp; omega) (World.ownsRow.alloc HO4.out _) hown' hgrow; have HA1 := Lib.hid hA1; have HA2 := Lib.hid hA2; clear hA1 hA2 hown' hgrow)
        refine ⟨⟨k + 1, by simp, by omega, HT, ?_, HA2⟩, by simp [intOf]; omega⟩
        rw [HT2.out]
        exact HA1
    · have hkq : k = q := by omega
      have htk : ws.take k = ws := List.take_of_length_le (by rw [hkq, HQ.out]; exact Nat.le_refl _)
      rw [htk] at HO HOK
      have HR := Lib.hid (HRG.out.trans (rmW_all HOK.out))
      have hml : (ws.map fun x => (rmS x).1).length = q := by rw [List.length_map, HQ.out]
      clear HRG HOK htk
      generalize ws.map (fun x => (rmS x).1) = ms at *
      have HO5 := HO
      obtain ⟨A, c, rfl, hread⟩ := LstG.slice HO.out
      rw [hml] at HO
      have HC : Hid (Calls Tryz.prog 63 #[.slice A q c] wr (fun e w' => e = .returned (.int .i64 (mvC ms)) ∧ Gr wr w')) := Lib.hid (mcode_spec A q c ms wr hml (by omega) hread)
      rw [hml] at HO5 ⊢
      have HML := Lib.hid hml
      have HSZ := Lib.hid (Nat.le_trans hb1s hsz)
      clear hread hml
      go_wp2_with fail
      refine HC.out.mono ?_
      rintro e w5 ⟨rfl, hg5⟩
      have HB5 := Lib.hid (HBW.out.trans (hg5.below.mono HSZ.out))
      have HO6 := Lib.hid (LstG.mono (LstG.below HO5.out hg5.below) hb1s)
      generalize mvC ms = cc at *
      by_cases hm : cc = 0
      · subst hm
        have HR2 := Lib.hid (HR.out.trans (if_pos rfl))
        go_wp2_with fail
        go_ret2
        rw [HR2.out]
        exact ⟨⟨_, rfl, HO6.out⟩, HB5.out⟩
      · have HR2 := Lib.hid (HR.out.trans (if_neg hm))
        go_wp2_with fail
        go_ret2
        rw [HR2.out]
        exact RmR.no HB5.out
end Go.Proofs.YtefhhigcplemaaaGreatDoor

/- Contracts: moves read from a text, in the program. -/
namespace Go.Proofs.YtefhhigcplemaaaGreatDoor
open Go.RowKit Go.ChangeShapes Go.WideShapes Go.ChangeAt
set_option linter.unusedVariables false
set_option linter.unusedSimpArgs false

theorem rmO_wds (s : ByteArray) (h0 : s.size ≠ 0) : rmO s = rmW rmI (wdN 32 31 s) := by
  rw [rmO_pos s h0, rmW_same]
  have e := wdN_eq 32 31 s
  have hs := spB_length s.data.toList
  rw [len_data] at hs
  obtain ⟨h1, h2⟩ := splitK_spB (min 31 (s.size + 1) - 1) s.data.toList
  by_cases h : 30 < (spB s.data.toList).length
  · rw [rmW_long h, rmW_long]
    rw [e]
    by_cases hc : (spB s.data.toList).length ≤ min 31 (s.size + 1) - 1 + 1
    · rw [h1 hc]; exact h
    · rw [h2 (by omega)]; omega
  · rw [e, h1 (by omega)]

set_option maxHeartbeats 4000000 in
set_option maxRecDepth 100000 in
theorem readMoves_impl (s : ByteArray) (w : World) (hs : s.size ≤ 1048576) (hM : Nms w) (hE : Errs w) (hT : Tab w) (hsh : w.ShapedOpen Tryz.prog) :
    Calls Tryz.prog 25 #[.string s] w (RmR (rmO s) w) := by
  by_cases h0 : s.size = 0
  · have HR := Lib.hid (rmO_zero s h0)
    have hse : s = ⟨#[]⟩ := ByteArray.ext (Array.eq_empty_of_size_eq_zero h0)
    subst hse
    go_enter Tryz.func25, Tryz.ntmps25
    go_wp2
    go_ret2
    rw [HR.out]
    exact ⟨⟨_, rfl, LstG.new _ _ _ (Nat.le_refl _)⟩, (Below.refl _ _).alloc (Nat.le_refl _) _⟩
  have hne : s.toList.isEmpty = false := by
    rw [ByteArray.toList_eq]
    cases hc : s.data.toList with
    | nil => have := len_data s; rw [hc] at this; simp at this; omega
    | cons b r => rfl
  have HM := Lib.hid hM
  have HE := Lib.hid hE
  have HT := Lib.hid hT
  have HSH := Lib.hid hsh
  clear hM hE hT hsh
  have HS := Lib.hid (Tryz.strings_SplitN_shaped s ⟨#[32]⟩ 31 w HSH.out (by omega) (by decide) (by omega) (by omega))
  have HPL := Lib.hid (show (Lib.splitB ⟨#[32]⟩ 0 (min 31 (s.size + 1) - 1) s).length = (wdN 32 31 s).length from (wdN_pcs 32 31 s).symm)
  have HRG := Lib.hid (rmO_wds s h0)
  clear h0
  generalize rmO s = rr at *
  have HSZ := Lib.hid (fun p hp => wdN_size 32 31 s p hp)
  have HCC := Lib.hid (fun k p h => wdN_cell 32 31 s (min 31 (s.size + 1)) k p h)
  have HPC := Lib.hid (show Lib.cellsOf (Lib.splitB ⟨#[32]⟩ 0 (min 31 (s.size + 1) - 1) s) (min 31 (s.size + 1)) = Lib.cellsOf (pcN 32 31 s) (min 31 (s.size + 1)) from rfl)
  have hlen := wdN_len 32 31 s (by omega)
  generalize wdN 32 31 s = ws at *
  obtain ⟨n, hn⟩ : ∃ n, ws.length = n := ⟨_, rfl⟩
  rw [hn] at hlen HPL
  have HN := Lib.hid hn
  have HL := Lib.hid (show (ws.map fun x => (rmI x).1).length = n by rw [List.length_map, hn])
  clear hn
  have hmk := mkMoves n (by omega)
  go_enter Tryz.func25, Tryz.ntmps25
  go_wp2_with fail
  refine HS.out.mono ?_
  rintro e w1 ⟨rfl, rfl⟩
  rw [HPL.out, HPC.out]
  generalize Lib.cellsOf (pcN 32 31 s) (min 31 (s.size + 1)) = cs at *
  have hcell : ∀ k p, ws[k]? = some p → (w.alloc (.cells cs 9)).cell? ⟨w.heap.size, k, none⟩ = some (sv p) := fun k p h => by
    rw [World.cell?_alloc_at _ _ _ _ rfl]; exact HCC.out k p h
  have HCE := Lib.hid hcell
  have hB1 : Below w.heap.size w (w.alloc (.cells cs 9)) := (Below.refl _ _).alloc (Nat.le_refl _) _
  clear hcell HCC
  have hsz1 : (w.alloc (.cells cs 9)).heap.size = w.heap.size + 1 := World.size_alloc ..
  have HZ := Lib.hid hsz1
  clear hsz1
  generalize w.alloc (.cells cs 9) = w1 at *
  have hl0 : w.heap.size < w1.heap.size := by rw [HZ.out]; omega
  go_wp2_with fail
  clear hmk
  go_loopw [20] (fun i wr => ∃ k : Nat, k ≤ n ∧ i = .int .i64 k ∧ Hid ((ws.take k).all (fun x => (rmI x).2) = true) ∧ Row wr w1.heap.size 39 (fill4 (ws.map fun x => (rmI x).1) k) ∧ Below w1.heap.size w1 wr) (fun i _ => n - (intOf i).toNat)
  case atStart => exact ⟨0, by omega, rfl, Lib.hid (by simp), by rw [fill4_zero, HL.out]; exact Row.new w1 _ _, (Below.refl _ _).alloc (Nat.le_refl _) _⟩
  case round =>
    obtain ⟨k, hk, rfl, hok, hrow, hbl⟩ := hrel
    have hBw := hB1.trans (hbl.mono (Nat.le_of_lt hl0))
    by_cases hlt : k < n
    · obtain ⟨p, hp⟩ := some_at (l := ws) (k := k) (by rw [HN.out]; exact hlt)
      have HP := Lib.hid hp
      have hc : wr.cell? ⟨w.heap.size, k, none⟩ = some (.string ⟨p.toArray⟩) := (hbl.cell (p := ⟨w.heap.size, k, none⟩) hl0).trans (HCE.out k p hp)
      have hz : (ws.map fun x => (rmI x).1)[k]? = some (rmI p).1 := by rw [List.getElem?_map, hp]; rfl
      have FS := Lib.hid (fill4_put (ws.map fun x => (rmI x).1) k (rmI p).1 hz)
      have c0 := hrow.cell (k * 4)
      have c1 := hrow.cell (k * 4 + 1)
      have c2 := hrow.cell (k * 4 + 2)
      have c3 := hrow.cell (k * 4 + 3)
      obtain ⟨q0, q1, q2, q3⟩ := fill4_at (ws.map fun x => (rmI x).1) k (by rw [HL.out]; exact hlt)
      rw [q0] at c0
      rw [q1] at c1
      rw [q2] at c2
      rw [q3] at c3
      have fr := fun j => hrow.free j
      have lr := hrow.lt
      have hpl := HSZ.out p (List.mem_of_getElem? hp)
      have hC : Calls Tryz.prog 72 #[.string ⟨p.toArray⟩] wr fun e w' => e = .returned (.tuple #[.agg #[.int .i64 (rmI p).1.1, .int .i64 (rmI p).1.2.1, .int .i64 (rmI p).1.2.2.1, .int .i64 (rmI p).1.2.2.2], .bool (rmI p).2]) ∧ Gr wr w' :=
        readMove_impl p wr (by omega) (HM.out.gr (Gr.of_below hBw)) (HE.out.gr (Gr.of_below hBw)) (HT.out.gr (Gr.of_below hBw)) (HSH.out.keptBut ((hBw.mono (Nat.le_refl _)).frame fun _ => False) (fun _ h => h.elim) : World.ShapedOpen Tryz.prog wr)
      clear hp hz q0 q1 q2 q3 hpl
      cases hr : (rmI p).2
      · have HX : Hid (rr = none) := Lib.hid (HRG.out.trans (rmW_bad HP.out hr))
        rw [hr] at hC
        generalize (rmI p).1 = z at *
        obtain ⟨za, zb, zc, zd⟩ := z
        simp only at hC
        clear hr
        go_wp2_with fail
        refine hC.mono ?_
        rintro e w2 ⟨rfl, hg2⟩
        have HB2 := Lib.hid (hBw.trans ((hg2.alloc (.cells #[.int .i64 za, .int .i64 zb, .int .i64 zc, .int .i64 zd] 39)).below.mono hBw.size))
        go_wp2_with fail
        ((try simp only [Exit.inBlock, Exit.then]); refine bodyPost_ret (v := .tuple #[.slice none 0 0, .int .i64 6]) (by simp [results, Tryz.results25, go_sem]) rfl ?_)
        rw [HX.out]
        exact RmR.no HB2.out
      · have HT1 : Hid ((ws.take (k + 1)).all (fun x => (rmI x).2) = true) := Lib.hid (by
          obtain ⟨hh, e⟩ := List.getElem?_eq_some_iff.1 HP.out
          rw [List.take_succ_eq_append_getElem hh, e, List.all_append, hok.out]
          simp [hr])
        rw [hr] at hC
        generalize (rmI p).1 = z at *
        obtain ⟨za, zb, zc, zd⟩ := z
        simp only at hC FS
        clear hr
        go_wp2_with fail
        refine hC.mono ?_
        rintro e w2 ⟨rfl, k2, os2, rfl⟩
        clear hC
        go_wp2_with fail
        go_roundw
        case rel =>
          have X := below_grew ((((hbl.setCell (p := ⟨w1.heap.size, k * 4, none⟩) (Nat.le_refl _) (vi za)).setCell (p := ⟨w1.heap.size, k * 4 + 1, none⟩) (Nat.le_refl _) (vi zb)).setCell (p := ⟨w1.heap.size, k * 4 + 2, none⟩) (Nat.le_refl _) (vi zc)).setCell (p := ⟨w1.heap.size, k * 4 + 3, none⟩) (Nat.le_refl _) (vi zd)) (by simp [World.setCell]; omega) k2 os2
          refine ⟨k + 1, by omega, by go_num, HT1, ?_, X.trans (((Gr.refl _).alloc _).below.mono X.size)⟩
          rw [← FS.out]
          exact ((((((hrow.set (k * 4) (vi za)).set (k * 4 + 1) (vi zb)).set (k * 4 + 2) (vi zc)).set (k * 4 + 3) (vi zd)).gr ⟨k2, os2, rfl⟩).gr ((Gr.refl _).alloc (.cells #[.int .i64 za, .int .i64 zb, .int .i64 zc, .int .i64 zd] 39)))
        case measure => simp [intOf]; omega
    · obtain rfl : k = n := by omega
      have e : ws.take k = ws := List.take_of_length_le (by rw [HN.out]; omega)
      rw [e] at hok
      have HF := Lib.hid (fill4_all (ws.map fun x => (rmI x).1))
      rw [HL.out] at HF
      rw [HF.out] at hrow
      have HR := Lib.hid (HRG.out.trans (rmW_all hok.out))
      have HG := Lib.hid (areMoves_impl (some ⟨w1.heap.size, 0, none⟩) k k (ws.map fun x => (rmI x).1) wr HL.out (by omega) hrow.reads)
      have HB2 := Lib.hid hBw
      have HRW := Lib.hid hrow
      clear e HF HRG hok hrow hBw hbl
      generalize ws.map (fun x => (rmI x).1) = ms at *
      generalize hcc : mvC ms = cc at *
      by_cases hm : cc = 0
      · have HN2 := Lib.hid (HR.out.trans (if_pos hm))
        rw [decide_eq_true hm] at HG
        clear hm hcc
        go_wp2_with fail
        refine (HG.out).mono ?_
        rintro e w4 ⟨rfl, hg4⟩
        have HO4 := Lib.hid (LstG.of_row (cl := mcl) (m := 4) (xs := ms) (cap := k) (rest := []) mcl_len (Nat.le_of_lt hl0) (by rw [List.append_nil]; exact HRW.out.gr hg4) (by unfold maxLen; omega) (by rw [HL.out]; simp) (by rw [HL.out]; simp))
        go_wp2_with fail
        ((try simp only [Exit.inBlock, Exit.then]); refine bodyPost_ret (v := .tuple #[.slice (some ⟨w1.heap.size, 0, none⟩) k k, .int .i64 0]) (by simp [results, Tryz.results25, go_sem]) rfl ?_)
        rw [HN2.out]
        have hm := HL.out
        refine ⟨⟨_, rfl, ?_⟩, HB2.out.trans (hg4.below.mono HB2.out.size)⟩
        have h9 := HO4.out
        rw [hm] at h9
        exact h9
      · have HN2 := Lib.hid (HR.out.trans (if_neg hm))
        rw [decide_eq_false hm] at HG
        clear hm hcc
        go_wp2_with fail
        refine (HG.out).mono ?_
        rintro e w4 ⟨rfl, hg4⟩
        go_wp2_with fail
        ((try simp only [Exit.inBlock, Exit.then]); refine bodyPost_ret (v := .tuple #[.slice none 0 0, .int .i64 6]) (by simp [results, Tryz.results25, go_sem]) rfl ?_)
        rw [HN2.out]
        exact RmR.no (HB2.out.trans (hg4.below.mono HB2.out.size))
end Go.Proofs.YtefhhigcplemaaaGreatDoor

/- Lists of moves with room to spare, that a law marks and holds. -/
namespace Go.Proofs.YtefhhigcplemaaaGreatDoor
open Go.RowKit
set_option linter.unusedVariables false
set_option linter.unusedSimpArgs false

theorem mcells_one (m : Mv) : mcells [m] = mcl m := by simp [mcells]
def mkM (n : Nat) : List Mv := (List.range n).map fun (i : Nat) => ((1 + 4 * (i : Int), 1 + 4 * (i : Int) + 1, 1 + 4 * (i : Int) + 1 + 1, 1 + 4 * (i : Int) + 1 + 1 + 1) : Mv)
theorem mkM_len (n : Nat) : (mkM n).length = n := by simp [mkM]
theorem mkM_at (n k : Nat) (h : k < n) : (mkM n)[k]? = some (1 + 4 * (k : Int), 1 + 4 * (k : Int) + 1, 1 + 4 * (k : Int) + 1 + 1, 1 + 4 * (k : Int) + 1 + 1 + 1) := by simp [mkM, h]
def mixM (xs : List Mv) (k : Nat) : List Mv := (mkM xs.length).take k ++ xs.drop k
theorem mixM_len (xs : List Mv) (k : Nat) (h : k ≤ xs.length) : (mixM xs k).length = xs.length := by unfold mixM; rw [List.length_append, List.length_take, mkM_len, List.length_drop]; omega
theorem mixM_zero (xs : List Mv) : mixM xs 0 = xs := by simp [mixM]
theorem mixM_all (xs : List Mv) : mixM xs xs.length = mkM xs.length := by
  unfold mixM
  rw [List.drop_length, List.append_nil, List.take_of_length_le (by rw [mkM_len]; exact Nat.le_refl _)]
theorem mixM_at (xs : List Mv) (k : Nat) (h : k < xs.length) : (mixM xs k)[k]? = xs[k]? := by
  unfold mixM
  rw [List.getElem?_append_right (by rw [List.length_take, mkM_len]; omega), List.length_take, mkM_len, List.getElem?_drop]
  congr 1; omega
theorem mixM_cells (xs : List Mv) (rest : List Value) (k : Nat) (h : k < xs.length) :
    ((((mcells (mixM xs k) ++ rest).set (k * 4) (vi (1 + 4 * (k : Int)))).set (k * 4 + 1) (vi (1 + 4 * (k : Int) + 1))).set (k * 4 + 2) (vi (1 + 4 * (k : Int) + 1 + 1))).set (k * 4 + 3) (vi (1 + 4 * (k : Int) + 1 + 1 + 1)) = mcells (mixM xs (k + 1)) ++ rest := by
  have hl : (mcells ((mkM xs.length).take k)).length = k * 4 := by rw [mcells_len, List.length_take, mkM_len]; congr 1; omega
  obtain ⟨hm, e⟩ := List.getElem?_eq_some_iff.1 (mkM_at xs.length k h)
  have e1 : mcells (mixM xs k) = mcells ((mkM xs.length).take k) ++ (vi xs[k].1 :: vi xs[k].2.1 :: vi xs[k].2.2.1 :: vi xs[k].2.2.2 :: mcells (xs.drop (k + 1))) := by
    unfold mixM
    rw [mcells_append, List.drop_eq_getElem_cons h]
    rfl
  have e2 : mcells (mixM xs (k + 1)) = mcells ((mkM xs.length).take k) ++ (vi (1 + 4 * (k : Int)) :: vi (1 + 4 * (k : Int) + 1) :: vi (1 + 4 * (k : Int) + 1 + 1) :: vi (1 + 4 * (k : Int) + 1 + 1 + 1) :: mcells (xs.drop (k + 1))) := by
    unfold mixM
    rw [mcells_append, List.take_succ_eq_append_getElem hm, e, mcells_append, mcells_one, List.append_assoc]
    rfl
  rw [e1, e2, List.append_assoc, List.append_assoc, List.set_append_right _ _ (by omega), List.set_append_right _ _ (by omega), List.set_append_right _ _ (by omega), List.set_append_right _ _ (by omega), hl,
    show k * 4 - k * 4 = 0 by omega, show k * 4 + 1 - k * 4 = 1 by omega, show k * 4 + 2 - k * 4 = 2 by omega, show k * 4 + 3 - k * 4 = 3 by omega]
  rfl
theorem markMovesNil_any (A : Option Addr) (c : Nat) (w : World) :
    Calls Tryz.prog 35 #[.slice A 0 c, .int .i64 1] w fun e w' => e = .returned (.int .i64 1) ∧ w = w' := by
  go_enter Tryz.func35, Tryz.ntmps35
  go_wp2
  go_loop [1, 5] (fun x i => x = .int .i64 1 ∧ i = .int .i64 0) (fun _ _ => 0)
  case atStart => exact ⟨rfl, rfl⟩
  case round =>
    obtain ⟨rfl, rfl⟩ := hrel
    go_wp2
    go_ret
    exact ⟨rfl, rfl⟩
theorem heldMovesNil_any (A : Option Addr) (c : Nat) (w : World) :
    Calls Tryz.prog 36 #[.slice A 0 c, .int .i64 1] w fun e w' => e = .returned (.int .i64 1) ∧ w = w' := by
  go_enter Tryz.func36, Tryz.ntmps36
  go_wp2
  go_loop [1, 5] (fun x i => x = .int .i64 1 ∧ i = .int .i64 0) (fun _ _ => 0)
  case atStart => exact ⟨rfl, rfl⟩
  case round =>
    obtain ⟨rfl, rfl⟩ := hrel
    go_wp2
    go_ret
    exact ⟨rfl, rfl⟩
set_option maxHeartbeats 1000000 in
theorem markMovesRow_any (g n c : Nat) (xs : List Mv) (rest : List Value) (w : World) (hn : xs.length = n) (hN : n ≤ 16777216) (hR : Row w g 39 (mcells xs ++ rest)) :
    Calls Tryz.prog 35 #[.slice (some ⟨g, 0, none⟩) n c, .int .i64 1] w fun e w' => e = .returned (.int .i64 (1 + 4 * (n : Int))) ∧ Row w' g 39 (mcells (mkM n) ++ rest) ∧ Dr g w w' := by
  have HN := Lib.hid hn
  clear hn
  go_enter Tryz.func35, Tryz.ntmps35
  go_wp2
  go_loopw [1, 5] (fun x i wr => ∃ k : Nat, k ≤ n ∧ x = .int .i64 (1 + 4 * (k : Int)) ∧ i = .int .i64 k ∧ Row wr g 39 (mcells (mixM xs k) ++ rest) ∧ Dr g w wr) (fun _ i _ => n - (intOf i).toNat)
  case atStart => exact ⟨0, by omega, by simp, rfl, by rw [mixM_zero]; exact hR, Dr.refl _ _⟩
  case round =>
    obtain ⟨k, hk, rfl, rfl, hrow, hd⟩ := hrel
    by_cases hlt : k < n
    · have hk2 : k < xs.length := by rw [HN.out]; exact hlt
      have hlen : (mcells (mixM xs k)).length = n * 4 := by rw [mcells_len, mixM_len _ _ (by omega), HN.out]
      obtain ⟨z, hz⟩ := some_at hk2
      rw [← mixM_at xs k hk2] at hz
      obtain ⟨q0, q1, q2, q3⟩ := mcells_at _ _ _ hz
      have c0 := hrow.cell (k * 4)
      have c1 := hrow.cell (k * 4 + 1)
      have c2 := hrow.cell (k * 4 + 2)
      have c3 := hrow.cell (k * 4 + 3)
      rw [List.getElem?_append_left (by omega), q0] at c0
      rw [List.getElem?_append_left (by omega), q1] at c1
      rw [List.getElem?_append_left (by omega), q2] at c2
      rw [List.getElem?_append_left (by omega), q3] at c3
      have f0 := hrow.free (k * 4)
      have f1 := hrow.free (k * 4 + 1)
      have f2 := hrow.free (k * 4 + 2)
      have f3 := hrow.free (k * 4 + 3)
      have HS := Lib.hid (mixM_cells xs rest k hk2)
      have hb : (k : Int) < 16777216 := by omega
      clear hz hk2 hlen q0 q1 q2 q3
      go_wp2
      go_roundw
      case rel => exact ⟨k + 1, by omega, by congr 1, by go_num, by rw [← HS.out]; exact (((hrow.set _ _).set _ _).set _ _).set _ _, (((hd.setCell (.inl rfl) _).setCell (.inl rfl) _).setCell (.inl rfl) _).setCell (.inl rfl) _⟩
      case measure => simp [intOf]; omega
    · obtain rfl : k = n := by omega
      have HM := Lib.hid (mixM_all xs)
      rw [HN.out] at HM
      go_wp2
      go_ret
      exact ⟨rfl, by rw [← HM.out]; exact hrow, hd⟩
set_option maxHeartbeats 1000000 in
theorem heldMovesRow_any (g n c : Nat) (rest : List Value) (w : World) (hN : n ≤ 16777216) (hR : Row w g 39 (mcells (mkM n) ++ rest)) :
    Calls Tryz.prog 36 #[.slice (some ⟨g, 0, none⟩) n c, .int .i64 1] w fun e w' => e = .returned (.int .i64 (1 + 4 * (n : Int))) ∧ w = w' := by
  go_enter Tryz.func36, Tryz.ntmps36
  go_wp2
  go_loop [1, 5] (fun x i => ∃ k : Nat, k ≤ n ∧ x = .int .i64 (1 + 4 * (k : Int)) ∧ i = .int .i64 k) (fun _ i => n - (intOf i).toNat)
  case atStart => exact ⟨0, by omega, by simp, rfl⟩
  case round =>
    obtain ⟨k, hk, rfl, rfl⟩ := hrel
    by_cases hlt : k < n
    · have hlen : (mcells (mkM n)).length = n * 4 := by rw [mcells_len, mkM_len]
      obtain ⟨q0, q1, q2, q3⟩ := mcells_at _ _ _ (mkM_at n k hlt)
      have c0 := hR.cell (k * 4)
      have c1 := hR.cell (k * 4 + 1)
      have c2 := hR.cell (k * 4 + 2)
      have c3 := hR.cell (k * 4 + 3)
      rw [List.getElem?_append_left (by omega), q0] at c0
      rw [List.getElem?_append_left (by omega), q1] at c1
      rw [List.getElem?_append_left (by omega), q2] at c2
      rw [List.getElem?_append_left (by omega), q3] at c3
      have hb : (k : Int) < 16777216 := by omega
      clear hlen q0 q1 q2 q3
      go_wp2
      go_round
      case rel => exact ⟨k + 1, by omega, by congr 1, by go_num⟩
      case measure => simp [intOf]; omega
    · obtain rfl : k = n := by omega
      go_wp2
      go_ret
      exact ⟨rfl, rfl⟩
/-- A list is marked. -/
theorem markMovesLst_any (v : Value) (xs : List Mv) (B : Nat) (w : World) (h : LstG mcl 4 39 w B v xs) (hB : B ≤ w.heap.size) (hN : xs.length ≤ 16777216) :
    Calls Tryz.prog 35 #[v, .int .i64 1] w fun e w' => e = .returned (.int .i64 (1 + 4 * (xs.length : Int))) ∧ LstG mcl 4 39 w' B v (mkM xs.length) ∧ Below B w w' := by
  rcases LstG.row h with ⟨rfl, rfl⟩ | ⟨g, cap, rest, rfl, hg, hr, h1, h2, h3⟩
  · refine (markMovesNil_any none 0 w).mono ?_
    rintro e w' ⟨rfl, rfl⟩
    exact ⟨by simp, by simpa [mkM] using h, Below.refl _ _⟩
  · refine (markMovesRow_any g xs.length cap xs rest w rfl hN hr).mono ?_
    rintro e w' ⟨rfl, hr2, hd⟩
    refine ⟨rfl, ?_, hd.below hg hB⟩
    have := LstG.of_row (cl := mcl) (m := 4) (w := w') (xs := mkM xs.length) mcl_len hg hr2 h2 (by rw [mkM_len]; exact h1) (by rw [mkM_len]; exact h3)
    rwa [mkM_len] at this
theorem heldMovesLst_any (v : Value) (n : Nat) (B : Nat) (w : World) (h : LstG mcl 4 39 w B v (mkM n)) (hN : n ≤ 16777216) :
    Calls Tryz.prog 36 #[v, .int .i64 1] w fun e w' => e = .returned (.int .i64 (1 + 4 * (n : Int))) ∧ w = w' := by
  rcases LstG.row h with ⟨rfl, h0⟩ | ⟨g, cap, rest, rfl, hg, hr, h1, h2, h3⟩
  · obtain rfl : n = 0 := by have := mkM_len n; rw [h0] at this; exact this.symm
    refine (heldMovesNil_any none 0 w).mono ?_
    rintro e w' ⟨rfl, rfl⟩
    exact ⟨by simp, rfl⟩
  · rw [mkM_len]
    exact heldMovesRow_any g n cap rest w hN hr
theorem eqMovesLst_any (v u : Value) (xs : List Mv) (B C : Nat) (w : World) (h : LstG mcl 4 39 w B v xs) (k : LstG mcl 4 39 w C u xs) (hN : xs.length ≤ 16777216) :
    Calls Tryz.prog 34 #[v, u] w fun e w' => e = .returned (.bool true) ∧ Gr w w' := by
  obtain ⟨A1, c1, rfl, r1⟩ := LstG.slice h
  obtain ⟨A2, c2, rfl, r2⟩ := LstG.slice k
  exact eqMoves_same A1 A2 xs.length c1 c2 xs w rfl hN r1 r2
end Go.Proofs.YtefhhigcplemaaaGreatDoor
