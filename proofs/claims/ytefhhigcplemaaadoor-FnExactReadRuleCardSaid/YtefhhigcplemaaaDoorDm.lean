/- Lists in blocks of the call's own that a law marks and holds, from any number on; rules. -/
import Derived.Test.YtefhhigcplemaaaDoorDl
import Derived.Test.YtefhhigcplemaaaDoorTR
namespace Go.Proofs.YtefhhigcplemaaaDoor
open Go.RowKit
set_option linter.unusedVariables false
set_option linter.unusedSimpArgs false

/-- The marks from s on. -/
def mkF (s : Int) (n : Nat) : List Int := (List.range n).map fun (i : Nat) => (s + i : Int)
theorem mkF_len (s : Int) (n : Nat) : (mkF s n).length = n := by simp [mkF]
theorem mkF_at (s : Int) (n k : Nat) (h : k < n) : (mkF s n)[k]? = some (s + k : Int) := by simp [mkF, h]
def mixF (s : Int) (xs : List Int) (k : Nat) : List Int := (mkF s xs.length).take k ++ xs.drop k
theorem mixF_len (s : Int) (xs : List Int) (k : Nat) (h : k ≤ xs.length) : (mixF s xs k).length = xs.length := by unfold mixF; rw [List.length_append, List.length_take, mkF_len, List.length_drop]; omega
theorem mixF_zero (s : Int) (xs : List Int) : mixF s xs 0 = xs := by simp [mixF]
theorem mixF_all (s : Int) (xs : List Int) : mixF s xs xs.length = mkF s xs.length := by
  unfold mixF
  rw [List.drop_length, List.append_nil, List.take_of_length_le (by rw [mkF_len]; exact Nat.le_refl _)]
theorem mixF_at (s : Int) (xs : List Int) (k : Nat) (h : k < xs.length) : (mixF s xs k)[k]? = xs[k]? := by
  unfold mixF
  rw [List.getElem?_append_right (by rw [List.length_take, mkF_len]; omega), List.length_take, mkF_len, List.getElem?_drop]
  congr 1; omega
theorem mixF_set (s : Int) (xs : List Int) (k : Nat) (h : k < xs.length) : (mixF s xs k).set k (s + k : Int) = mixF s xs (k + 1) := by
  unfold mixF
  have e := mkF_at s xs.length k h
  obtain ⟨hl, e⟩ := List.getElem?_eq_some_iff.1 e
  rw [List.set_append_right _ _ (by rw [List.length_take, mkF_len]; omega), List.length_take, mkF_len, show k - min k xs.length = 0 by omega, List.drop_eq_getElem_cons h, List.set_cons_zero, List.take_succ_eq_append_getElem hl, e, List.append_assoc]
  rfl
theorem markF_any (s : Int) (g n c : Nat) (xs : List Int) (rest : List Value) (w : World) (hs : 0 ≤ s ∧ s ≤ 33554432) (hn : xs.length = n) (hN : n ≤ 16777216) (hR : Row w g 2 (xs.map vi ++ rest)) :
    Calls Tryd.prog 62 #[.slice (some ⟨g, 0, none⟩) n c, .int .i64 s] w fun e w' => e = .returned (.int .i64 (s + n)) ∧ Row w' g 2 ((mkF s n).map vi ++ rest) ∧ Dr g w w' := by
  have HN := Lib.hid hn
  obtain ⟨s1, s2⟩ := hs
  clear hn
  go_enter Tryd.func62, Tryd.ntmps62
  go_wp2
  go_loopw [1, 5] (fun x i wr => ∃ k : Nat, k ≤ n ∧ x = .int .i64 (s + k) ∧ i = .int .i64 k ∧ Row wr g 2 ((mixF s xs k).map vi ++ rest) ∧ Dr g w wr) (fun _ i _ => n - (intOf i).toNat)
  case atStart => exact ⟨0, by omega, by simp, rfl, by rw [mixF_zero]; exact hR, Dr.refl _ _⟩
  case round =>
    obtain ⟨k, hk, rfl, rfl, hrow, hd⟩ := hrel
    by_cases hlt : k < n
    · have hk2 : k < xs.length := by rw [HN.out]; exact hlt
      have hk3 : k < ((mixF s xs k).map vi).length := by rw [List.length_map, mixF_len _ _ _ (by omega)]; exact hk2
      obtain ⟨z, hz⟩ := some_at hk2
      have c0 := hrow.cell k
      rw [List.getElem?_append_left hk3, List.getElem?_map, mixF_at _ _ _ hk2, hz] at c0
      have f0 := hrow.free k
      have HS := Lib.hid (show ((mixF s xs k).map vi ++ rest).set k (vi (s + k)) = (mixF s xs (k + 1)).map vi ++ rest by
        rw [List.set_append_left _ _ hk3, ← mixF_set s xs k hk2, List.map_set])
      clear hz hk2 hk3
      simp only [Option.map_some] at c0
      go_wp2
      go_roundw
      case rel => exact ⟨k + 1, by omega, by go_num, by go_num, by rw [← HS.out]; exact hrow.set k _, hd.setCell (.inl rfl) _⟩
      case measure => simp [intOf]; omega
    · obtain rfl : k = n := by omega
      have HM := Lib.hid (mixF_all s xs)
      rw [HN.out] at HM
      go_wp2
      go_ret
      exact ⟨rfl, by rw [← HM.out]; exact hrow, hd⟩
theorem heldF_any (s : Int) (g n c : Nat) (rest : List Value) (w : World) (hs : 0 ≤ s ∧ s ≤ 33554432) (hN : n ≤ 16777216) (hR : Row w g 2 ((mkF s n).map vi ++ rest)) :
    Calls Tryd.prog 63 #[.slice (some ⟨g, 0, none⟩) n c, .int .i64 s] w fun e w' => e = .returned (.int .i64 (s + n)) ∧ w = w' := by
  obtain ⟨s1, s2⟩ := hs
  go_enter Tryd.func63, Tryd.ntmps63
  go_wp2
  go_loop [1, 5] (fun x i => ∃ k : Nat, k ≤ n ∧ x = .int .i64 (s + k) ∧ i = .int .i64 k) (fun _ i => n - (intOf i).toNat)
  case atStart => exact ⟨0, by omega, by simp, rfl⟩
  case round =>
    obtain ⟨k, hk, rfl, rfl⟩ := hrel
    by_cases hlt : k < n
    · have c0 := hR.cell k
      rw [List.getElem?_append_left (by rw [List.length_map, mkF_len]; exact hlt), List.getElem?_map, mkF_at s n k hlt] at c0
      simp only [Option.map_some] at c0
      go_wp2
      go_round
      case rel => exact ⟨k + 1, by omega, by go_num, by go_num⟩
      case measure => simp [intOf]; omega
    · obtain rfl : k = n := by omega
      go_wp2
      go_ret
      exact ⟨rfl, rfl⟩
/-- A block under marks elsewhere. -/
theorem Row.dr {w w' : World} {b g : Nat} {t : TypeId} {vs : List Value} (h : Row w g t vs) (hd : Dr b w w') (hne : g ≠ b) : Row w' g t vs := (hd.block g h.lt hne).trans h
theorem Blk.dr {w w' : World} {b g : Nat} {t : TypeId} {cs : Array Value} (h : Blk w g t cs) (hd : Dr b w w') (hne : g ≠ b) : Blk w' g t cs := (hd.block g h.lt hne).trans h
theorem markRule_any (L : Int) (g1 c1 g2 c2 n m B : Nat) (xs ys : List Int) (r1 r2 : List Value) (w : World) (hx : xs.length = n) (hy : ys.length = m) (hn : n ≤ 16777216) (hm : m ≤ 16777216) (hne : g1 ≠ g2) (hB : B ≤ w.heap.size) (hB1 : B ≤ g1) (hB2 : B ≤ g2) (h1 : Row w g1 2 (xs.map vi ++ r1)) (h2 : Row w g2 2 (ys.map vi ++ r2)) :
    Calls Tryd.prog 36 #[.agg #[.int .i64 L, .slice (some ⟨g1, 0, none⟩) n c1, .slice (some ⟨g2, 0, none⟩) m c2], .int .i64 1] w fun e w' => e = .returned (.int .i64 (1 + n + m)) ∧ Row w' g1 2 ((mkF 1 n).map vi ++ r1) ∧ Row w' g2 2 ((mkF (1 + n) m).map vi ++ r2) ∧ Below B w w' ∧ ∀ (k : Nat) (t : TypeId) (cs : Array Value), Blk w k t cs → k ≠ g1 → k ≠ g2 → Blk w' k t cs := by
  have HA := Lib.hid (fun W h => markF_any 1 g1 n c1 xs r1 W (by omega) hx hn h)
  have HB := Lib.hid (fun W h => markF_any (1 + n) g2 m c2 ys r2 W (by omega) hy hm h)
  have P := Blk.new w 42 #[.int .i64 L, .slice (some ⟨g1, 0, none⟩) n c1, .slice (some ⟨g2, 0, none⟩) m c2]
  have hb0 : Below B w (w.alloc (.cells #[.int .i64 L, .slice (some ⟨g1, 0, none⟩) n c1, .slice (some ⟨g2, 0, none⟩) m c2] 42)) := (Below.refl _ _).alloc hB _
  have hG : Gr w (w.alloc (.cells #[.int .i64 L, .slice (some ⟨g1, 0, none⟩) n c1, .slice (some ⟨g2, 0, none⟩) m c2] 42)) := (by repeat (first | with_reducible exact Gr.refl _ | with_reducible refine Gr.alloc ?_ _ | with_reducible refine Gr.gr ?_ _ _ | with_reducible refine Gr.drew ?_ | with_reducible refine Gr.drewN ?_ _))
  have l1 := h1.lt
  have l2 := h2.lt
  have hfar : ∀ (k : Nat) (t : TypeId) (cs : Array Value), Blk w k t cs → Blk (w.alloc (.cells #[.int .i64 L, .slice (some ⟨g1, 0, none⟩) n c1, .slice (some ⟨g2, 0, none⟩) m c2] 42)) k t cs := fun k t cs hk => hk.gr hG
  replace h1 := h1.gr hG
  replace h2 := h2.gr hG
  clear hx hy hG
  go_enter Tryd.func36, Tryd.ntmps36
  go_wp2_with fail
  generalize w.alloc (.cells #[.int .i64 L, .slice (some ⟨g1, 0, none⟩) n c1, .slice (some ⟨g2, 0, none⟩) m c2] 42) = v at *
  obtain ⟨p0, p1, p2, -⟩ := P.trio
  go_wp2_with fail
  clear p0 p1 p2
  refine (HA.out _ h1).mono ?_
  rintro e w1 ⟨rfl, k1, d1⟩
  replace P := P.dr d1 (by omega)
  replace h2 := h2.dr d1 (by omega)
  obtain ⟨p0, p1, p2, -⟩ := P.trio
  go_wp2_with fail
  refine (HB.out _ h2).mono ?_
  rintro e w2 ⟨rfl, k2, d2⟩
  replace k1 := k1.dr d2 hne
  go_wp2_with fail
  go_ret
  have hv := hb0.size
  have h01 := hb0.trans (d1.below hB1 (by omega))
  exact ⟨rfl, k1, k2, h01.trans ((d2.below hB2 (by have := h01.size; omega))), fun k t cs hk e1 e2 => ((hfar k t cs hk).dr d1 e1).dr d2 e2⟩
theorem heldRule_any (L : Int) (g1 c1 g2 c2 n m : Nat) (r1 r2 : List Value) (w : World) (hn : n ≤ 16777216) (hm : m ≤ 16777216) (h1 : Row w g1 2 ((mkF 1 n).map vi ++ r1)) (h2 : Row w g2 2 ((mkF (1 + n) m).map vi ++ r2)) :
    Calls Tryd.prog 37 #[.agg #[.int .i64 L, .slice (some ⟨g1, 0, none⟩) n c1, .slice (some ⟨g2, 0, none⟩) m c2], .int .i64 1] w fun e w' => e = .returned (.int .i64 (1 + n + m)) ∧ Gr w w' := by
  have HA := Lib.hid (fun W h => heldF_any 1 g1 n c1 r1 W (by omega) hn h)
  have HB := Lib.hid (fun W h => heldF_any (1 + n) g2 m c2 r2 W (by omega) hm h)
  have R1 := Lib.hid h1
  have R2 := Lib.hid h2
  have i1 : ¬ ((1 : Int) + n < 0) := by omega
  have i2 : ¬ ((1 : Int) + n + m < 0) := by omega
  clear h1 h2
  go_enter Tryd.func37, Tryd.ntmps37
  go_wp2_with fail
  refine (HA.out _ (R1.out.gr (by repeat (first | with_reducible exact Gr.refl _ | with_reducible refine Gr.alloc ?_ _ | with_reducible refine Gr.gr ?_ _ _ | with_reducible refine Gr.drew ?_ | with_reducible refine Gr.drewN ?_ _)))).mono ?_
  rintro e w1 ⟨rfl, rfl⟩
  go_wp2_with fail
  refine (HB.out _ (R2.out.gr (by repeat (first | with_reducible exact Gr.refl _ | with_reducible refine Gr.alloc ?_ _ | with_reducible refine Gr.gr ?_ _ _ | with_reducible refine Gr.drew ?_ | with_reducible refine Gr.drewN ?_ _)))).mono ?_
  rintro e w2 ⟨rfl, rfl⟩
  go_wp2_with fail
  go_ret
  exact ⟨rfl, (by repeat (first | with_reducible exact Gr.refl _ | with_reducible refine Gr.alloc ?_ _ | with_reducible refine Gr.gr ?_ _ _ | with_reducible refine Gr.drew ?_ | with_reducible refine Gr.drewN ?_ _))⟩
theorem markRule_nil (L : Int) (w : World) :
    Calls Tryd.prog 36 #[.agg #[.int .i64 L, .slice none 0 0, .slice none 0 0], .int .i64 1] w fun e w' => e = .returned (.int .i64 1) ∧ Gr w w' := by
  go_enter Tryd.func36, Tryd.ntmps36
  go_wp2_with fail
  refine (markNil_any none 0 _).mono ?_
  rintro e w1 ⟨rfl, rfl⟩
  go_wp2_with fail
  refine (markNil_any none 0 _).mono ?_
  rintro e w2 ⟨rfl, rfl⟩
  go_wp2_with fail
  go_ret
  exact ⟨rfl, (by repeat (first | with_reducible exact Gr.refl _ | with_reducible refine Gr.alloc ?_ _ | with_reducible refine Gr.gr ?_ _ _ | with_reducible refine Gr.drew ?_ | with_reducible refine Gr.drewN ?_ _))⟩
theorem heldRule_nil (L : Int) (w : World) :
    Calls Tryd.prog 37 #[.agg #[.int .i64 L, .slice none 0 0, .slice none 0 0], .int .i64 1] w fun e w' => e = .returned (.int .i64 1) ∧ Gr w w' := by
  go_enter Tryd.func37, Tryd.ntmps37
  go_wp2_with fail
  refine (heldNil_any none 0 _).mono ?_
  rintro e w1 ⟨rfl, rfl⟩
  go_wp2_with fail
  refine (heldNil_any none 0 _).mono ?_
  rintro e w2 ⟨rfl, rfl⟩
  go_wp2_with fail
  go_ret
  exact ⟨rfl, (by repeat (first | with_reducible exact Gr.refl _ | with_reducible refine Gr.alloc ?_ _ | with_reducible refine Gr.gr ?_ _ _ | with_reducible refine Gr.drew ?_ | with_reducible refine Gr.drewN ?_ _))⟩
end Go.Proofs.YtefhhigcplemaaaDoor
