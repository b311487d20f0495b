/- Draws of lists. -/
import Derived.Test.YtddnmhkhgpangaaDoorD8
import Derived.Test.YtddnmhkhgpangaaDoorC01d
import Derived.Test.YtddnmhkhgpangaaDoorT8
namespace Go.Proofs.YtddnmhkhgpangaaDoor
open Go.RowKit Go.ChangeShapes Go.WideShapes Go.ChangeAt
set_option linter.unusedVariables false
set_option linter.unusedSimpArgs false

theorem Src.under {A : Option Addr} {n c b B : Nat} {w w' : World} (h : Src A n c b w) (hb : Below B w w') (hlt : b < B) : Src A n c b w' := by
  obtain ⟨p, s, hp, hn, hs, hc, hB⟩ := h
  exact ⟨p, s, hp, hn, hs, (hb.block b hlt).trans hc, hB.keep fun k hk => hb.block k (by omega)⟩
theorem Dr.after {b : Nat} {u v v' : World} (h : Dr b u v) (hb : Below u.heap.size v v') : Dr b u v' :=
  ⟨hb.os.trans h.os, hb.tape.trans h.tape, hb.output.trans h.output, Nat.le_trans h.size hb.size, fun k hk hn => (hb.block k hk).trans (h.block k hk hn)⟩
theorem Owns.dr {w w' : World} {base b : Nat} {t : TypeId} {v : Value} {xs : List Value} (h : Owns w base t v xs) (hd : Dr b w w') (hlt : b < base) : Owns w' base t v xs := by
  have hl := h.1.lt
  exact ⟨h.1.kept ⟨hd.os, hd.tape, hd.output, hd.size, fun k hk hn => hd.block k hk (fun e => hn (by rw [e]))⟩ (row := some b) (.inr fun e => by have := (hl b e).1; omega), h.2⟩

/-- A drawn list. -/
def OneL (w : World) (e : Ending) (w' : World) : Prop :=
  ∃ (g cap : Nat) (zs : List Int), e = .returned (.slice (some ⟨g, 0, none⟩) zs.length cap) ∧ zs.length ≤ 101 ∧ (∀ z ∈ zs, Near z) ∧ w.heap.size ≤ g ∧ g < w'.heap.size ∧ Reads w' w'.heap.size (some ⟨g, 0, none⟩) (zs.map vi) ∧ Below w.heap.size w w'

set_option maxHeartbeats 4000000 in
set_option maxRecDepth 100000 in
theorem drawListText_any (A : Option Addr) (n c : Nat) (w : World) (hn : n ≤ 4611686018427387904) (hB : Bytes w w.heap.size A n) :
    Calls Tryd.prog 18 #[.slice A n c] w (OneL w) := by
  obtain ⟨i0, hi, hz0, hz1, hz2⟩ := info_parts info_int
  go_enter Tryd.func18, Tryd.ntmps18
  go_wp2_with fail
  refine (from_any A n c _ hn hB).mono ?_
  rintro e w1 ⟨b, rfl, hb, hS1, hl1⟩
  have lb := hS1.lt
  have O1 := Owns.new w1 2 w1.heap.size (Nat.le_refl _)
  go_wp2_with fail
  refine (next_any A n c b _ _ (hS1.alloc _)).mono ?_
  rintro e w2 ⟨m, rfl, m0, m1, -, hS2, hd2⟩
  have m1 := m1 (by omega)
  have O2 := O1.dr hd2 lb
  have hT2 := ((Dr.refl b w1).alloc (.cells #[] 2)).trans hd2
  obtain ⟨m, rfl⟩ := Int.eq_ofNat_of_zero_le m0
  clear O1 hS1 hd2 m0
  go_wp2_with fail
  go_loopw [4, 5] (fun v i wr => ∃ (k : Nat) (zs : List Int), i = .int .i64 k ∧ k + zs.length ≤ 5 ∧ Hid (∀ z ∈ zs, Near z) ∧ Owns wr w1.heap.size 2 v (zs.map vi) ∧ Src A n c b wr ∧ Dr b w1 wr) (fun _ i _ => (intOf i).toNat)
  case atStart => exact ⟨m, [], rfl, by simp; omega, Lib.hid (by simp), O2, hS2, hT2⟩
  case round =>
    obtain ⟨k, zs, rfl, hk, hN, hown, hS, hT⟩ := hrel
    by_cases hlt : 0 < k
    · go_wp2_with fail
      refine (drawValue_any A n c b _ hS).mono ?_
      rintro e w3 ⟨z, rfl, hz, hS3, hd3⟩
      have hown3 := hown.dr hd3 lb
      have hT3 := hT.trans hd3
      have HL := Lib.hid (show (zs.map vi).length = zs.length from List.length_map _)
      have hrow := hown3.1
      have hsz := hT3.size
      have HW := Lib.hid hown3
      clear hown3 hown hd3 hS hT
      go_wp2_with (at_builtin; refine wpList_append_own _ rfl _ _ 36 rfl w1.heap.size 2 i0 (.int .i64 0) 1 8 Tryd.underlying36 hi hz0 hz1 hz2 rfl (by decide) _ _ _ rfl (hrow.alloc _) ⟨w3.heap.size, 0, none⟩ 1 1 [.int .i64 z] rfl rfl (cell_one_new _ _ _) (by simp [Value.oneCell']) (by rw [HL.out]; unfold maxLen; omega) (by rw [HL.out]; omega) (by simp; omega) ?_; intro v' w4 hown' hgrow _)
      have hA2 := HW.out.app (Below.refl _ _) hown' hgrow
      have HA := Lib.hid hA2
      have HN := Lib.hid (show ∀ y ∈ zs ++ [z], Near y by
        intro y hy
        rcases List.mem_append.1 hy with h | h
        · exact hN.out y h
        · rw [List.mem_singleton.1 h]; exact hz)
      clear hA2 hown' hgrow hrow
      go_wp2_with fail
      go_roundw
      case rel => exact ⟨k - 1, zs ++ [z], by go_num, by rw [List.length_append]; simp; omega, HN, by rw [List.map_append]; exact HA.out.1, hS3.under HA.out.2 lb, hT3.after HA.out.2⟩
      case measure => simp [intOf]; omega
    · obtain rfl : k = 0 := by omega
      go_wp2_with fail
      refine (next_any A n c b _ _ hS).mono ?_
      rintro e w3 ⟨x, rfl, x0, x1, -, hS3, hd3⟩
      have hown3 := hown.dr hd3 lb
      have hT3 := hT.trans hd3
      clear hown hS hT x1
      by_cases hx : x = 0
      · subst hx
        go_wp2_with fail
        refine (next_any A n c b _ _ hS3).mono ?_
        rintro e w4 ⟨y, rfl, y0, y1, -, hS4, hd4⟩
        have y1 := y1 (by omega)
        have hW4 := hl1.trans ((hT3.trans hd4).below hb hl1.size)
        obtain ⟨j, hj⟩ : ∃ j : Nat, (100 : Int) + y = j := ⟨(100 + y).toNat, by omega⟩
        have hj2 : j ≤ 101 := by omega
        have hmk := mkInts j (by omega)
        have q1 : IntKind.i64.wrap (100 + y) = j := by rw [hj]; exact IntWalk.i64_in _ (by omega)
        go_wp2_with fail
        go_ret
        refine ⟨w4.heap.size, j, List.replicate j 0, by rw [List.length_replicate]; rfl, by rw [List.length_replicate]; exact hj2, fun z hz => by rw [List.eq_of_mem_replicate hz]; unfold Near; omega, hW4.size, by simp, ?_, hW4.alloc hW4.size _⟩
        rw [List.map_replicate]
        exact (Row.new w4 2 (List.replicate j (vi 0))).reads
      · have hx2 : (x == 0) = false := by simp [hx]
        have hW3 := hl1.trans (hT3.below hb hl1.size)
        obtain ⟨g, cap, e, hg1, hg2, hr⟩ := hown3.reads
        go_wp2_with fail
        go_ret
        exact ⟨g, cap, zs, rfl, by omega, hN.out, by have := hl1.size; omega, hg2, hr, hW3⟩
end Go.Proofs.YtddnmhkhgpangaaDoor
