/- Draws of lists' texts; two lists are alike. -/
import Derived.Test.YtddnmhkhgpangaaDoorD9
import Derived.Test.YtddnmhkhgpangaaDoorT12
namespace Go.Proofs.YtddnmhkhgpangaaDoor
open Go.RowKit Go.ChangeShapes Go.WideShapes Go.ChangeAt
set_option linter.unusedVariables false
set_option linter.unusedSimpArgs false

theorem drawReadList_any (A : Option Addr) (n c : Nat) (w : World) (hn : n ≤ 4611686018427387904) (hB : Bytes w w.heap.size A n) :
    Calls Tryd.prog 21 #[.slice A n c] w (OneS 2101 w) := by
  go_enter Tryd.func21, Tryd.ntmps21
  go_wp2_with fail
  refine (from_any A n c _ hn hB).mono ?_
  rintro e w1 ⟨b, rfl, hb, hS1, hl1⟩
  go_wp2_with fail
  refine (drawListText_any A n c _ hn (hB.later hl1)).mono ?_
  rintro e w2 ⟨g, cap, zs, rfl, hz, -, hg1, hg2, hr, hb2⟩
  have hS2 := hS1.below hb2
  have hW2 := hl1.trans (hb2.mono hl1.size)
  go_wp2_with fail
  refine (listText_spec _ _ cap zs _ rfl (by omega) hr).mono ?_
  have hsz := ltS_size zs
  generalize ltS zs = x at *
  generalize ltC zs = xc at *
  rintro e w3 ⟨rfl, hg3⟩
  have hS3 := hS2.below hg3.below
  have hW3 := hW2.trans (hg3.below.mono hW2.size)
  clear hS1 hS2 hg3 hW2 hr hb2
  go_wp2_with fail
  refine (next_any A n c b _ _ hS3).mono ?_
  rintro e w4 ⟨y, rfl, y0, y1, -, hS4, hd4⟩
  have hW4 := hW3.trans (hd4.below hb hW3.size)
  clear hS3 hd4 hW3 y1
  by_cases hy : y = 0
  · subst hy
    go_wp2_with fail
    refine (damage_any A n c b x (by omega) _ hS4).mono ?_
    rintro e w5 ⟨u, rfl, hu, hS5, hd5⟩
    have hW5 := hW4.trans (hd5.below hb hW4.size)
    go_wp2_with fail
    go_ret
    exact ⟨u, rfl, by omega, hW5⟩
  · have hy2 : (y == 0) = false := by simp [hy]
    go_wp2_with fail
    go_ret
    exact ⟨x, rfl, by omega, hW4⟩

/-- Two slices with the same elements are alike. -/
theorem likeInts_same (A B : Option Addr) (n c d : Nat) (zs : List Int) (w : World) (hn : zs.length = n) (hN : n ≤ 16777216) (hA : Reads w w.heap.size A (zs.map vi)) (hB : Reads w w.heap.size B (zs.map vi)) :
    Calls Tryd.prog 24 #[.slice A n c, .slice B n d] w fun e w' => e = .returned (.bool true) ∧ Gr w w' := by
  have HL := Lib.hid hn
  clear hn
  go_enter Tryd.func24, Tryd.ntmps24
  go_wp2
  go_loopw [5] (fun i wr => ∃ k m : Nat, k ≤ n ∧ i = .int .i64 k ∧ wr = w.drewN m) (fun i _ => n - (intOf i).toNat)
  case atStart => exact ⟨0, 0, by omega, rfl, rfl⟩
  case round =>
    obtain ⟨k, m, hk, rfl, rfl⟩ := hrel
    by_cases hlt : k < n
    · obtain ⟨z, hz⟩ := some_at (l := zs) (k := k) (by rw [HL.out]; exact hlt)
      obtain ⟨g, o, rfl, hg, hc⟩ := hA.at_ (map_at hz)
      obtain ⟨g2, o2, rfl, hg2, hc2⟩ := hB.at_ (map_at hz)
      clear hz
      go_wp2
      go_quiet (fail)
      go_wp2
      go_roundw
      case rel => exact ⟨k + 1, _, by omega, by go_num, rfl⟩
      case measure => simp [intOf]; omega
    · go_wp2
      go_ret
      exact ⟨rfl, (Gr.refl w).drewN m⟩
end Go.Proofs.YtddnmhkhgpangaaDoor
