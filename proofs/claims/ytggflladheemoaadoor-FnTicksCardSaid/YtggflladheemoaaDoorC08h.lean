/- Contracts of chapter 8: how many marks have each height, in the model. -/
import Derived.Test.YtggflladheemoaaDoorC07b
import Derived.Test.YtggflladheemoaaDoorC07c
import Derived.Test.YtggflladheemoaaDoorC08f
import Derived.Test.YtggflladheemoaaDoorDl
namespace Go.Proofs.YtggflladheemoaaDoor
open Go.RowKit
set_option linter.unusedVariables false
set_option linter.unusedSimpArgs false

/-- What is answered: the five numbers, or nothing. -/
def chL (zs : List P3) : List Int := if gd zs = true then cH (mks zs) else []
theorem mks_len9 {zs : List P3} (h : gd zs = true) : (mks zs).length ≤ 9000 ∧ ∀ x ∈ mks zs, 1000 ≤ x ∧ x ≤ 9999 := by
  obtain ⟨-, h2⟩ := (gd_iff zs).1 h
  obtain ⟨l1, l2⟩ := cntM_len _ _ _ h2
  obtain ⟨u1, u2⟩ := mks_bd _ _ _ h2
  exact ⟨by omega, fun x hx => by have := u2 x hx; omega⟩

set_option maxRecDepth 100000 in
set_option maxHeartbeats 4000000 in
theorem ch_spec (A : Option Addr) (n c : Nat) (zs : List P3) (w : World) (hn : zs.length = n) (hN : n ≤ 16777216) (hA : Reads w w.heap.size A (cells3 zs)) :
    Calls Tryd.prog 37 #[.slice A n c] w fun e w' => (∃ v, e = .returned (.tuple #[v, .int .i64 (cmE zs)]) ∧ Lst w' w.heap.size v (chL zs)) ∧ Below w.heap.size w w' := by
  have HG := Lib.hid (gd_spec A n c zs w hn hN hA)
  have HA := Lib.hid hA
  rcases Bool.eq_false_or_eq_true (gd zs) with hv | hv
  rotate_left
  · have HC := Lib.hid (show cmE zs = 1 ∧ chL zs = [] by unfold cmE chL; rw [hv]; exact ⟨rfl, rfl⟩)
    have HNIL := Lib.hid (fun W => World.ownsRow_nil W w.heap.size 2 1)
    rw [hv] at HG
    clear hv hA hn
    go_enter Tryd.func37, Tryd.ntmps37
    go_wp2_with (go_at_call 90; refine (HG.out).mono ?_; rintro e w' ⟨rfl, kk, os, rfl⟩)
    ((try simp only [Exit.inBlock, Exit.then]); refine bodyPost_ret (v := .tuple #[.slice none 0 0, .int .i64 1]) (by simp [results, Tryd.results37, go_sem]) rfl ?_)
    exact ⟨⟨_, by rw [HC.out.1], by rw [HC.out.2]; exact HNIL.out _⟩, Gr.below (by repeat (first | with_reducible exact Gr.refl _ | with_reducible refine Gr.alloc ?_ _ | with_reducible refine Gr.gr ?_ _ _ | with_reducible refine Gr.drew ?_ | with_reducible refine Gr.drewN ?_ _))⟩
  have HC := Lib.hid (show cmE zs = 0 ∧ chL zs = cH (mks zs) by unfold cmE chL; rw [hv]; exact ⟨rfl, rfl⟩)
  have HM := Lib.hid (fun W (hg : Gr w W) => marks_spec A n c zs W hn hN (HA.out.gr hg) hv)
  have HB := Lib.hid (mks_len9 hv)
  rw [hv] at HG
  clear hv hA hn
  generalize mks zs = M at *
  go_enter Tryd.func37, Tryd.ntmps37
  go_wp2_with (first
    | (go_at_call 90; refine (HG.out).mono ?_; rintro e w' ⟨rfl, kk, os, rfl⟩)
    | (go_at_call 92; refine (HM.out _ (by repeat (first | with_reducible exact Gr.refl _ | with_reducible refine Gr.alloc ?_ _ | with_reducible refine Gr.gr ?_ _ _ | with_reducible refine Gr.drew ?_ | with_reducible refine Gr.drewN ?_ _))).mono ?_; rintro e w5 ⟨⟨v, rfl, hv⟩, hb5⟩; have HV := Lib.hid hv; have HB5 := Lib.hid hb5; clear hv hb5))
  generalize hW1 : gr w kk os = W1 at *
  have hg1 : Gr w W1 := by rw [← hW1]; exact ⟨kk, os, rfl⟩
  have hs1 := hg1.below.size
  have HR1 := Lib.hid (show Row (W1.alloc (.cells #[.int .i64 0, .int .i64 0, .int .i64 0, .int .i64 0, .int .i64 0] 2)) W1.heap.size 2 ((cH []).map vi) from by rw [cH_nil]; exact Row.new W1 _ _)
  have hsA : (W1.alloc (.cells #[.int .i64 0, .int .i64 0, .int .i64 0, .int .i64 0, .int .i64 0] 2)).heap.size = W1.heap.size + 1 := by simp
  have HBA := Lib.hid ((Below.refl W1.heap.size W1).alloc (Nat.le_refl _) (.cells #[.int .i64 0, .int .i64 0, .int .i64 0, .int .i64 0, .int .i64 0] 2))
  generalize W1.alloc (.cells #[.int .i64 0, .int .i64 0, .int .i64 0, .int .i64 0, .int .i64 0] 2) = W2 at *
  have HR5 := Lib.hid (HR1.out.below HB5.out (by omega))
  obtain ⟨AM, cM, rfl, hRM⟩ := Lst.slice HV.out
  have hs5 := HB5.out.size
  have HRM := Lib.hid hRM
  have hAM : ∀ g o, AM = some ⟨g, o, none⟩ → W1.heap.size + 1 ≤ g := fun g o e => by
    have := (World.ownsRow.lt HV.out g (by rw [e]; rfl)).1
    omega
  clear hRM
  have HAM := Lib.hid hAM
  clear hAM
  generalize hb : W1.heap.size = b at *
  go_loopw [6] (fun i wr => ∃ k : Nat, k ≤ M.length ∧ i = .int .i64 k ∧ Row wr b 2 ((cH (M.take k)).map vi) ∧ Dr b w5 wr) (fun i _ => M.length - (intOf i).toNat)
  case atStart => exact ⟨0, by omega, rfl, by simpa using HR5.out, Dr.refl _ _⟩
  case round =>
    obtain ⟨k, hk, rfl, hrow, hd⟩ := hrel
    by_cases hlt : k < M.length
    · obtain ⟨y, hy⟩ := some_at (l := M) (k := k) hlt
      have hyb := HB.out.2 y (List.mem_of_getElem? hy)
      obtain ⟨g, o, rfl, hg, hc⟩ := HRM.out.at_ (map_at hy)
      have hgb := HAM.out g o rfl
      have hcc : wr.cell? ⟨g, o + k, none⟩ = some (vi y) := hd.cell hc (show g ≠ b by omega)
      have HT := Lib.hid (show M.take (k + 1) = M.take k ++ [y] by
        obtain ⟨hk2, e⟩ := List.getElem?_eq_some_iff.1 hy
        rw [List.take_succ_eq_append_getElem hk2, e])
      have HH := Lib.hid (fun W => hgt_spec y W (by omega) (by omega))
      obtain ⟨h1, h2⟩ := hgt_bd y
      obtain ⟨j, hj⟩ : ∃ j : Nat, hgt y = (j : Int) := ⟨(hgt y).toNat, by omega⟩
      rw [hj] at HH
      have HS := Lib.hid (cH_snoc (M.take k) y j hj)
      have hj5 : j < 5 := by omega
      have hcn := cHn_bd (M.take k) j
      have hml := HB.out.1
      have hcl : cHn (M.take k) j ≤ 9000 := by
        have := List.length_take_le k M
        omega
      have c0 := hrow.cell j
      rw [List.getElem?_map, cH_at _ _ hj5] at c0
      simp only [Option.map_some] at c0
      have f0 := hrow.free j
      have hl0 := hrow.lt
      have hwr := hd.size
      generalize cHn (M.take k) j = q at *
      clear hy hj h1 h2
      go_wp2_with (go_at_call 109; refine (HH.out _).mono ?_; rintro e w' ⟨rfl, kk2, os2, rfl⟩)
      go_roundw
      case rel => exact ⟨k + 1, by omega, by go_num, by
          rw [HT.out, HS.out, List.map_set]
          exact (hrow.set j _).gr ⟨kk2, os2, rfl⟩, (hd.setCell (.inl rfl) _).trans ⟨rfl, rfl, rfl, by rw [gr_size]; omega, fun i hi _ => gr_old _ kk2 os2 hi⟩⟩
      case measure => simp [intOf]; omega
    · obtain rfl : k = M.length := by omega
      have HF := Lib.hid (show M.take M.length = M from List.take_length)
      go_wp2
      ((try simp only [Exit.inBlock, Exit.then]); refine bodyPost_ret (v := .tuple #[.slice (some ⟨b, 0, none⟩) 5 5, .int .i64 0]) (by simp [results, Tryd.results37, go_sem]) rfl ?_)
      have HL : Lst wr w.heap.size (.slice (some ⟨b, 0, none⟩) 5 5) (cH M) := by
        have := Lst.of_row (w := wr) (B := w.heap.size) (g := b) (cap := 5) (xs := cH M) (rest := []) (by omega) (by rw [List.append_nil, ← HF.out]; exact hrow) (by unfold maxLen; omega) rfl
        exact this
      exact ⟨⟨_, by rw [HC.out.1], by rw [HC.out.2]; exact HL⟩, ((hg1.below.trans (HBA.out.mono (by omega))).trans (HB5.out.mono (by omega))).trans (hd.below (by omega) (by omega))⟩
end Go.Proofs.YtggflladheemoaaDoor
