/- Contracts of chapter 6: the model's needed length: the search. -/
import Derived.Test.YtgadkpkpdpphbaaDoorC06d
namespace Go.Proofs.YtgadkpkpdpphbaaDoor
open Go.RowKit
set_option linter.unusedVariables false
set_option linter.unusedSimpArgs false

set_option maxHeartbeats 4000000 in
theorem nl_ok (s d t e g : Int) (w : World) (h1 : fg d t = true) (h2 : ok7 s t e g = true) (h3 : (nlA d t g).2 = t) (h4 : fg (nlB d t g) t = true) (H : nlR s d t e g = if ndN s (nlA d t g).1 t (nlB d t g) t e < 0 then (0, 4) else (100 * (ndN s (nlA d t g).1 t (nlB d t g) t e + 1), 0)) :
    Calls Tryd.prog 28 #[.int .i64 s, .agg #[.int .i64 d, .int .i64 t], .int .i64 e, .int .i64 g] w fun e' w' => e' = .returned (.tuple #[.int .i64 (nlR s d t e g).1, .int .i64 (nlR s d t e g).2]) ∧ Gr w w' := by
  have HF := Lib.hid (fun W => isFigure_spec d t W)
  have HD := Lib.hid (fun W => decades_spec s W)
  obtain ⟨d1, d2⟩ := dec_bd s
  have qd : IntKind.i64.wrap (dec s - 1) = dec s - 1 := IntWalk.i64_in _ (by omega)
  rcases ok7_cases s t e g with ⟨-, e1, e2, e3, e4⟩ | ⟨h, -⟩
  rotate_left
  · rw [h2] at h; cases h
  replace H := Lib.hid H
  rw [h1] at HF
  obtain ⟨g1, g2⟩ := of_decide_eq_true e3
  have HC := Lib.hid (fun W => cut_spec d t g W h1 g1 g2)
  have HT := Lib.hid (fun W => ten_any (4 - g) W (by omega) (by omega))
  have hu := p10_bd (4 - g).toNat (by omega)
  have hb : 1000 ≤ (nlA d t g).1 ∧ (nlA d t g).1 ≤ 10000 := by
    have c := (fg_iff _ _).1 h1
    have := nd_lit d c.1.1 c.1.2 (4 - g).toNat (by omega)
    unfold nlA ctR
    split
    · simp
    · simp only; omega
  have qu : IntKind.i64.wrap ((nlA d t g).1 + p10 (4 - g).toNat) = nlB d t g := IntWalk.i64_in _ (by omega)
  have qg : IntKind.i64.wrap (4 - g) = 4 - g := IntWalk.i64_in _ (by omega)
  rw [show ctR d t (p10 (4 - g).toNat) = nlA d t g from rfl] at HC
  have hf4 := nlA_fg h1 g1 g2 h4
  have hs := e1
  have he := of_decide_eq_true e2
  have HB := Lib.hid (fun W => isFigure_spec (nlB d t g) (nlA d t g).2 W)
  rw [h3, h4] at HB
  rw [h3] at HC
  have HA := Lib.hid (fun (k : Nat) (hk : k < 1000) W => apart_spec s (nlA d t g).1 t (nlB d t g) t (100 * ((k : Int) + 1)) e W hf4 h4 hs ((ln_iff _).2 ⟨by omega, by omega⟩) he)
  have HQ := Lib.hid (show ∀ k : Nat, apt s (nlA d t g).1 t (nlB d t g) t (100 * ((k : Int) + 1)) e = (fun i : Nat => apt s (nlA d t g).1 t (nlB d t g) t (100 * ((i : Int) + 1)) e) k from fun _ => rfl)
  have HN := Lib.hid (show ndN s (nlA d t g).1 t (nlB d t g) t e = fstQ (fun i : Nat => apt s (nlA d t g).1 t (nlB d t g) t (100 * ((i : Int) + 1)) e) 1000 from rfl)
  generalize (fun i : Nat => apt s (nlA d t g).1 t (nlB d t g) t (100 * ((i : Int) + 1)) e) = q at *
  generalize ndN s (nlA d t g).1 t (nlB d t g) t e = z at *
  generalize nlB d t g = B at *
  generalize nlA d t g = A at *
  obtain ⟨A1, A2⟩ := A
  generalize p10 (4 - g).toNat = u at *
  simp only at HC HB hb qu HA HQ h3
  subst h3
  have K1 := Lib.hid (show ∀ W, Calls Tryd.prog 66 #[.int .i64 s] W (fun e' w' => e' = .returned (.bool true) ∧ W = w') from fun W => e1 ▸ isScale_spec s W)
  have K2 := Lib.hid (show ∀ W, Calls Tryd.prog 67 #[.int .i64 e, .int .i64 0, .int .i64 200] W (fun e' w' => e' = .returned (.bool true) ∧ W = w') from fun W => e2 ▸ in_any e 0 200 W)
  have K3 := Lib.hid (show ∀ W, Calls Tryd.prog 67 #[.int .i64 g, .int .i64 1, .int .i64 4] W (fun e' w' => e' = .returned (.bool true) ∧ W = w') from fun W => e3 ▸ in_any g 1 4 W)
  have K4 := Lib.hid (show ∀ W, Calls Tryd.prog 67 #[.int .i64 A2, .int .i64 0, .int .i64 (dec s - 1)] W (fun e' w' => e' = .returned (.bool true) ∧ W = w') from fun W => e4 ▸ in_any A2 0 (dec s - 1) W)
  have K5 := Lib.hid (show ∀ W, Calls Tryd.prog 67 #[.int .i64 A2, .int .i64 0, .int .i64 (IntKind.i64.wrap (dec s - 1))] W (fun e' w' => e' = .returned (.bool true) ∧ W = w') from fun W => qd.symm ▸ K4.out W)
  clear e1 e2 e3 e4
  generalize dec s = dc at *
  clear h1 h2 h4 hf4 hs he
  go_enter Tryd.func28, Tryd.ntmps28
  go_wp2_with (go_at_call 65; refine (HF.out _).mono ?_; rintro e' w1 ⟨rfl, k, os, rfl⟩)
  ((first | refine region_gr_on (by kernel_rfl) (by kernel_rfl) ?_ | refine region_gr (by kernel_rfl) (by kernel_rfl) ?_); (repeat (quiet_step (first | with_reducible exact Calls.gr_same (K1.out _) | with_reducible exact Calls.gr_same (K2.out _) | with_reducible exact Calls.gr_same (K3.out _) | with_reducible exact Calls.gr_same (K4.out _) | with_reducible exact Calls.gr_same (K5.out _) | with_reducible exact Calls.gr_same (HD.out _)))); refine wpQuiet_nil ?_; intro _ hw'; obtain ⟨⟨kq, oq⟩, hw''⟩ := hw'; subst hw'')
  · go_wp2_with fail
    refine (HC.out _).mono ?_
    rintro e' w1 ⟨rfl, hg1⟩
    have G1 : Gr w w1 := Gr.trans (by repeat (first | with_reducible exact Gr.refl _ | with_reducible refine Gr.alloc ?_ _ | with_reducible refine Gr.gr ?_ _ _ | with_reducible refine Gr.drew ?_ | with_reducible refine Gr.drewN ?_ _)) hg1
    have c0 : w1.cell? ⟨w.heap.size, 0, none⟩ = some (.int .i64 d) := (hg1.below.cell (p := ⟨w.heap.size, 0, none⟩) (by simp only [gr_size, World.size_alloc]; omega)).trans (by (first | (go_simp; done) | (simp (disch := first | omega | (simp [gr_size]; done) | (simp [gr_size]; omega)) [gr_cell, World.cell?_drew, World.cell?_alloc_at, World.cell?_alloc_past]; done)))
    have c1 : w1.cell? ⟨w.heap.size, 1, none⟩ = some (.int .i64 A2) := (hg1.below.cell (p := ⟨w.heap.size, 1, none⟩) (by simp only [gr_size, World.size_alloc]; omega)).trans (by (first | (go_simp; done) | (simp (disch := first | omega | (simp [gr_size]; done) | (simp [gr_size]; omega)) [gr_cell, World.cell?_drew, World.cell?_alloc_at, World.cell?_alloc_past]; done)))
    have l1 : w.heap.size < w1.heap.size := World.block_lt_of_cell? w1 _ c0
    have n1 : w.heap.size ≠ w1.heap.size := Nat.ne_of_lt l1
    clear hg1
    go_wp2_with fail
    go_region_held3 (fun w' => w'.cell? ⟨w1.heap.size, 0, none⟩ = some (.int .i64 A1) ∧ w'.cell? ⟨w1.heap.size, 1, none⟩ = some (.int .i64 A2)) (first | (go_simp; done) | (simp (disch := first | omega | (simp [gr_size]; done) | (simp [gr_size]; omega)) [gr_cell, World.cell?_drew, World.cell?_alloc_at, World.cell?_alloc_past]; done)) (first
      | (go_at_call 69; (try rw [qg]); refine (HT.out _).mono ?_; rintro e' w' ⟨rfl, rfl⟩))
    all_goals
      have l2 : w.heap.size < w1.heap.size + 1 + 1 := by omega
      go_wp2_with fail
      refine (HB.out _).mono ?_
      rintro e' w3 ⟨rfl, hg3⟩
      have G3 : Gr w w3 := (G1.trans (by repeat (first | with_reducible exact Gr.refl _ | with_reducible refine Gr.alloc ?_ _ | with_reducible refine Gr.gr ?_ _ _ | with_reducible refine Gr.drew ?_ | with_reducible refine Gr.drewN ?_ _))).trans hg3
      have a0 : w3.cell? ⟨w1.heap.size, 0, none⟩ = some (.int .i64 A1) := (hg3.below.cell (p := ⟨w1.heap.size, 0, none⟩) (by first | (simp; done) | (simp; omega))).trans (by (first | (go_simp; done) | (simp (disch := first | omega | (simp [gr_size]; done) | (simp [gr_size]; omega)) [gr_cell, World.cell?_drew, World.cell?_alloc_at, World.cell?_alloc_past]; done)))
      have a1 : w3.cell? ⟨w1.heap.size, 1, none⟩ = some (.int .i64 A2) := (hg3.below.cell (p := ⟨w1.heap.size, 1, none⟩) (by first | (simp; done) | (simp; omega))).trans (by (first | (go_simp; done) | (simp (disch := first | omega | (simp [gr_size]; done) | (simp [gr_size]; omega)) [gr_cell, World.cell?_drew, World.cell?_alloc_at, World.cell?_alloc_past]; done)))
      have b0 : w3.cell? ⟨w1.heap.size + 1, 0, none⟩ = some (.int .i64 B) := (hg3.below.cell (p := ⟨w1.heap.size + 1, 0, none⟩) (by first | (simp; done) | (simp; omega))).trans (by (first | (go_simp; done) | (simp (disch := first | omega | (simp [gr_size]; done) | (simp [gr_size]; omega)) [gr_cell, World.cell?_drew, World.cell?_alloc_at, World.cell?_alloc_past]; done)))
      have b1 : w3.cell? ⟨w1.heap.size + 1, 1, none⟩ = some (.int .i64 A2) := (hg3.below.cell (p := ⟨w1.heap.size + 1, 1, none⟩) (by first | (simp; done) | (simp; omega))).trans (by (first | (go_simp; done) | (simp (disch := first | omega | (simp [gr_size]; done) | (simp [gr_size]; omega)) [gr_cell, World.cell?_drew, World.cell?_alloc_at, World.cell?_alloc_past]; done)))
      have t1 : w3.cell? ⟨w.heap.size, 1, none⟩ = some (.int .i64 A2) := (hg3.below.cell (p := ⟨w.heap.size, 1, none⟩) (by simp; omega)).trans (by (first | (go_simp; done) | (simp (disch := first | omega | (simp [gr_size]; done) | (simp [gr_size]; omega)) [gr_cell, World.cell?_drew, World.cell?_alloc_at, World.cell?_alloc_past]; done)))
      have la := World.block_lt_of_cell? w3 _ a0
      have lb := World.block_lt_of_cell? w3 _ b0
      clear hg3 G1 c0 c1 l1 n1 l2 HF HD K1 K2 K3 K4 K5 HC HT HB qu qg qd hb hu
      go_wp2
      clear t1
      go_loopw [12] (fun i wr => ∃ (k : Nat) (L : Int), Hid (k ≤ 1000 ∧ L = 100 * ((k : Int) + 1)) ∧ 100 ≤ L ∧ L ≤ 100100 ∧ i = .int .i64 L ∧ Hid (∀ j, j < k → q j = false) ∧ Gr w3 wr) (fun i _ => (100100 - intOf i).toNat)
      case atStart => exact ⟨0, 100, Lib.hid ⟨by omega, rfl⟩, by omega, by omega, rfl, Lib.hid (fun j hj => absurd hj (by omega)), Gr.refl _⟩
      case round =>
        obtain ⟨k, L, KL, L1, L2, rfl, J, hG⟩ := hrel
        have r0 := (hG.below.cell (p := ⟨w1.heap.size, 0, none⟩) la).trans a0
        have r1 := (hG.below.cell (p := ⟨w1.heap.size, 1, none⟩) la).trans a1
        have r2 := (hG.below.cell (p := ⟨w1.heap.size + 1, 0, none⟩) lb).trans b0
        have r3 := (hG.below.cell (p := ⟨w1.heap.size + 1, 1, none⟩) lb).trans b1
        by_cases hlt : L ≤ 100000
        · have hk : Hid (k < 1000) := Lib.hid (by have := KL.out; omega)
          have hc := Lib.hid (HA.out k hk.out)
          have hq0 := HQ.out k
          rw [hq0] at hc
          clear hq0
          rw [← KL.out.2] at hc
          cases hq : q k
          · rw [hq] at hc
            have HS := Lib.hid (all_succ (P := fun j => q j = false) J.out hq)
            clear hq
            go_wp2_with (go_at_call 70; refine (hc.out _).mono ?_; rintro e' w4 ⟨rfl, hg4⟩)
            go_roundw
            case rel => exact ⟨k + 1, L + 100, Lib.hid ⟨by have := hk.out; omega, by have := KL.out.2; omega⟩, by omega, by omega, rfl, HS, hG.trans hg4⟩
            case measure => simp [intOf]; omega
          · rw [hq] at hc
            have HR := Lib.hid (show nlR s d A2 e g = (L, 0) by
              rw [H.out, HN.out, fstQ_hit q 1000 k hk.out hq J.out, if_neg (by omega), KL.out.2])
            clear hq
            go_wp2_with (go_at_call 70; refine (hc.out _).mono ?_; rintro e' w4 ⟨rfl, hg4⟩)
            go_ret2
            exact ⟨ret_two (by rw [HR.out]) (by rw [HR.out]), (G3.trans hG).trans hg4⟩
        · have hk : k = 1000 := by have := KL.out; omega
          have HR := Lib.hid (show nlR s d A2 e g = (0, 4) by
            rw [H.out, HN.out, fstQ_none q 1000 (by rw [← hk]; exact J.out), if_pos (by omega)])
          clear hk
          go_wp2
          go_ret2
          exact ⟨ret_two (by rw [HR.out]) (by rw [HR.out]), G3.trans hG⟩
end Go.Proofs.YtgadkpkpdpphbaaDoor
