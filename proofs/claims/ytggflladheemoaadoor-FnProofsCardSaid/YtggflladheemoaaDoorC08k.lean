/- Contracts of chapter 8: ticks by falling heights; whether a tick is apart from those that have been kept. -/
import Derived.Test.YtggflladheemoaaDoor8B
import Derived.Test.YtggflladheemoaaDoorC08g
import Derived.Test.YtggflladheemoaaDoorMC
namespace Go.Proofs.YtggflladheemoaaDoor
open Go.RowKit Go.Shelf
set_option linter.unusedVariables false
set_option linter.unusedSimpArgs false

theorem haveHeights_any (A : Option Addr) (n c : Nat) (zs : List P3) (w : World) (hn : zs.length = n) (hN : n ≤ 16777216) (hA : Reads w w.heap.size A (cells3 zs)) :
    Calls Tryd.prog 159 #[.slice A n c] w fun e w' => e = .returned (.bool (allH zs)) ∧ Gr w w' := by
  have HL := Lib.hid hn
  have HA := Lib.hid hA
  clear hA hn
  go_enter Tryd.func159, Tryd.ntmps159
  go_wp2
  go_loopw [7] (fun i wr => ∃ k : Nat, k ≤ n ∧ i = .int .i64 k ∧ Hid (allH (zs.take k) = true) ∧ Gr w wr) (fun i _ => n - (intOf i).toNat)
  case atStart => exact ⟨0, by omega, rfl, Lib.hid (by simp [allH]), Gr.refl _⟩
  case round =>
    obtain ⟨k, hk, rfl, ha, hG⟩ := hrel
    by_cases hlt : k < n
    · obtain ⟨z, hz⟩ := some_at (l := zs) (k := k) (by rw [HL.out]; exact hlt)
      obtain ⟨g, o, rfl, hg, x0, x1, x2⟩ := (HA.out.gr hG).at3 hz
      have HZ := Lib.hid hz
      clear hz
      obtain ⟨za, zb, zc⟩ := z
      simp only at x0 x1 x2
      by_cases h1 : 0 ≤ zc
      rotate_left
      · have HQ := Lib.hid (allH_bad HZ.out (fun h => h1 h.1))
        go_wp2
        go_ret
        exact ⟨ret_bool HQ.out.symm, hG.trans (by repeat (first | with_reducible exact Gr.refl _ | with_reducible refine Gr.alloc ?_ _ | with_reducible refine Gr.gr ?_ _ _ | with_reducible refine Gr.drew ?_ | with_reducible refine Gr.drewN ?_ _))⟩
      by_cases h2 : zc ≤ 4
      rotate_left
      · have HQ := Lib.hid (allH_bad HZ.out (fun h => h2 h.2))
        go_wp2
        go_ret
        exact ⟨ret_bool HQ.out.symm, hG.trans (by repeat (first | with_reducible exact Gr.refl _ | with_reducible refine Gr.alloc ?_ _ | with_reducible refine Gr.gr ?_ _ _ | with_reducible refine Gr.drew ?_ | with_reducible refine Gr.drewN ?_ _))⟩
      · have HQ := Lib.hid (allH_take HZ.out ha.out ⟨h1, h2⟩)
        go_wp2
        go_roundw
        case rel => exact ⟨k + 1, by omega, by go_num, HQ, hG.trans (by repeat (first | with_reducible exact Gr.refl _ | with_reducible refine Gr.alloc ?_ _ | with_reducible refine Gr.gr ?_ _ _ | with_reducible refine Gr.drew ?_ | with_reducible refine Gr.drewN ?_ _))⟩
        case measure => simp [intOf]; omega
    · obtain rfl : k = n := by omega
      have HF := Lib.hid (show zs.take k = zs from List.take_of_length_le (by rw [HL.out]; omega))
      go_wp2
      go_ret
      exact ⟨ret_bool (by rw [← HF.out]; exact ha.out.symm), hG⟩
theorem th_at {zs : List P3} {k : Nat} (h : k < zs.length) : ∃ za zb, zs[k]? = some (za, zb, tkH zs k) := by
  obtain ⟨⟨za, zb, zc⟩, hz⟩ := some_at h
  exact ⟨za, zb, by rw [tkH_at hz]; exact hz⟩
/-- One tick is higher than another one: the closure. -/
theorem higher_any (b : Nat) (A : Option Addr) (n c : Nat) (zs : List P3) (i j : Nat) (w : World) (hn : zs.length = n) (hN : n ≤ 16777216) (hi : i < n) (hj : j < n) (hb : w.cell? ⟨b, 0, none⟩ = some (.slice A n c)) (hA : Reads w w.heap.size A (cells3 zs)) :
    Calls Tryd.prog 193 #[.int .i64 i, .int .i64 j, .pointer (some ⟨b, 0, none⟩)] w fun e w' => e = .returned (.bool (bfH zs i j)) ∧ Gr w w' := by
  obtain ⟨a0, b0, zi⟩ := th_at (zs := zs) (k := i) (by rw [hn]; exact hi)
  obtain ⟨a1, b1, zj⟩ := th_at (zs := zs) (k := j) (by rw [hn]; exact hj)
  obtain ⟨g, o, rfl, hg, -, -, x2⟩ := hA.at3 zi
  obtain ⟨g2, o2, eg, -, -, -, y2⟩ := hA.at3 zj
  injection eg with eg
  injection eg with eg1 eg2
  subst eg1 eg2
  have HB := Lib.hid (show bfH zs i j = decide (tkH zs j < tkH zs i) from rfl)
  simp only at x2 y2
  generalize tkH zs i = p at *
  generalize tkH zs j = q at *
  have hbl := World.block_lt_of_cell? w _ hb
  clear zi zj hA
  go_enter Tryd.func193, Tryd.ntmps193
  go_wp2
  ((first | refine region_gr_on (by kernel_rfl) (by kernel_rfl) ?_ | refine region_gr (by kernel_rfl) (by kernel_rfl) ?_); (repeat (quiet_step (fail))); refine wpQuiet_nil ?_; intro _ hw'; obtain ⟨⟨kq, oq⟩, hw''⟩ := hw'; subst hw'')
  go_wp2
  go_ret
  exact ⟨ret_bool HB.out.symm, (by repeat (first | with_reducible exact Gr.refl _ | with_reducible refine Gr.alloc ?_ _ | with_reducible refine Gr.gr ?_ _ _ | with_reducible refine Gr.drew ?_ | with_reducible refine Gr.drewN ?_ _))⟩
theorem less_any (a b : Int) (w : World) :
    Calls Tryd.prog 117 #[.int .i64 a, .int .i64 b] w fun e w' => e = .returned (.bool (decide (a < b))) ∧ Gr w w' := by
  have HN : Hid (∀ (x : Int) (W : World), Calls Tryd.prog 165 #[.int .i64 x] W fun e w' => e = .returned (.bool false) ∧ W = w') := Lib.hid (fun x W => by
    go_enter Tryd.func165, Tryd.ntmps165
    go_wp2
    go_ret
    exact ⟨rfl, rfl⟩)
  go_enter Tryd.func117, Tryd.ntmps117
  go_wp2_with (go_at_call 165; refine (HN.out _ _).mono ?_; rintro e w' ⟨rfl, rfl⟩)
  go_ret
  exact ⟨rfl, Gr.refl _⟩
abbrev natI (L : List Nat) : List Int := L.map fun (i : Nat) => (i : Int)
theorem natI_mem {L : List Nat} {y : Int} (h : y ∈ natI L) : ∃ j, j ∈ L ∧ y = (j : Int) := by
  obtain ⟨j, hj, rfl⟩ := List.mem_map.1 h
  exact ⟨j, hj, rfl⟩
def bfZ (zs : List P3) (a b : Int) : Bool := bfH zs a.toNat b.toNat
theorem byH_ins {zs : List P3} (ha : allH zs = true) (k : Nat) : insB (bfZ zs) (k : Int) (natI (byH zs k)) = natI (byH zs (k + 1)) := by
  rw [byH_succ ha]
  exact insB_map (fun (i : Nat) => (i : Int)) (bfH zs) (bfZ zs) k (byH zs k) (fun y _ => rfl)
set_option maxRecDepth 100000 in
set_option maxHeartbeats 2000000 in
theorem byFalling_any (A : Option Addr) (n c : Nat) (zs : List P3) (w : World) (hn : zs.length = n) (hN : n ≤ 100000) (hA : Reads w w.heap.size A (cells3 zs)) (ha : allH zs = true) :
    Calls Tryd.prog 168 #[.slice A n c] w fun e w' => (∃ v, e = .returned v ∧ Lst w' w.heap.size v (natI (byH zs n))) ∧ Below w.heap.size w w' := by
  have HI := Lib.hid (fun k => byH_ins ha k)
  have HLN := Lib.hid (fun k => byH_len zs ha k)
  have HB1 : Hid (Below w.heap.size w (w.alloc (.cells #[.slice A n c] 47))) := Lib.hid ((Below.refl _ _).alloc (Nat.le_refl _) _)
  have HBX : Hid (Row (w.alloc (.cells #[.slice A n c] 47)) w.heap.size 47 [.slice A n c]) := Lib.hid (Row.new w _ _)
  have HA1 := Lib.hid (fun W (h : Below w.heap.size w W) => hA.below h)
  have HH := Lib.hid (fun W (hb : W.cell? ⟨w.heap.size, 0, none⟩ = some (.slice A n c)) (h : Below w.heap.size w W) (i j : Nat) (hi : i < n) (hj : j < n) => higher_any w.heap.size A n c zs i j W hn (by omega) hi hj hb (hA.below h))
  have HMEM := Lib.hid (fun (k i : Nat) (h : i ∈ byH zs k) => (byH_mem ha).1 h)
  have c0 : (w.alloc (.cells #[.slice A n c] 47)).cell? ⟨w.heap.size, 0, none⟩ = some (.slice A n c) := by simp
  have hs1 : (w.alloc (.cells #[.slice A n c] 47)).heap.size = w.heap.size + 1 := by simp
  clear hA
  go_enter Tryd.func168, Tryd.ntmps168
  go_wp2
  clear c0
  generalize w.alloc (.cells #[.slice A n c] 47) = w1 at *
  have HO1 : Hid (Lst (w1.alloc (.cells #[] 2)) (w.heap.size + 1) (.slice (some ⟨w.heap.size + 1, 0, none⟩) 0 0) []) := Lib.hid (by
    have := World.ownsRow_made (base := w.heap.size + 1) (e := 2) (size := 1) w1 #[] 0 (by omega) (Nat.zero_le _) rfl
    rw [hs1] at this
    exact this)
  have HB2 : Hid (Below (w.heap.size + 1) w1 (w1.alloc (.cells #[] 2))) := Lib.hid ((Below.refl _ _).alloc (by omega) _)
  generalize w1.alloc (.cells #[] 2) = w2 at *
  go_loopw [3, 8] (fun v i wr => ∃ k : Nat, k ≤ n ∧ i = .int .i64 k ∧ Lst wr (w.heap.size + 1) v (natI (byH zs k)) ∧ Below (w.heap.size + 1) w1 wr) (fun _ i _ => n - (intOf i).toNat)
  case atStart => exact ⟨0, by omega, rfl, HO1.out, HB2.out⟩
  case round =>
    obtain ⟨k, hk, rfl, hO, hB⟩ := hrel
    by_cases hlt : k < n
    · have hsz : w.heap.size + 1 ≤ wr.heap.size := by have := hB.size; omega
      have hBw := HB1.out.trans (hB.mono (Nat.le_succ _))
      have HINS := Lib.hid (insI_any 193 #[.pointer (some ⟨w.heap.size, 0, none⟩)] (bfZ zs) k u3 (natI (byH zs k)) (w.heap.size + 1) wr (by rw [List.length_map, HLN.out]; omega) hsz hO (fun _ _ => by kernel_rfl) (fun W hg y hy => by
        obtain ⟨j, hj, rfl⟩ := natI_mem hy
        have hjk := HMEM.out k j hj
        have hcell : W.cell? ⟨w.heap.size, 0, none⟩ = some (.slice A n c) := by
          have h0 := HBX.out.cell 0
          have h1 := (hB.cell (p := ⟨w.heap.size, 0, none⟩) (by simp)).trans h0
          exact (hg.below.cell (p := ⟨w.heap.size, 0, none⟩) (by simp; omega)).trans h1
        exact HH.out W hcell (hBw.trans (hg.below.mono (by omega))) k j hlt (by omega)))
      rw [HI.out k] at HINS
      have HB := Lib.hid hB
      have HO := Lib.hid hO
      clear hO hB hBw
      go_wp2_with (go_at_call 116; refine HINS.out.mono ?_; rintro e w5 ⟨⟨v5, rfl, hv5, -⟩, hb5⟩; have HV5 := Lib.hid hv5; have HB5 := Lib.hid (HB.out.trans (Lst.below_of HO.out hsz hb5)); clear hv5 hb5)
      go_roundw
      case rel => exact ⟨k + 1, by omega, by go_num, HV5.out, HB5.out⟩
      case measure => simp [intOf]; omega
    · obtain rfl : k = n := by omega
      go_wp2
      go_ret
      exact ⟨⟨_, rfl, hO.mono (Nat.le_succ _)⟩, HB1.out.trans (hB.mono (Nat.le_succ _))⟩

set_option maxRecDepth 100000 in
set_option maxHeartbeats 2000000 in
theorem isApart_any (A AK : Option Addr) (n c nk ck : Nat) (zs : List P3) (K : List Nat) (i : Nat) (g : Nat) (cb : Array Value) (nr : Nat → Nat → Bool) (w : World) (hn : zs.length = n) (hN : n ≤ 100000) (hA : Reads w w.heap.size A (cells3 zs)) (hi : i < n) (hk : K.length = nk) (hkN : nk ≤ 2000000) (hK : ∀ k ∈ K, k < n) (hR : Reads w w.heap.size AK ((natI K).map vi)) (eg : ∀ args w, (callFunc g args).run Tryd.prog w = .ok (.enter g args) w)
    (hf : ∀ W, Gr w W → ∀ (k : Nat) (x y : P3), zs[i]? = some x → zs[k]? = some y → Calls Tryd.prog g (#[.agg #[.int .i64 x.1, .int .i64 x.2.1, .int .i64 x.2.2], .agg #[.int .i64 y.1, .int .i64 y.2.1, .int .i64 y.2.2]] ++ cb) W fun e w' => e = .returned (.bool (nr i k)) ∧ Gr W w') :
    Calls Tryd.prog 169 #[.slice A n c, .int .i64 i, .slice AK nk ck, .func (.func g) #[] cb] w fun e w' => e = .returned (.bool (K.all fun k => !nr i k)) ∧ Gr w w' := by
  have HA := Lib.hid hA
  have HL := Lib.hid hn
  have HK := Lib.hid hK
  have HKL := Lib.hid hk
  have HR := Lib.hid hR
  have HF0 := Lib.hid hf
  have HNO := Lib.hid (fun (k : Nat) (h : k ∈ K) (h2 : nr i k = true) => show (K.all fun k => !nr i k) = false by
    cases h3 : K.all fun k => !nr i k
    · rfl
    · rw [List.all_eq_true] at h3
      have := h3 k h
      rw [h2] at this
      cases this)
  have HYES := Lib.hid (fun (h : ∀ k, k ∈ K → nr i k = false) => show (K.all fun k => !nr i k) = true by
    rw [List.all_eq_true]
    intro k hk
    rw [h k hk]; rfl)
  clear hA hn hK hk hR hf
  go_enter Tryd.func169, Tryd.ntmps169
  go_wp2
  go_loopw [13] (fun x wr => ∃ k : Nat, k ≤ nk ∧ x = .int .i64 k ∧ Hid (∀ j y, j < k → K[j]? = some y → nr i y = false) ∧ Gr w wr) (fun x _ => nk - (intOf x).toNat)
  case atStart => exact ⟨0, by omega, rfl, Lib.hid (fun j y h => absurd h (by omega)), Gr.refl _⟩
  case round =>
    obtain ⟨k, hk, rfl, hI, hG⟩ := hrel
    by_cases hlt : k < nk
    · obtain ⟨y, hy⟩ := some_at (l := K) (k := k) (by rw [HKL.out]; exact hlt)
      have hyn := HK.out y (List.mem_of_getElem? hy)
      have hyk : ((natI K).map vi)[k]? = some (vi (y : Int)) := by rw [List.getElem?_map, List.getElem?_map, hy]; rfl
      obtain ⟨gk, ok, rfl, hgk, hck⟩ := (HR.out.gr hG).at_ hyk
      obtain ⟨⟨a0, b0, c0⟩, z0⟩ := some_at (l := zs) (k := i) (by rw [HL.out]; exact hi)
      obtain ⟨⟨a1, b1, c1⟩, z1⟩ := some_at (l := zs) (k := y) (by rw [HL.out]; exact hyn)
      obtain ⟨ga, o, rfl, hg, x0, x1, x2⟩ := (HA.out.gr hG).at3 z0
      obtain ⟨g2, o2, eg2, -, y0, y1, y2⟩ := (HA.out.gr hG).at3 z1
      injection eg2 with eg2
      injection eg2 with eg3 eg4
      subst eg3 eg4
      simp only at x0 x1 x2 y0 y1 y2
      have HN := Lib.hid (HNO.out y (List.mem_of_getElem? hy))
      have HI2 := Lib.hid (fun (h : nr i y = false) => show ∀ j u, j < k + 1 → K[j]? = some u → nr i u = false from fun j u hj hu => by
        rcases Nat.lt_or_ge j k with h1 | h1
        · exact hI.out j u h1 hu
        · obtain rfl : j = k := by omega
          rw [hy] at hu
          injection hu with hu
          subst hu
          exact h)
      have HF := Lib.hid (fun W (h : Gr w W) => HF0.out W h y _ _ z0 z1)
      simp only at HF
      generalize nr i y = dd at *
      have HG := Lib.hid hG
      have hyn' : (y : Int) < (n : Int) := by omega
      have hin' : (i : Int) < (n : Int) := by omega
      clear hy hyk z0 z1 hG
      have HF2 := Lib.hid (fun k0 os0 => HF.out (gr wr k0 os0) (HG.out.gr k0 os0))
      clear HF
      go_wp2
      ((first | refine region_gr_on (by kernel_rfl) (by kernel_rfl) ?_ | refine region_gr (by kernel_rfl) (by kernel_rfl) ?_); (repeat (quiet_step (with_reducible exact Calls.gr_of (HF2.out _ _)))); refine wpQuiet_nil ?_; intro _ hw'; obtain ⟨⟨kq, oq⟩, hw''⟩ := hw'; subst hw'')
      cases dd
      · have HQ := Lib.hid (HI2.out rfl)
        go_wp2
        go_roundw
        case rel => exact ⟨k + 1, by omega, by go_num, HQ, HG.out.trans (by repeat (first | with_reducible exact Gr.refl _ | with_reducible refine Gr.alloc ?_ _ | with_reducible refine Gr.gr ?_ _ _ | with_reducible refine Gr.drew ?_ | with_reducible refine Gr.drewN ?_ _))⟩
        case measure => simp [intOf]; omega
      · have HQ := Lib.hid (HN.out rfl)
        go_wp2
        go_ret
        exact ⟨ret_bool HQ.out.symm, HG.out.trans (by repeat (first | with_reducible exact Gr.refl _ | with_reducible refine Gr.alloc ?_ _ | with_reducible refine Gr.gr ?_ _ _ | with_reducible refine Gr.drew ?_ | with_reducible refine Gr.drewN ?_ _))⟩
    · obtain rfl : k = nk := by omega
      have HQ := Lib.hid (HYES.out (fun y hy => by
        obtain ⟨j, hj, e⟩ := List.mem_iff_getElem.1 hy
        exact hI.out j y (by have := HKL.out; omega) (by rw [List.getElem?_eq_getElem hj, e])))
      go_wp2
      go_ret
      exact ⟨ret_bool HQ.out.symm, hG⟩
end Go.Proofs.YtggflladheemoaaDoor
