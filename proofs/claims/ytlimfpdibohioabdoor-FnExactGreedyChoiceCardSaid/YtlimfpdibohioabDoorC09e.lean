/- Contracts of chapter 9: whether a list is a choice, in the program. -/
import Derived.Test.YtlimfpdibohioabDoorC09d
namespace Go.Proofs.YtlimfpdibohioabDoor
open Go.RowKit Go.Shelf
set_option linter.unusedVariables false
set_option linter.unusedSimpArgs false

theorem tkN_of {zs : List P3} {k : Nat} {z : P3} (h : zs[k]? = some z) : tkN zs k = z := by
  unfold tkN
  rw [List.getD_eq_getElem?_getD, h]
  rfl
theorem near_cb (zs : List P3) (ha : allL zs = true) (i k : Nat) (x y : P3) (hx : zs[i]? = some x) (hy : zs[k]? = some y) (w : World) (ht : Tab w) :
    Calls Tryd.prog 36 (#[.agg #[.int .i64 x.1, .int .i64 x.2.1, .int .i64 x.2.2], .agg #[.int .i64 y.1, .int .i64 y.2.1, .int .i64 y.2.2]] ++ #[]) w fun e w' => e = .returned (.bool (coN zs i k)) ∧ Gr w w' := by
  rw [show (#[Value.agg #[.int .i64 x.1, .int .i64 x.2.1, .int .i64 x.2.2], .agg #[.int .i64 y.1, .int .i64 y.2.1, .int .i64 y.2.2]] ++ #[] : Array Value) = #[tkV x, tkV y] from rfl]
  unfold coN
  rw [tkN_of hx, tkN_of hy]
  exact collide_impl x y w ht (allL_at ha hx) (allL_at ha hy)
theorem enters_near (args : Array Value) (w : World) : (callFunc 36 args).run Tryd.prog w = .ok (.enter 36 args) w := by kernel_rfl
theorem Reads.take {w : World} {B : Nat} {A : Option Addr} {vs : List Value} (h : Reads w B A vs) (k : Nat) : Reads w B A (vs.take k) := by
  intro j hj
  rw [List.length_take] at hj
  obtain ⟨g, o, a, b, c⟩ := h j (by omega)
  exact ⟨g, o, a, b, by rw [c, List.getElem_take]⟩
/-- The first ones of a choice, as numbers of ticks. -/
def chK (cs : List Int) (k : Nat) : List Nat := (cs.take k).map Int.toNat
theorem chK_len (cs : List Int) (k : Nat) (h : k ≤ cs.length) : (chK cs k).length = k := by unfold chK; rw [List.length_map, List.length_take]; omega
theorem chK_nat (cs : List Int) (k : Nat) (h : ∀ j, j < k → 0 ≤ cs.getD j 0) : natI (chK cs k) = cs.take k := by
  unfold chK natI
  rw [List.map_map]
  apply List.ext_getElem?
  intro j
  rw [List.getElem?_map]
  cases e : (cs.take k)[j]? with
  | none => rfl
  | some z =>
    rw [List.getElem?_take] at e
    split at e
    · rename_i hj
      have := h j hj
      rw [List.getD_eq_getElem?_getD, e] at this
      simp at this
      simp; omega
    · cases e
theorem chK_at {cs : List Int} {k q : Nat} (h : q < k) (hk : k ≤ cs.length) : (chK cs k)[q]? = some (cs.getD q 0).toNat := by
  unfold chK
  rw [List.getElem?_map, List.getElem?_take, if_pos h, List.getElem?_eq_getElem (by omega), List.getD_eq_getElem?_getD, List.getElem?_eq_getElem (by omega)]
  rfl
theorem chK_mem {cs : List Int} {k i : Nat} (hk : k ≤ cs.length) (h : i ∈ chK cs k) : ∃ q, q < k ∧ i = (cs.getD q 0).toNat := by
  obtain ⟨q, hq, e⟩ := List.mem_iff_getElem.1 h
  rw [chK_len cs k hk] at hq
  refine ⟨q, hq, ?_⟩
  have := chK_at hq hk
  rw [List.getElem?_eq_getElem (by rw [chK_len cs k hk]; exact hq), e] at this
  injection this

set_option maxRecDepth 100000 in
set_option maxHeartbeats 4000000 in
theorem choice_impl (A : Option Addr) (n c : Nat) (zs : List P3) (B : Option Addr) (m d : Nat) (cs : List Int) (w : World) (ht : Tab w) (hn : zs.length = n) (hN : n ≤ 100000) (hA : Reads w w.heap.size A (cells3 zs)) (ha : allL zs = true) (hm : cs.length = m) (hM : m ≤ 2000000) (hmd : m ≤ d) (hB : Reads w w.heap.size B (cs.map vi)) :
    Calls Tryd.prog 39 #[.slice A n c, .slice B m d] w fun e w' => e = .returned (.bool (chB zs cs)) ∧ Gr w w' := by
  have HA := Lib.hid hA
  have HB := Lib.hid hB
  have HL := Lib.hid hn
  have HM := Lib.hid hm
  have HT := Lib.hid ht
  have HAL := Lib.hid ha
  have HNC := Lib.hid (chB_no (zs := zs) (cs := cs))
  have HYC := Lib.hid (chB_yes (zs := zs) (cs := cs))
  have HP := Lib.hid (show chP zs cs = ((∀ k, k < cs.length → riP zs.length cs k) ∧ ∀ i k, i < cs.length → k < i → coN zs (cs.getD i 0).toNat (cs.getD k 0).toNat = false) from rfl)
  rw [hm, hn] at HP
  have HAP := Lib.hid (fun (AK : Option Addr) (nk ck : Nat) (K : List Nat) (i : Nat) W (h : Gr w W) (hi : i < n) (hk : K.length = nk) (hkN : nk ≤ 2000000) (hK : ∀ k ∈ K, k < n) hR => isApart_any A AK n c nk ck zs K i 36 #[] (coN zs) W hn hN (hA.gr h) hi hk hkN hK hR enters_near (fun W' hg k x y hx hy => near_cb zs ha i k x y hx hy W' (ht.gr (h.trans hg))))
  clear hA hn hm hB ha ht
  go_enter Tryd.func39, Tryd.ntmps39
  go_wp2
  go_loopw [9] (fun i wr => ∃ k : Nat, k ≤ m ∧ i = .int .i64 k ∧ Hid ((∀ j, j < k → riP n cs j) ∧ ∀ j l, j < k → l < j → coN zs (cs.getD j 0).toNat (cs.getD l 0).toNat = false) ∧ Gr w wr) (fun i _ => m - (intOf i).toNat)
  case atStart => exact ⟨0, by omega, rfl, Lib.hid ⟨fun j h => absurd h (by omega), fun j l h => absurd h (by omega)⟩, Gr.refl _⟩
  case round =>
    obtain ⟨k, hk, rfl, hI, hG⟩ := hrel
    by_cases hlt : k < m
    · have h1 := cs_at (cs := cs) (k := k) (by rw [HM.out]; exact hlt)
      obtain ⟨gb, ob, rfl, hgb, xk⟩ := (HB.out.gr hG).at_ h1
      have HRI := Lib.hid (show riP n cs k = ((0 ≤ cs.getD k 0 ∧ cs.getD k 0 < (n : Int)) ∧ (0 < k → cs.getD (k - 1) 0 < cs.getD k 0)) from rfl)
      have HN1 := Lib.hid (fun (h : ¬ riP n cs k) => HNC.out (fun hp => by
        rw [HP.out] at hp
        exact h (hp.1 k hlt)))
      have HG := Lib.hid hG
      have HPOS := Lib.hid (fun j (hj : j < k) => (hI.out.1 j hj).1)
      clear h1 hG
      by_cases a1 : 0 ≤ cs.getD k 0
      rotate_left
      · have HQ := Lib.hid (HN1.out (by rw [HRI.out]; intro h; exact a1 h.1.1))
        generalize cs.getD k 0 = x at *
        clear HN1 HRI HPOS
        go_wp2
        go_ret
        exact ⟨ret_bool HQ.out.symm, HG.out⟩
      by_cases a2 : cs.getD k 0 < (n : Int)
      rotate_left
      · have HQ := Lib.hid (HN1.out (by rw [HRI.out]; intro h; exact a2 h.1.2))
        generalize cs.getD k 0 = x at *
        clear HN1 HRI HPOS
        go_wp2
        go_ret
        exact ⟨ret_bool HQ.out.symm, HG.out⟩
      by_cases a3 : 0 < k → cs.getD (k - 1) 0 < cs.getD k 0
      rotate_left
      · have HQ := Lib.hid (HN1.out (by rw [HRI.out]; intro h; exact a3 h.2))
        have hk0 : 0 < k := by
          rcases Nat.eq_zero_or_pos k with h | h
          · exact absurd (fun h2 => absurd h2 (by omega)) a3
          · exact h
        have a4 : cs.getD k 0 ≤ cs.getD (k - 1) 0 := by
          rcases Int.lt_or_le (cs.getD (k - 1) 0) (cs.getD k 0) with h | h
          · exact absurd (fun _ => h) a3
          · exact h
        have h2 := cs_at (cs := cs) (k := k - 1) (by rw [HM.out]; omega)
        obtain ⟨gb2, ob2, eg, -, xq⟩ := (HB.out.gr HG.out).at_ h2
        injection eg with eg
        injection eg with eg1 eg2
        subst eg1 eg2
        have xq' : wr.cell? ⟨gb, ob + ((k : Int) - 1).toNat, none⟩ = some (vi (cs.getD (k - 1) 0)) := by rw [show ((k : Int) - 1).toNat = k - 1 by omega]; exact xq
        have hwk : IntKind.i64.wrap ((k : Int) - 1) = (k : Int) - 1 := IntWalk.i64_in _ (by omega)
        have hk1 : (0 : Int) ≤ (k : Int) - 1 := by omega
        generalize cs.getD (k - 1) 0 = y at *
        generalize cs.getD k 0 = x at *
        clear HN1 HRI HPOS a3 h2
        go_wp2
        go_ret
        exact ⟨ret_bool HQ.out.symm, HG.out⟩
      have HR1 := Lib.hid (show riP n cs k by rw [HRI.out]; exact ⟨⟨a1, a2⟩, a3⟩)
      obtain ⟨i, hi⟩ := Int.eq_ofNat_of_zero_le a1
      have hin : i < n := by rw [hi] at a2; omega
      have HKL := Lib.hid (chK_len cs k (by rw [HM.out]; omega))
      have HKN := Lib.hid (chK_nat cs k (fun j hj => (HPOS.out j hj).1))
      have HKM := Lib.hid (fun q (h : q ∈ chK cs k) => chK_mem (by rw [HM.out]; omega) h)
      have HKA := Lib.hid (fun q (h : q < k) => chK_at (cs := cs) h (by rw [HM.out]; omega))
      have HAPK := Lib.hid (fun W (h : Gr wr W) => HAP.out (some ⟨gb, ob, none⟩) k d (chK cs k) i W (HG.out.trans h) hin HKL.out (by omega) (fun q hq => by
        obtain ⟨j, hj, rfl⟩ := HKM.out q hq
        have := HPOS.out j hj
        omega) (by
        rw [HKN.out]
        have h3 := (HB.out.gr (HG.out.trans h)).take k
        rw [← List.map_take] at h3
        exact h3))
      have hiE : (cs.getD k 0).toNat = i := by rw [hi]; omega
      have HFA := Lib.hid (fun (h : ((chK cs k).all fun q => !coN zs i q) = false) => HNC.out (fun hp => by
        rw [HP.out] at hp
        have : ((chK cs k).all fun q => !coN zs i q) = true := by
          rw [List.all_eq_true]
          intro q hq
          obtain ⟨j, hj, rfl⟩ := HKM.out q hq
          have h4 := hp.2 k j hlt hj
          rw [hiE] at h4
          rw [h4]; rfl
        rw [h] at this
        cases this))
      have HTR := Lib.hid (fun (h : ((chK cs k).all fun q => !coN zs i q) = true) => show (∀ j, j < k + 1 → riP n cs j) ∧ ∀ j l, j < k + 1 → l < j → coN zs (cs.getD j 0).toNat (cs.getD l 0).toNat = false from by
        rw [List.all_eq_true] at h
        refine ⟨fun j hj => ?_, fun j l hj hl => ?_⟩
        · rcases Nat.lt_or_ge j k with h5 | h5
          · exact hI.out.1 j h5
          · rw [show j = k by omega]; exact HR1.out
        · rcases Nat.lt_or_ge j k with h5 | h5
          · exact hI.out.2 j l h5 hl
          · obtain rfl : j = k := by omega
            have h6 := h _ (List.mem_of_getElem? (HKA.out l hl))
            rw [hiE]
            simpa using h6)
      have hwk : IntKind.i64.wrap ((k : Int) - 1) = (k : Int) - 1 := IntWalk.i64_in _ (by omega)
      have hki : (i : Int) < (n : Int) := by omega
      have hkd : k ≤ d := by omega
      by_cases h0 : k = 0
      · subst h0
        rw [hi] at xk
        rw [Nat.add_zero] at xk
        generalize ((chK cs 0).all fun q => !coN zs i q) = r at *
        clear HN1 HRI HPOS a3 hi a1 a2 HR1 HKL HKN HKM HKA hiE
        cases r
        · have HQ := Lib.hid (HFA.out rfl)
          go_wp2_with (go_at_call 60; refine (HAPK.out _ (Gr.refl _)).mono ?_; rintro e w6 ⟨rfl, hg6⟩)
          go_ret
          exact ⟨ret_bool HQ.out.symm, HG.out.trans hg6⟩
        · have HQ := Lib.hid (HTR.out rfl)
          go_wp2_with (go_at_call 60; refine (HAPK.out _ (Gr.refl _)).mono ?_; rintro e w6 ⟨rfl, hg6⟩)
          go_roundw
          case rel => exact ⟨0 + 1, by omega, by go_num, HQ, HG.out.trans hg6⟩
          case measure => simp [intOf]; omega
      · have h2 := cs_at (cs := cs) (k := k - 1) (by rw [HM.out]; omega)
        obtain ⟨gb2, ob2, eg, -, xq⟩ := (HB.out.gr HG.out).at_ h2
        injection eg with eg
        injection eg with eg1 eg2
        subst eg1 eg2
        have xq' : wr.cell? ⟨gb, ob + ((k : Int) - 1).toNat, none⟩ = some (vi (cs.getD (k - 1) 0)) := by rw [show ((k : Int) - 1).toNat = k - 1 by omega]; exact xq
        have hk1 : (0 : Int) ≤ (k : Int) - 1 := by omega
        have hk0 : 0 < k := by omega
        have a4 : ¬ (i : Int) ≤ cs.getD (k - 1) 0 := by have := a3 hk0; rw [hi] at this; simpa using this
        rw [hi] at xk
        generalize ((chK cs k).all fun q => !coN zs i q) = r at *
        generalize cs.getD (k - 1) 0 = y at *
        clear HN1 HRI HPOS a3 hi a1 a2 h2 HR1 HKL HKN HKM HKA hiE
        cases r
        · have HQ := Lib.hid (HFA.out rfl)
          go_wp2_with (go_at_call 60; refine (HAPK.out _ (Gr.refl _)).mono ?_; rintro e w6 ⟨rfl, hg6⟩)
          go_ret
          exact ⟨ret_bool HQ.out.symm, HG.out.trans hg6⟩
        · have HQ := Lib.hid (HTR.out rfl)
          go_wp2_with (go_at_call 60; refine (HAPK.out _ (Gr.refl _)).mono ?_; rintro e w6 ⟨rfl, hg6⟩)
          go_roundw
          case rel => exact ⟨k + 1, by omega, by go_num, HQ, HG.out.trans hg6⟩
          case measure => simp [intOf]; omega
    · obtain rfl : k = m := by omega
      have HQ := Lib.hid (HYC.out (by rw [HP.out]; exact hI.out))
      go_wp2
      go_ret
      exact ⟨ret_bool HQ.out.symm, hG⟩
end Go.Proofs.YtlimfpdibohioabDoor
