/- Plain mathematics, merged. -/
import Derived.Test.YtggflladheemoaaDoorC09o
import Derived.Test.YtggflladheemoaaDoor9C
import Derived.Test.YtggflladheemoaaDoor8C
import Derived.Test.YtggflladheemoaaDoor9A
import Derived.Test.YtggflladheemoaaDoorMC
/- Contracts of chapter 9: LabelProof. -/
namespace Go.Proofs.YtggflladheemoaaDoor
open Go.RowKit Go.Shelf
set_option linter.unusedVariables false
set_option linter.unusedSimpArgs false

def pfL (zs : List P3) : List Int := if lbE zs = 0 then pvL (rtN zs) (lfN zs) (woN zs) zs.length zs.length else []
set_option maxRecDepth 100000 in
theorem pf_spec (A : Option Addr) (n c : Nat) (zs : List P3) (w : World) (hn : zs.length = n) (hN : n ≤ 16777216) (hA : Reads w w.heap.size A (cells3 zs)) :
    Calls Tryd.prog 47 #[.slice A n c] w fun e w' => (∃ v, e = .returned (.tuple #[v, .int .i64 (lbE zs)]) ∧ Lst w' w.heap.size v (pfL zs)) ∧ Below w.heap.size w w' := by
  have HC := Lib.hid (lbcode_spec A n c zs w hn hN hA)
  have HNIL := Lib.hid (fun W => World.ownsRow_nil W w.heap.size 2 1)
  have HV := Lib.hid (show pfL zs = if lbE zs = 0 then pvL (rtN zs) (lfN zs) (woN zs) zs.length zs.length else [] from rfl)
  by_cases h : lbE zs = 0
  · obtain ⟨h40, ha⟩ := lbE_zero h
    have HP := Lib.hid (fun W (hg : Gr w W) => proof_spec A n c zs W hn (by omega) (hA.gr hg) ha)
    rw [if_pos h, hn] at HV
    rw [HV.out]
    rw [h] at HC ⊢
    generalize pvL (rtN zs) (lfN zs) (woN zs) n n = L at *
    clear hA hn h ha h40 HV
    go_enter Tryd.func47, Tryd.ntmps47
    go_wp2_with fail
    refine (HC.out).mono ?_
    rintro e w2 ⟨rfl, hg2⟩
    go_wp2_with fail
    refine (HP.out _ hg2).mono ?_
    rintro e w3 ⟨⟨v, rfl, hv⟩, hb3⟩
    go_wp2_with fail
    ((try simp only [Exit.inBlock, Exit.then]); refine bodyPost_ret (v := .tuple #[v, .int .i64 0]) (by simp [results, Tryd.results47, go_sem]) rfl ?_)
    exact ⟨⟨_, rfl, hv.mono hg2.below.size⟩, hg2.below.trans (hb3.mono hg2.below.size)⟩
  · rw [if_neg h] at HV
    rw [HV.out]
    have hc0 : (lbE zs == 0) = false := by simpa using h
    generalize lbE zs = cd at *
    clear hA hn HV
    go_enter Tryd.func47, Tryd.ntmps47
    go_wp2_with fail
    refine (HC.out).mono ?_
    rintro e w2 ⟨rfl, hg2⟩
    go_wp2_with fail
    ((try simp only [Exit.inBlock, Exit.then]); refine bodyPost_ret (v := .tuple #[.slice none 0 0, .int .i64 cd]) (by simp [results, Tryd.results47, go_sem]) rfl ?_)
    exact ⟨⟨_, rfl, HNIL.out _⟩, hg2.below⟩
set_option maxRecDepth 100000 in
theorem pf_impl (A : Option Addr) (n c : Nat) (zs : List P3) (w : World) (ht : Tab w) (hn : zs.length = n) (hN : n ≤ 16777216) (hA : Reads w w.heap.size A (cells3 zs)) :
    Calls Tryd.prog 46 #[.slice A n c] w fun e w' => (∃ v, e = .returned (.tuple #[v, .int .i64 (lbE zs)]) ∧ Lst w' w.heap.size v (pfL zs)) ∧ Below w.heap.size w w' := by
  have HC := Lib.hid (lbcode_impl A n c zs w hn hN hA)
  have HNIL := Lib.hid (fun W => World.ownsRow_nil W w.heap.size 2 1)
  have HV := Lib.hid (show pfL zs = if lbE zs = 0 then pvL (rtN zs) (lfN zs) (woN zs) zs.length zs.length else [] from rfl)
  by_cases h : lbE zs = 0
  · obtain ⟨h40, ha⟩ := lbE_zero h
    have HP := Lib.hid (fun W (hg : Gr w W) => ps_impl A n c zs W (ht.gr hg) hn (by omega) (hA.gr hg) ha)
    have HQ := Lib.hid (fun W (AS : Option Addr) (cS : Nat) (hS : Reads W W.heap.size AS ((stL zs n n).flatMap cl4)) => lp_impl AS n cS zs W hn (by omega) ha hS)
    have HLN := Lib.hid (stL_len zs n n)
    rw [if_pos h, hn] at HV
    rw [HV.out]
    rw [h] at HC ⊢
    generalize pvL (rtN zs) (lfN zs) (woN zs) n n = L at *
    generalize stL zs n n = ss at *
    clear hA hn h ha h40 HV
    go_enter Tryd.func46, Tryd.ntmps46
    go_wp2_with fail
    refine (HC.out).mono ?_
    rintro e w2 ⟨rfl, hg2⟩
    go_wp2_with fail
    refine (HP.out _ hg2).mono ?_
    rintro e w3 ⟨⟨v, rfl, hv⟩, hb3⟩
    obtain ⟨AS, cS, rfl, hS⟩ := LstG.slice hv
    rw [HLN.out]
    have hs23 := hg2.below.size
    have hb23 := hg2.below.trans (hb3.mono hs23)
    go_wp2_with fail
    refine (HQ.out _ AS cS hS).mono ?_
    rintro e w4 ⟨⟨v4, rfl, hv4⟩, hb4⟩
    go_wp2_with fail
    ((try simp only [Exit.inBlock, Exit.then]); refine bodyPost_ret (v := .tuple #[v4, .int .i64 0]) (by simp [results, Tryd.results46, go_sem]) rfl ?_)
    exact ⟨⟨_, rfl, hv4.mono hb23.size⟩, hb23.trans (hb4.mono hb23.size)⟩
  · rw [if_neg h] at HV
    rw [HV.out]
    have hc0 : (lbE zs == 0) = false := by simpa using h
    generalize lbE zs = cd at *
    clear hA hn HV
    go_enter Tryd.func46, Tryd.ntmps46
    go_wp2_with fail
    refine (HC.out).mono ?_
    rintro e w2 ⟨rfl, hg2⟩
    go_wp2_with fail
    ((try simp only [Exit.inBlock, Exit.then]); refine bodyPost_ret (v := .tuple #[.slice none 0 0, .int .i64 cd]) (by simp [results, Tryd.results46, go_sem]) rfl ?_)
    exact ⟨⟨_, rfl, HNIL.out _⟩, hg2.below⟩
end Go.Proofs.YtggflladheemoaaDoor

/- Contracts of chapter 9: the best choice, in the model. -/
namespace Go.Proofs.YtggflladheemoaaDoor
open Go.RowKit Go.Shelf
set_option linter.unusedVariables false
set_option linter.unusedSimpArgs false

set_option maxRecDepth 100000 in
set_option maxHeartbeats 8000000 in
theorem bc_spec1 (A : Option Addr) (n c : Nat) (zs : List P3) (w : World) (hn : zs.length = n) (hA : Reads w w.heap.size A (cells3 zs)) (h0 : lbE zs = 0) :
    Calls Tryd.prog 45 #[.slice A n c] w fun e w' => (∃ v, e = .returned (.tuple #[v, .int .i64 0]) ∧ Lst w' w.heap.size v (natI (lsS n (bcF zs)))) ∧ Below w.heap.size w w' := by
  obtain ⟨h40, ha⟩ := lbE_zero h0
  have hn40 : n ≤ 40 := by omega
  have HC := Lib.hid (lbcode_spec A n c zs w hn (by omega) hA)
  rw [h0] at HC
  have HP := Lib.hid (fun W (hg : Below w.heap.size w W) => order_spec A n c zs W hn hn40 (hA.below hg) ha)
  have HQ := Lib.hid (fun W (hg : Below w.heap.size w W) => proof_spec A n c zs W hn hn40 (hA.below hg) ha)
  have HA := Lib.hid (fun W (h : Below w.heap.size w W) => hA.below h)
  have HL := Lib.hid hn
  have HZ := Lib.hid (fun (k : Nat) (h : k < n) => tkN_is ha (k := k) (by rw [hn]; exact h))
  have HFS := Lib.hid (fun (z : P3) W (h : Below w.heap.size w W) (hz : lbIs z) => frN_spec A n c zs z W hn (by omega) (hA.below h) ha hz)
  have HLN := Lib.hid (show (natI (orL (rtN zs) n)).length = n by rw [List.length_map, orL_len])
  have HLP := Lib.hid (pvL_len (rtN zs) (lfN zs) (woN zs) n n)
  have HOA := Lib.hid (fun p (h : p < n) => orA_at (rtN zs) h)
  have HVA := Lib.hid (fun i (h : i ≤ n) => pvL_at (rtN zs) (lfN zs) (woN zs) n n i h)
  have HOT := Lib.hid (fun p (h : p < n) => orA_lt (rtN zs) h)
  have HFR := Lib.hid (fun i (h : i < n) => show frN (rtN zs) (lfN zs) n (orA (rtN zs) n i) ≤ i from by have := fr_le ha i (by omega); rwa [hn] at this)
  have HSM := Lib.hid (fun i S h => bcS_same (rtN zs) (lfN zs) (woN zs) n i S h)
  have HTK := Lib.hid (fun i S h hf => bcS_take (rtN zs) (lfN zs) (woN zs) n i S h hf)
  have HZR := Lib.hid (fun S => bcS_zero (rtN zs) (lfN zs) (woN zs) n S)
  have HBF := Lib.hid (show bcF zs = bcS (rtN zs) (lfN zs) (woN zs) n n (fun _ => false) by unfold bcF; rw [hn])
  have HI0 := Lib.hid (bcI_none (rtN zs) n)
  have hmk := mkBools n (by omega)
  obtain ⟨i0, hi, hz0, hz1, hz2⟩ := info_parts info_i7
  clear hA hn h0 h40 ha
  go_enter Tryd.func45, Tryd.ntmps45
  go_wp2_with fail
  refine (HC.out).mono ?_
  rintro e w2 ⟨rfl, hg2⟩
  go_wp2_with fail
  refine (HP.out _ hg2.below).mono ?_
  rintro e w3 ⟨⟨v, rfl, hv⟩, hb3⟩
  obtain ⟨AO, cO, rfl, hO⟩ := Lst.slice hv
  rw [HLN.out]
  have hs23 := hg2.below.size
  have hb23 := hg2.below.trans (hb3.mono hs23)
  go_wp2_with fail
  refine (HQ.out _ hb23).mono ?_
  rintro e w5 ⟨⟨v4, rfl, hv4⟩, hb4⟩
  obtain ⟨AV, cV, rfl, hV⟩ := Lst.slice hv4
  rw [HLP.out]
  have HS := Lib.hid (hO.below hb4)
  have HV := Lib.hid hV
  have HB4 := Lib.hid (hb23.trans (hb4.mono hb23.size))
  clear hv hv4 hO hV hb3 hb4 hb23 hs23 hg2
  go_wp2
  clear hmk
  have HR1 : Hid (Row (w5.alloc (.cells (Array.replicate n (.bool false)) 4)) w5.heap.size 4 (flS n (fun _ => false))) := Lib.hid (by
    rw [flS_none]
    have := Row.new w5 4 (List.replicate n (.bool false))
    rwa [List.toArray_replicate] at this)
  have HG1 : Hid (Below w5.heap.size w5 (w5.alloc (.cells (Array.replicate n (.bool false)) 4))) := Lib.hid (Gr.below (by repeat (first | with_reducible exact Gr.refl _ | with_reducible refine Gr.alloc ?_ _ | with_reducible refine Gr.gr ?_ _ _ | with_reducible refine Gr.drew ?_ | with_reducible refine Gr.drewN ?_ _)))
  generalize w5.alloc (.cells (Array.replicate n (.bool false)) 4) = w6 at *
  obtain ⟨bk, hbk⟩ : ∃ b, w5.heap.size = b := ⟨_, rfl⟩
  have hwb : w.heap.size ≤ bk := by have := HB4.out.size; omega
  rw [hbk] at HR1 HG1
  have HSB := Lib.hid (fun W (h : Below bk w5 W) => show Reads W W.heap.size AO ((natI (orL (rtN zs) n)).map vi) from HS.out.below (by rw [hbk]; exact h))
  have HVB := Lib.hid (fun W (h : Below bk w5 W) => show Reads W W.heap.size AV ((pvL (rtN zs) (lfN zs) (woN zs) n n).map vi) from HV.out.below (by rw [hbk]; exact h))
  simp only [hbk]
  go_loopw [8] (fun i wr => ∃ (k : Nat) (S : Nat → Bool), k ≤ n ∧ i = .int .i64 k ∧ Hid (bcS (rtN zs) (lfN zs) (woN zs) n k S = bcF zs) ∧ Hid (bcI (rtN zs) n k S) ∧ Row wr bk 4 (flS n S) ∧ Below bk w5 wr) (fun i _ => (intOf i).toNat)
  case atStart => exact ⟨n, fun _ => false, Nat.le_refl _, rfl, Lib.hid HBF.out.symm, HI0, HR1.out, HG1.out⟩
  case round =>
    obtain ⟨k, S, hk, rfl, hE, hI, hrow, hB⟩ := hrel
    have hsz : bk ≤ wr.heap.size := by have := hB.size; omega
    by_cases hk0 : k = 0
    · subst hk0
      have HSE := Lib.hid (show S = bcF zs by rw [← hE.out, HZR.out])
      have hsz2 : bk ≤ wr.heap.size := by omega
      have HO1 : Hid (Lst (wr.alloc (.cells #[] 2)) wr.heap.size (.slice (some ⟨wr.heap.size, 0, none⟩) 0 0) []) := Lib.hid (World.ownsRow_made wr #[] 0 (Nat.le_refl _) (Nat.zero_le _) rfl)
      have HB1 : Hid (Below wr.heap.size wr (wr.alloc (.cells #[] 2))) := Lib.hid ((Below.refl _ _).alloc (Nat.le_refl _) _)
      have HROW := Lib.hid hrow
      have HBW := Lib.hid hB
      have hbl := hrow.lt
      clear hrow hB
      go_wp2
      generalize wr.alloc (.cells #[] 2) = w7 at *
      generalize hsr : wr.heap.size = sr at *
      go_loopw [10, 11] (fun v x wr5 => ∃ m : Nat, m ≤ n ∧ x = .int .i64 m ∧ Lst wr5 sr v (natI (lsS m S)) ∧ Below sr wr wr5) (fun _ x _ => n - (intOf x).toNat)
      case atStart => exact ⟨0, by omega, rfl, HO1.out, HB1.out⟩
      case round =>
        obtain ⟨m, hm, rfl, hO, hB5⟩ := hrel
        have hsz5 : sr ≤ wr.heap.size := by have := hB5.size; omega
        by_cases hlt3 : m < n
        · have HLS := Lib.hid (lsS_succ S m)
          have hrow5 := HROW.out.below hB5 (by omega)
          have c0 := hrow5.cell m
          rw [flS_at _ _ _ hlt3] at c0
          have hml := lsS_len m S
          have hml2 : (natI (lsS m S)).length = (lsS m S).length := List.length_map _
          have HO := Lib.hid hO
          have HB5 := Lib.hid hB5
          clear hO hB5
          cases hs1 : S m
          · rw [hs1] at HLS c0
            clear hs1
            go_wp2
            go_roundw
            case rel => exact ⟨m + 1, by omega, by go_num, by rw [HLS.out, if_neg (by simp), List.append_nil]; exact HO.out, HB5.out⟩
            case measure => simp [intOf]; omega
          · rw [hs1] at HLS c0
            clear hs1
            go_wp2_with (at_builtin; refine wpList_append_own _ rfl _ _ 52 rfl sr 2 i0 (.int .i64 0) 1 8 Tryd.underlying52 hi hz0 hz1 hz2 rfl (by decide) _ _ _ rfl (HO.out.alloc _) ⟨wr.heap.size, 0, none⟩ 1 1 [.int .i64 m] rfl rfl (one_cell_new _ _ _) (by simp [Value.oneCell']) (by unfold maxLen; omega) (by omega) (by simp; omega) ?_; intro v' w6 hown' hgrow _; obtain ⟨hA1, hA2⟩ := Lst.app (xs := natI (lsS m S)) (x := (m : Int)) HB5.out hsz5 (HO.out.alloc _) hown' hgrow; have HA1 : Hid (Lst w6 sr v' (natI (lsS m S) ++ [(m : Int)])) := Lib.hid hA1; have HA2 : Hid (Below sr _ w6) := Lib.hid hA2; clear hA1 hA2; clear hgrow hown')
            go_roundw
            case rel => exact ⟨m + 1, by omega, by go_num, by rw [HLS.out]; simp only [if_true]; rw [natI_snoc]; exact HA1.out, HA2.out⟩
            case measure => simp [intOf]; omega
        · obtain rfl : m = n := by omega
          go_wp2
          ((try simp only [Exit.inBlock, Exit.then]); refine bodyPost_ret (v := .tuple #[u10, .int .i64 0]) (by simp [results, Tryd.results45, go_sem]) rfl ?_)
          exact ⟨⟨_, rfl, by rw [← HSE.out]; exact hO.mono (by omega)⟩, HB4.out.trans ((HBW.out.trans (hB5.mono hsz2)).mono hwb)⟩
    · obtain ⟨j, rfl⟩ : ∃ j, k = j + 1 := ⟨k - 1, by omega⟩
      have hjn : j < n := by omega
      have hfj := HFR.out j hjn
      have hot := HOT.out j hjn
      have HSM1 := Lib.hid (HSM.out j S)
      have HTK1 := Lib.hid (fun h => HTK.out j S h hfj)
      have HIS := Lib.hid (bcI_same (rtN zs) hI.out)
      have HIT := Lib.hid (bcI_take (rtN zs) hI.out hjn hfj)
      have va : ((pvL (rtN zs) (lfN zs) (woN zs) n n).map vi)[j + 1]? = some (vi (pvA (rtN zs) (lfN zs) (woN zs) n (j + 1))) := by rw [List.getElem?_map, HVA.out (j + 1) hk]; rfl
      have vb : ((pvL (rtN zs) (lfN zs) (woN zs) n n).map vi)[j]? = some (vi (pvA (rtN zs) (lfN zs) (woN zs) n j)) := by rw [List.getElem?_map, HVA.out j (by omega)]; rfl
      obtain ⟨gv, ov, rfl, hgv, ca⟩ := (HVB.out wr hB).at_ va
      obtain ⟨gv2, ov2, eg, -, cb⟩ := (HVB.out wr hB).at_ vb
      injection eg with eg
      injection eg with eg1 eg2
      subst eg1 eg2
      have hok : ((natI (orL (rtN zs) n)).map vi)[j]? = some (vi ((orA (rtN zs) n j : Nat) : Int)) := by rw [List.getElem?_map, List.getElem?_map, HOA.out j hjn]; rfl
      obtain ⟨gs, os, rfl, hgs, s0⟩ := (HSB.out wr hB).at_ hok
      have hz := tkN_at (zs := zs) (k := orA (rtN zs) n j) (by rw [HL.out]; exact hot)
      have HWR := Lib.hid (fun W (h : Below bk w5 W) => HB4.out.trans (h.mono hwb))
      have HTC := Lib.hid (fun W (h : Below bk w5 W) => (HA.out W (HWR.out W h)).at3 hz)
      have hzi := HZ.out (orA (rtN zs) n j) hot
      have HFK := fun W (h : Below bk w5 W) => HFS.out (tkN zs (orA (rtN zs) n j)) W (HWR.out W h) hzi
      rw [show frK (rtN zs) (lfT (tkN zs (orA (rtN zs) n j))) n = frN (rtN zs) (lfN zs) n (orA (rtN zs) n j) from rfl] at HFK
      have hwj : IntKind.i64.wrap ((j : Int) + 1 - 1) = (j : Int) := by rw [show (j : Int) + 1 - 1 = j by omega]; exact IntWalk.i64_in _ (by omega)
      have hwj2 : IntKind.i64.wrap (j : Int) = (j : Int) := IntWalk.i64_in _ (by omega)
      have hj1 : ((j + 1 : Nat) : Int) - 1 = (j : Int) := by omega
      have hj2 : (j : Int) < (n : Int) + 1 := by omega
      have hj3 : (j : Int) + 1 < (n : Int) + 1 := by omega
      have hj4 : (j : Int) < (n : Int) := by omega
      have hj5 : (0 : Int) ≤ (j : Int) + 1 := by omega
      have hj6 : j < n + 1 := by omega
      have HROW := Lib.hid hrow
      have HB := Lib.hid hB
      have hbl := hrow.lt
      clear va vb hok hz hzi hrow hB hk0
      by_cases hc : pvA (rtN zs) (lfN zs) (woN zs) n (j + 1) = pvA (rtN zs) (lfN zs) (woN zs) n j
      · have HE2 := Lib.hid ((HSM1.out hc).symm.trans hE.out)
        rw [hc] at ca
        generalize pvA (rtN zs) (lfN zs) (woN zs) n j = q at *
        clear hc HFK
        go_wp2
        ((first | refine region_gr_on (by kernel_rfl) (by kernel_rfl) ?_ | refine region_gr (by kernel_rfl) (by kernel_rfl) ?_); (repeat (quiet_step (fail))); refine wpQuiet_nil ?_; intro _ hw'; obtain ⟨⟨kq, oq⟩, hw''⟩ := hw'; subst hw'')
        have hG : Gr wr (gr wr kq oq) := ⟨kq, oq, rfl⟩
        have HR2 := Lib.hid (HROW.out.gr hG)
        have HB2 := Lib.hid (HB.out.trans (hG.below.mono hsz))
        clear hG
        generalize gr wr kq oq = wq at *
        go_wp2
        go_roundw
        case rel => exact ⟨j, S, by omega, by congr 1, HE2, HIS, HR2.out, HB2.out⟩
        case measure => simp [intOf] <;> omega
      · have HE2 := Lib.hid ((HTK1.out hc).symm.trans hE.out)
        have hcb : (pvA (rtN zs) (lfN zs) (woN zs) n (j + 1) == pvA (rtN zs) (lfN zs) (woN zs) n j) = false := by simpa using hc
        have HFT := Lib.hid (flS_set n S (orA (rtN zs) n j) hot)
        have HFA := Lib.hid (flS_at n S (orA (rtN zs) n j) hot)
        generalize pvA (rtN zs) (lfN zs) (woN zs) n (j + 1) = q1 at *
        generalize pvA (rtN zs) (lfN zs) (woN zs) n j = q at *
        generalize tkN zs (orA (rtN zs) n j) = z at *
        generalize hfe : frN (rtN zs) (lfN zs) n (orA (rtN zs) n j) = fr at *
        generalize orA (rtN zs) n j = oj at *
        clear hfe
        obtain ⟨za, zb, zc⟩ := z
        simp only [tkV] at HFK
        replace HFK := Lib.hid HFK
        have hoj : (oj : Int) < (n : Int) := by omega
        go_wp2
        ((first | refine region_gr_on (by kernel_rfl) (by kernel_rfl) ?_ | refine region_gr (by kernel_rfl) (by kernel_rfl) ?_); (repeat (quiet_step (fail))); refine wpQuiet_nil ?_; intro _ hw'; obtain ⟨⟨kq, oq⟩, hw''⟩ := hw'; subst hw'')
        have hG : Gr wr (gr wr kq oq) := ⟨kq, oq, rfl⟩
        have hR2 := HROW.out.gr hG
        have HB2 := Lib.hid (HB.out.trans (hG.below.mono hsz))
        have c0 := hR2.cell oj
        rw [HFA.out] at c0
        have f0 := hR2.free oj
        have hl0 := hR2.lt
        have HR2 := Lib.hid hR2
        clear hG hR2 ca cb s0 hgs hgv
        generalize gr wr kq oq = wq at *
        have HB3 := Lib.hid (HB2.out.setCell (p := ⟨bk, oj, none⟩) (Nat.le_refl _) (.bool true))
        obtain ⟨ga, oa, rfl, hga, x0, x1, x2⟩ := HTC.out _ HB3.out
        go_wp2_with fail
        refine (HFK.out _ HB3.out).mono ?_
        rintro e w7 ⟨rfl, hg7⟩
        have HR7 := Lib.hid ((HR2.out.set oj (.bool true)).gr hg7)
        have HB7 := Lib.hid (HB3.out.trans (hg7.below.mono (by have := HB3.out.size; omega)))
        have hsb : bk ≤ w5.heap.size := by omega
        clear hg7
        go_wp2
        go_roundw
        case rel => exact ⟨fr, fun i => S i || i == oj, by omega, rfl, HE2, HIT, by rw [← HFT.out]; exact HR7.out, HB7.out⟩
        case measure => simp [intOf] <;> omega
set_option maxRecDepth 100000 in
theorem bc_spec (A : Option Addr) (n c : Nat) (zs : List P3) (w : World) (hn : zs.length = n) (hN : n ≤ 16777216) (hA : Reads w w.heap.size A (cells3 zs)) :
    Calls Tryd.prog 45 #[.slice A n c] w fun e w' => (∃ v, e = .returned (.tuple #[v, .int .i64 (lbE zs)]) ∧ Lst w' w.heap.size v (bcL zs)) ∧ Below w.heap.size w w' := by
  have HC := Lib.hid (lbcode_spec A n c zs w hn hN hA)
  have HNIL := Lib.hid (fun W => World.ownsRow_nil W w.heap.size 2 1)
  have HV := Lib.hid (show bcL zs = if lbE zs = 0 then natI (lsS zs.length (bcF zs)) else [] from rfl)
  by_cases h : lbE zs = 0
  · rw [if_pos h, hn] at HV
    rw [HV.out, h]
    exact bc_spec1 A n c zs w hn hA h
  · rw [if_neg h] at HV
    rw [HV.out]
    have hc0 : (lbE zs == 0) = false := by simpa using h
    generalize lbE zs = cd at *
    clear hA hn HV
    go_enter Tryd.func45, Tryd.ntmps45
    go_wp2_with fail
    refine (HC.out).mono ?_
    rintro e w2 ⟨rfl, hg2⟩
    go_wp2_with fail
    ((try simp only [Exit.inBlock, Exit.then]); refine bodyPost_ret (v := .tuple #[.slice none 0 0, .int .i64 cd]) (by simp [results, Tryd.results45, go_sem]) rfl ?_)
    exact ⟨⟨_, rfl, HNIL.out _⟩, hg2.below⟩
end Go.Proofs.YtggflladheemoaaDoor

/- Chapter 9: what choices and proofs are worth. -/
namespace Go.Proofs.YtggflladheemoaaDoor
open Go.RowKit Go.Shelf
set_option linter.unusedVariables false
set_option linter.unusedSimpArgs false

theorem co_iff (zs : List P3) (i k : Nat) : coN zs i k = false ↔ rtN zs i ≤ lfN zs k ∨ rtN zs k ≤ lfN zs i := by
  unfold coN coT rtN lfN
  rw [decide_eq_false_iff_not]
  omega
theorem co_sym (zs : List P3) (i k : Nat) : coN zs i k = coN zs k i := coT_sym _ _
theorem lr_lt {zs : List P3} (ha : allL zs = true) (i : Nat) (hi : i < zs.length) : lfN zs i < rtN zs i := (ends_bd _ (tkN_is ha hi)).2.1
/-- A set's list is a choice if no two of it collide. -/
theorem chB_ls {zs : List P3} {S : Nat → Bool} (h : freeS zs.length (coN zs) S) : chB zs (natI (lsS zs.length S)) = true := by
  have hpw : (lsS zs.length S).Pairwise (· < ·) := List.Pairwise.sublist (List.filter_sublist) List.pairwise_lt_range
  have hat : ∀ k, k < (lsS zs.length S).length → ∃ i, (lsS zs.length S)[k]? = some i ∧ (natI (lsS zs.length S)).getD k 0 = (i : Int) ∧ i < zs.length ∧ S i = true := by
    intro k hk
    refine ⟨(lsS zs.length S)[k], List.getElem?_eq_getElem hk, ?_, ?_⟩
    · rw [List.getD_eq_getElem?_getD, List.getElem?_map, List.getElem?_eq_getElem hk]
      rfl
    · have hm := List.getElem_mem hk
      unfold lsS at hm ⊢
      rw [List.mem_filter, List.mem_range] at hm
      exact hm
  have hlt : ∀ k m i j : Nat, k < m → (lsS zs.length S)[k]? = some i → (lsS zs.length S)[m]? = some j → i < j := by
    intro k m i j hkm h1 h2
    obtain ⟨a, rfl⟩ := List.getElem?_eq_some_iff.1 h1
    obtain ⟨b, rfl⟩ := List.getElem?_eq_some_iff.1 h2
    exact List.pairwise_iff_getElem.1 hpw k m a b hkm
  apply chB_yes
  refine ⟨fun k hk => ?_, fun i k hi hk => ?_⟩
  · rw [List.length_map] at hk
    obtain ⟨i, h1, h2, h3, h4⟩ := hat k hk
    refine ⟨⟨by rw [h2]; omega, by rw [h2]; omega⟩, fun h0 => ?_⟩
    obtain ⟨j, g1, g2, g3, g4⟩ := hat (k - 1) (by omega)
    have := hlt (k - 1) k j i (by omega) g1 h1
    rw [h2, g2]
    omega
  · rw [List.length_map] at hi
    obtain ⟨x, h1, h2, h3, h4⟩ := hat i hi
    obtain ⟨y, g1, g2, g3, g4⟩ := hat k (by omega)
    have := hlt k i y x hk g1 h1
    rw [h2, g2, Int.toNat_natCast, Int.toNat_natCast]
    exact h x y h3 g3 h4 g4 (by omega)
theorem suW_ls (zs : List P3) (S : Nat → Bool) : suW zs (natI (lsS zs.length S)) = wsP (rtN zs) (woN zs) zs.length S zs.length := by
  rw [wsP_all]
  unfold suW
  rw [List.map_map]
  rfl
/-- Each choice is a set's list. -/
theorem chB_set {zs : List P3} {cs : List Int} (h : chB zs cs = true) : ∃ S : Nat → Bool, freeS zs.length (coN zs) S ∧ suW zs cs = wsP (rtN zs) (woN zs) zs.length S zs.length := by
  obtain ⟨h1, h2⟩ := (chB_iff zs cs).1 h
  have hris : ∀ k m : Nat, k < m → m < cs.length → cs.getD k 0 < cs.getD m 0 := by
    intro k m hkm
    induction m with
    | zero => omega
    | succ m ih =>
      intro hm
      have ha := (h1 (m + 1) hm).2 (by omega)
      rw [Nat.add_sub_cancel] at ha
      rcases Nat.lt_or_ge k m with h3 | h3
      · have := ih h3 (by omega)
        omega
      · rwa [show k = m by omega]
  have hcd : ∀ (k : Nat) (hk : k < cs.length), cs.getD k 0 = cs[k] := fun k hk => by rw [List.getD_eq_getElem?_getD, List.getElem?_eq_getElem hk]; rfl
  refine ⟨fun i => decide ((i : Int) ∈ cs), fun i k hi hk a b hne => ?_, ?_⟩
  · obtain ⟨p, hp, ep⟩ := List.mem_iff_getElem.1 (of_decide_eq_true a)
    obtain ⟨q, hq, eq⟩ := List.mem_iff_getElem.1 (of_decide_eq_true b)
    rw [← hcd p hp] at ep
    rw [← hcd q hq] at eq
    rcases Nat.lt_trichotomy p q with h3 | h3 | h3
    · have := h2 q p hq h3
      rw [ep, eq, Int.toNat_natCast, Int.toNat_natCast] at this
      rw [co_sym]
      exact this
    · subst h3
      omega
    · have := h2 p q hp h3
      rwa [ep, eq, Int.toNat_natCast, Int.toNat_natCast] at this
  · rw [wsP_all]
    unfold suW
    have e : (cs.map fun c => woN zs c.toNat) = (cs.map Int.toNat).map (woN zs) := by rw [List.map_map]; rfl
    rw [e]
    refine perm_sum (woN zs) ((List.perm_ext_iff_of_nodup ?_ ?_).2 fun a => ?_)
    · rw [List.nodup_iff_pairwise_ne, List.pairwise_map]
      rw [List.pairwise_iff_getElem]
      intro i j hi hj hij
      have a1 := hris i j hij hj
      have a2 := (h1 i hi).1
      have a3 := (h1 j hj).1
      rw [hcd i hi] at a1 a2
      rw [hcd j hj] at a1 a3
      omega
    · exact List.Nodup.sublist List.filter_sublist List.nodup_range
    · unfold lsS
      rw [List.mem_filter, List.mem_range, decide_eq_true_eq, List.mem_map]
      constructor
      · rintro ⟨c, hc, rfl⟩
        obtain ⟨k, hk, ek⟩ := List.mem_iff_getElem.1 hc
        have a2 := (h1 k hk).1
        rw [hcd k hk, ek] at a2
        refine ⟨by omega, ?_⟩
        rwa [show ((c.toNat : Nat) : Int) = c by omega]
      · rintro ⟨-, hc⟩
        exact ⟨_, hc, Int.toNat_natCast a⟩
/-- What the least proof ends with. -/
def mostW (zs : List P3) : Int := pvA (rtN zs) (lfN zs) (woN zs) zs.length zs.length
theorem pfL_of {zs : List P3} (h0 : lbE zs = 0) : (pfL zs).length = zs.length + 1 ∧ (pfL zs).getD zs.length 0 = mostW zs := by
  unfold pfL mostW
  rw [if_pos h0]
  exact ⟨pvL_len _ _ _ _ _, pvL_getD _ _ _ _ _ _ (Nat.le_refl _)⟩
theorem choice_le {zs : List P3} {cs : List Int} (h0 : lbE zs = 0) (h : chB zs cs = true) : suW zs cs ≤ mostW zs := by
  obtain ⟨-, ha⟩ := lbE_zero h0
  obtain ⟨S, hS, e⟩ := chB_set h
  rw [e]
  exact ws_le (woN zs) (lr_lt ha) (fun i k _ _ h => (co_iff zs i k).1 h) S hS _ (Nat.le_refl _)
theorem best_is {zs : List P3} (h0 : lbE zs = 0) : chB zs (bcL zs) = true ∧ suW zs (bcL zs) = mostW zs := by
  obtain ⟨-, ha⟩ := lbE_zero h0
  obtain ⟨-, b, c⟩ := bcS_best (woN zs) (co := coN zs) (lr_lt ha) (fun i k _ _ h => (co_iff zs i k).2 h) zs.length (Nat.le_refl _)
  unfold bcL bcF
  rw [if_pos h0]
  exact ⟨chB_ls b, by rw [suW_ls, c]; rfl⟩
theorem greedy_is {zs : List P3} (h0 : lbE zs = 0) : chB zs (gcL zs) = true := by
  obtain ⟨-, ha⟩ := lbE_zero h0
  unfold gcL
  rw [if_pos h0]
  exact chB_ls (kpS_free (zs := zs) (co_sym zs) _ (fun i hi => (byH_mem (allL_allH ha)).1 hi))
/-- The least proof is one, and no other is less. -/
theorem least_is {zs : List P3} (h0 : lbE zs = 0) : ipB zs (pfL zs) = true := by
  obtain ⟨h40, ha⟩ := lbE_zero h0
  have hg : ∀ i, i ≤ zs.length → (pfL zs).getD i 0 = pvA (rtN zs) (lfN zs) (woN zs) zs.length i := fun i hi => by
    unfold pfL
    rw [if_pos h0]
    exact pvL_getD _ _ _ _ _ _ hi
  refine (ipB_iff zs _).2 ⟨(pfL_of h0).1, by rw [hg 0 (by omega), pvA_zero], fun k hk => ?_⟩
  have hf := fr_le ha k hk
  have hb := pvA_bd (rtN zs) (lfN zs) (woN zs) (n := zs.length) (woN_bd ha) (fun i hi => fr_le ha i hi) (k + 1) (by omega)
  unfold ipC
  rw [hg k (by omega), hg (k + 1) (by omega), hg _ (by omega)]
  have h1 := pvA_succ (rtN zs) (lfN zs) (woN zs) zs.length k hf
  rw [Int.max_def] at h1
  refine ⟨by omega, ?_, ?_⟩ <;> (split at h1 <;> omega)
theorem least_le {zs : List P3} {v : List Int} (h0 : lbE zs = 0) (h : ipB zs v = true) : mostW zs ≤ v.getD zs.length 0 := by
  obtain ⟨-, ha⟩ := lbE_zero h0
  obtain ⟨h1, h2, h3⟩ := (ipB_iff zs v).1 h
  exact pv_least (woN zs) (lr_lt ha) (fun k => v.getD k 0) h2 (fun k hk => ⟨(h3 k hk).2.1, (h3 k hk).2.2⟩) _ (Nat.le_refl _)
end Go.Proofs.YtggflladheemoaaDoor
