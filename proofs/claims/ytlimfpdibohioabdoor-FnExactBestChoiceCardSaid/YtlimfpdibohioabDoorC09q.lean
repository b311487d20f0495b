/- Contracts of chapter 9: the best choice, in the program. -/
import Derived.Test.YtlimfpdibohioabDoor9B
namespace Go.Proofs.YtlimfpdibohioabDoor
open Go.RowKit Go.Shelf
set_option linter.unusedVariables false
set_option linter.unusedSimpArgs false

def bcF (zs : List P3) : Nat → Bool := bcS (rtN zs) (lfN zs) (woN zs) zs.length zs.length (fun _ => false)
def bcL (zs : List P3) : List Int := if lbE zs = 0 then natI (lsS zs.length (bcF zs)) else []

set_option maxRecDepth 100000 in
set_option maxHeartbeats 4000000 in
theorem bc_impl1 (A : Option Addr) (n c : Nat) (zs : List P3) (w : World) (ht : Tab w) (hn : zs.length = n) (hA : Reads w w.heap.size A (cells3 zs)) (h0 : lbE zs = 0) :
    Calls Tryd.prog 23 #[.slice A n c] w fun e w' => (∃ v, e = .returned (.tuple #[v, .int .i64 0]) ∧ Lst w' w.heap.size v (natI (lsS n (bcF zs)))) ∧ Below w.heap.size w w' := by
  obtain ⟨h40, ha⟩ := lbE_zero h0
  have hn40 : n ≤ 40 := by omega
  have HC := Lib.hid (lbcode_impl A n c zs w hn (by omega) hA)
  rw [h0] at HC
  have HP := Lib.hid (fun W (hg : Gr w W) => ps_impl A n c zs W (ht.gr hg) hn hn40 (hA.gr hg) ha)
  have HQ := Lib.hid (fun W (AS : Option Addr) (cS : Nat) (hS : Reads W W.heap.size AS ((stL zs n n).flatMap cl4)) => lp_impl AS n cS zs W hn hn40 ha hS)
  have HLN := Lib.hid (stL_len zs n n)
  have HLP := Lib.hid (pvL_len (rtN zs) (lfN zs) (woN zs) n n)
  have HSA := Lib.hid (fun p (h : p < n) => stL_at zs n p h)
  have HVA := Lib.hid (fun i (h : i ≤ n) => pvL_at (rtN zs) (lfN zs) (woN zs) n n i h)
  have HOT := Lib.hid (fun p (h : p < n) => orA_lt (rtN zs) h)
  have HFR := Lib.hid (fun i (h : i < n) => show frN (rtN zs) (lfN zs) n (orA (rtN zs) n i) ≤ i from by have := fr_le ha i (by omega); rwa [hn] at this)
  have HSM := Lib.hid (fun i S h => bcS_same (rtN zs) (lfN zs) (woN zs) n i S h)
  have HTK := Lib.hid (fun i S h hf => bcS_take (rtN zs) (lfN zs) (woN zs) n i S h hf)
  have HZR := Lib.hid (fun S => bcS_zero (rtN zs) (lfN zs) (woN zs) n S)
  have HBF := Lib.hid (show bcF zs = bcS (rtN zs) (lfN zs) (woN zs) n n (fun _ => false) by unfold bcF; rw [hn])
  have HI0 := Lib.hid (bcI_none (rtN zs) n)
  have HZ0 := Lib.hid (show natI (lsS n (fun _ => false)) = [] by unfold lsS; rw [List.filter_eq_nil_iff.2 (by simp)]; rfl)
  clear hA hn h0 h40 ha
  go_enter Tryd.func23, Tryd.ntmps23
  go_wp2_with fail
  refine (HC.out).mono ?_
  rintro e w2 ⟨rfl, hg2⟩
  go_wp2_with fail
  refine (HP.out _ hg2).mono ?_
  rintro e w3 ⟨⟨v, rfl, hv⟩, hb3⟩
  obtain ⟨AS, cS, rfl, hS⟩ := LstG.slice hv
  rw [HLN.out]
  have hs23 := hg2.below.size
  have hb23 := hg2.below.trans (hb3.mono hs23)
  go_wp2_with fail
  refine (HQ.out _ AS cS hS).mono ?_
  rintro e w4 ⟨⟨v4, rfl, hv4⟩, hb4⟩
  obtain ⟨AV, cV, rfl, hV⟩ := Lst.slice hv4
  rw [HLP.out]
  have HS := Lib.hid (hS.below hb4)
  have HV := Lib.hid hV
  have HB4 := Lib.hid (hb23.trans (hb4.mono hb23.size))
  have hO1 : Lst (w4.alloc (.cells #[] 2)) w4.heap.size (.slice (some ⟨w4.heap.size, 0, none⟩) 0 0) [] := World.ownsRow_made w4 #[] 0 (Nat.le_refl _) (Nat.zero_le _) rfl
  have HO1 := Lib.hid hO1
  have HB1 : Hid (Below w4.heap.size w4 (w4.alloc (.cells #[] 2))) := Lib.hid ((Below.refl _ _).alloc (Nat.le_refl _) _)
  clear hO1 hv hv4 hS hV hb3 hb4 hb23 hs23 hg2
  go_wp2
  generalize w4.alloc (.cells #[] 2) = w5 at *
  go_loopw [7, 8] (fun v i wr => ∃ (k : Nat) (S : Nat → Bool), k ≤ n ∧ i = .int .i64 k ∧ Hid (bcS (rtN zs) (lfN zs) (woN zs) n k S = bcF zs) ∧ Hid (bcI (rtN zs) n k S) ∧ Lst wr w4.heap.size v (natI (lsS n S)) ∧ Below w4.heap.size w4 wr) (fun _ i _ => (intOf i).toNat)
  case atStart => exact ⟨n, fun _ => false, Nat.le_refl _, rfl, Lib.hid HBF.out.symm, HI0, by rw [HZ0.out]; exact HO1.out, HB1.out⟩
  case round =>
    obtain ⟨k, S, hk, rfl, hE, hI, hO, hB⟩ := hrel
    have hsz := hB.size
    by_cases hk0 : k = 0
    · subst hk0
      have HE := Lib.hid (show S = bcF zs by rw [← hE.out, HZR.out])
      go_wp2
      ((try simp only [Exit.inBlock, Exit.then]); refine bodyPost_ret (v := .tuple #[u7, .int .i64 0]) (by simp [results, Tryd.results23, go_sem]) rfl ?_)
      exact ⟨⟨_, rfl, by rw [← HE.out]; exact hO.mono HB4.out.size⟩, HB4.out.trans (hB.mono HB4.out.size)⟩
    · obtain ⟨j, rfl⟩ : ∃ j, k = j + 1 := ⟨k - 1, by omega⟩
      have hjn : j < n := by omega
      have hfj := HFR.out j hjn
      have hot := HOT.out j hjn
      have HSM1 := Lib.hid (HSM.out j S)
      have HTK1 := Lib.hid (fun h => HTK.out j S h hfj)
      have HIN := Lib.hid (bcI_new (rtN zs) hI.out hjn)
      have HIS := Lib.hid (bcI_same (rtN zs) hI.out)
      have HIT := Lib.hid (bcI_take (rtN zs) hI.out hjn hfj)
      have va : ((pvL (rtN zs) (lfN zs) (woN zs) n n).map vi)[j + 1]? = some (vi (pvA (rtN zs) (lfN zs) (woN zs) n (j + 1))) := by rw [List.getElem?_map, HVA.out (j + 1) hk]; rfl
      have vb : ((pvL (rtN zs) (lfN zs) (woN zs) n n).map vi)[j]? = some (vi (pvA (rtN zs) (lfN zs) (woN zs) n j)) := by rw [List.getElem?_map, HVA.out j (by omega)]; rfl
      obtain ⟨gv, ov, rfl, hgv, ca⟩ := (HV.out.below hB).at_ va
      obtain ⟨gv2, ov2, eg, -, cb⟩ := (HV.out.below hB).at_ vb
      injection eg with eg
      injection eg with eg1 eg2
      subst eg1 eg2
      have HSB := Lib.hid (fun W (h : Below w4.heap.size w4 W) => LstG.at4 (HS.out.below h) (HSA.out j hjn))
      obtain ⟨gs, os, rfl, hgs, s0, -, -, s3⟩ := HSB.out wr hB
      rw [show (stepP zs n (orA (rtN zs) n j)).1 = ((orA (rtN zs) n j : Nat) : Int) from rfl] at s0
      rw [show (stepP zs n (orA (rtN zs) n j)).2.2.2 = ((frN (rtN zs) (lfN zs) n (orA (rtN zs) n j) : Nat) : Int) from rfl] at s3
      have HS3 := Lib.hid (fun W (h : Below w4.heap.size w4 W) => show W.cell? ⟨gs, os + j * 4 + 3, none⟩ = some (vi ((frN (rtN zs) (lfN zs) n (orA (rtN zs) n j) : Nat) : Int)) ∧ gs < W.heap.size from by
        obtain ⟨g2, o2, e2, h2, -, -, -, x3⟩ := HSB.out W h
        injection e2 with e2
        injection e2 with e2a e2b
        subst e2a e2b
        exact ⟨x3, h2⟩)
      have hwj : IntKind.i64.wrap ((j : Int) + 1 - 1) = (j : Int) := by rw [show (j : Int) + 1 - 1 = j by omega]; exact IntWalk.i64_in _ (by omega)
      have hwj2 : IntKind.i64.wrap (j : Int) = (j : Int) := IntWalk.i64_in _ (by omega)
      have hj1 : ((j + 1 : Nat) : Int) - 1 = (j : Int) := by omega
      have hj2 : (j : Int) < (n : Int) + 1 := by omega
      have hj3 : (j : Int) + 1 < (n : Int) + 1 := by omega
      have hj4 : (j : Int) < (n : Int) := by omega
      have hj5 : (0 : Int) ≤ (j : Int) + 1 := by omega
      have hj6 : j < n + 1 := by omega
      have HO := Lib.hid hO
      have HB := Lib.hid hB
      clear va vb hO hB hk0
      by_cases hc : pvA (rtN zs) (lfN zs) (woN zs) n (j + 1) = pvA (rtN zs) (lfN zs) (woN zs) n j
      · have HE2 := Lib.hid ((HSM1.out hc).symm.trans hE.out)
        rw [hc] at ca
        generalize pvA (rtN zs) (lfN zs) (woN zs) n j = q at *
        clear hc s0 s3
        go_wp2
        ((first | refine region_gr_on (by kernel_rfl) (by kernel_rfl) ?_ | refine region_gr (by kernel_rfl) (by kernel_rfl) ?_); (repeat (quiet_step (fail))); refine wpQuiet_nil ?_; intro _ hw'; obtain ⟨⟨kq, oq⟩, hw''⟩ := hw'; subst hw'')
        have hG : Gr wr (gr wr kq oq) := ⟨kq, oq, rfl⟩
        have HO2 := Lib.hid (Lst.below HO.out hG.below)
        have HB2 := Lib.hid (HB.out.trans (hG.below.mono hsz))
        clear hG
        generalize gr wr kq oq = wq at *
        go_wp2
        go_roundw
        case rel => exact ⟨j, S, by omega, by congr 1, HE2, HIS, HO2.out, HB2.out⟩
        case measure => simp [intOf] <;> omega
      · have HE2 := Lib.hid ((HTK1.out hc).symm.trans hE.out)
        have hcb : (pvA (rtN zs) (lfN zs) (woN zs) n (j + 1) == pvA (rtN zs) (lfN zs) (woN zs) n j) = false := by simpa using hc
        have HLS := Lib.hid (lsS_insZ n S (orA (rtN zs) n j) hot HIN.out)
        have hKl := lsS_len n S
        have hKl2 : (natI (lsS n S)).length = (lsS n S).length := List.length_map _
        have HINS := Lib.hid (fun w6 (hg : Gr wr w6) => insI_any 50 #[] ltZ ((orA (rtN zs) n j : Nat) : Int) u7 (natI (lsS n S)) w4.heap.size w6 (by omega) (by have := hg.below.size; omega) (Lst.below HO.out hg.below) enters_less (fun W _ y _ => less_cb _ y W))
        generalize pvA (rtN zs) (lfN zs) (woN zs) n (j + 1) = q1 at *
        generalize pvA (rtN zs) (lfN zs) (woN zs) n j = q at *
        generalize hoe : orA (rtN zs) n j = oj at *
        generalize hfe : frN (rtN zs) (lfN zs) n oj = fr at *
        clear hoe hfe s3 hKl hKl2
        go_wp2
        ((first | refine region_gr_on (by kernel_rfl) (by kernel_rfl) ?_ | refine region_gr (by kernel_rfl) (by kernel_rfl) ?_); (repeat (quiet_step (fail))); refine wpQuiet_nil ?_; intro _ hw'; obtain ⟨⟨kq, oq⟩, hw''⟩ := hw'; subst hw'')
        have hG : Gr wr (gr wr kq oq) := ⟨kq, oq, rfl⟩
        have HGQ := Lib.hid hG
        have s0' := (hG.below.cell (p := ⟨gs, os + j * 4, none⟩) hgs).trans s0
        have hgs' : gs < (gr wr kq oq).heap.size := by have := hG.below.size; omega
        clear hG s0 ca cb
        generalize gr wr kq oq = wq at *
        go_wp2_with fail
        refine (HINS.out _ HGQ.out).mono ?_
        rintro e w7 ⟨⟨v7, rfl, hv7, -⟩, hb7⟩
        have HB7 := Lib.hid ((HB.out.trans (HGQ.out.below.mono hsz)).trans (Lst.below_of (Lst.below HO.out HGQ.out.below) (by have := HGQ.out.below.size; omega) hb7))
        have HV7 := Lib.hid hv7
        obtain ⟨s3, hgs7⟩ := HS3.out w7 HB7.out
        clear hv7 hb7
        go_wp2
        go_roundw
        case rel => exact ⟨fr, fun i => S i || i == oj, by omega, rfl, HE2, HIT, by rw [← HLS.out]; exact HV7.out, HB7.out⟩
        case measure => simp [intOf] <;> omega
set_option maxRecDepth 100000 in
theorem bc_impl (A : Option Addr) (n c : Nat) (zs : List P3) (w : World) (ht : Tab w) (hn : zs.length = n) (hN : n ≤ 16777216) (hA : Reads w w.heap.size A (cells3 zs)) :
    Calls Tryd.prog 23 #[.slice A n c] w fun e w' => (∃ v, e = .returned (.tuple #[v, .int .i64 (lbE zs)]) ∧ Lst w' w.heap.size v (bcL zs)) ∧ Below w.heap.size w w' := by
  have HC := Lib.hid (lbcode_impl A n c zs w hn hN hA)
  have HNIL := Lib.hid (fun W => World.ownsRow_nil W w.heap.size 2 1)
  have HV := Lib.hid (show bcL zs = if lbE zs = 0 then natI (lsS zs.length (bcF zs)) else [] from rfl)
  by_cases h : lbE zs = 0
  · rw [if_pos h, hn] at HV
    rw [HV.out, h]
    exact bc_impl1 A n c zs w ht hn hA h
  · rw [if_neg h] at HV
    rw [HV.out]
    have hc0 : (lbE zs == 0) = false := by simpa using h
    generalize lbE zs = cd at *
    clear hA hn HV
    go_enter Tryd.func23, Tryd.ntmps23
    go_wp2_with fail
    refine (HC.out).mono ?_
    rintro e w2 ⟨rfl, hg2⟩
    go_wp2_with fail
    ((try simp only [Exit.inBlock, Exit.then]); refine bodyPost_ret (v := .tuple #[.slice none 0 0, .int .i64 cd]) (by simp [results, Tryd.results23, go_sem]) rfl ?_)
    exact ⟨⟨_, rfl, HNIL.out _⟩, hg2.below⟩
end Go.Proofs.YtlimfpdibohioabDoor
