/- Contracts of chapter 9: LabelProof. -/
import Derived.Test.YtlimfpdibohioabDoorC09o
namespace Go.Proofs.YtlimfpdibohioabDoor
open Go.RowKit Go.Shelf
set_option linter.unusedVariables false
set_option linter.unusedSimpArgs false

def pfL (zs : List P3) : List Int := if lbE zs = 0 then pvL (rtN zs) (lfN zs) (woN zs) zs.length zs.length else []
set_option maxRecDepth 100000 in
theorem pf_spec (A : Option Addr) (n c : Nat) (zs : List P3) (w : World) (hn : zs.length = n) (hN : n ≤ 16777216) (hA : Reads w w.heap.size A (cells3 zs)) :
    Calls Tryd.prog 27 #[.slice A n c] w fun e w' => (∃ v, e = .returned (.tuple #[v, .int .i64 (lbE zs)]) ∧ Lst w' w.heap.size v (pfL zs)) ∧ Below w.heap.size w w' := by
  have HC := Lib.hid (lbcode_spec A n c zs w hn hN hA)
  have HNIL := Lib.hid (fun W => World.ownsRow_nil W w.heap.size 2 1)
  have HV := Lib.hid (show pfL zs = if lbE zs = 0 then pvL (rtN zs) (lfN zs) (woN zs) zs.length zs.length else [] from rfl)
  by_cases h : lbE zs = 0
  · obtain ⟨h40, ha⟩ := lbE_zero h
    have HP := Lib.hid (fun W (hg : Gr w W) => proof_spec A n c zs W hn (by omega) (hA.gr hg) ha)
    rw [if_pos h, hn] at HV
    rw [HV.out]
    rw [h] at HC ⊢
    generalize pvL (rtN zs) (lfN zs) (woN zs) n n = L at *
    clear hA hn h ha h40 HV
    go_enter Tryd.func27, Tryd.ntmps27
    go_wp2_with fail
    refine (HC.out).mono ?_
    rintro e w2 ⟨rfl, hg2⟩
    go_wp2_with fail
    refine (HP.out _ hg2).mono ?_
    rintro e w3 ⟨⟨v, rfl, hv⟩, hb3⟩
    go_wp2_with fail
    ((try simp only [Exit.inBlock, Exit.then]); refine bodyPost_ret (v := .tuple #[v, .int .i64 0]) (by simp [results, Tryd.results27, go_sem]) rfl ?_)
    exact ⟨⟨_, rfl, hv.mono hg2.below.size⟩, hg2.below.trans (hb3.mono hg2.below.size)⟩
  · rw [if_neg h] at HV
    rw [HV.out]
    have hc0 : (lbE zs == 0) = false := by simpa using h
    generalize lbE zs = cd at *
    clear hA hn HV
    go_enter Tryd.func27, Tryd.ntmps27
    go_wp2_with fail
    refine (HC.out).mono ?_
    rintro e w2 ⟨rfl, hg2⟩
    go_wp2_with fail
    ((try simp only [Exit.inBlock, Exit.then]); refine bodyPost_ret (v := .tuple #[.slice none 0 0, .int .i64 cd]) (by simp [results, Tryd.results27, go_sem]) rfl ?_)
    exact ⟨⟨_, rfl, HNIL.out _⟩, hg2.below⟩
set_option maxRecDepth 100000 in
theorem pf_impl (A : Option Addr) (n c : Nat) (zs : List P3) (w : World) (ht : Tab w) (hn : zs.length = n) (hN : n ≤ 16777216) (hA : Reads w w.heap.size A (cells3 zs)) :
    Calls Tryd.prog 28 #[.slice A n c] w fun e w' => (∃ v, e = .returned (.tuple #[v, .int .i64 (lbE zs)]) ∧ Lst w' w.heap.size v (pfL zs)) ∧ Below w.heap.size w w' := by
  have HC := Lib.hid (lbcode_impl A n c zs w hn hN hA)
  have HNIL := Lib.hid (fun W => World.ownsRow_nil W w.heap.size 2 1)
  have HV := Lib.hid (show pfL zs = if lbE zs = 0 then pvL (rtN zs) (lfN zs) (woN zs) zs.length zs.length else [] from rfl)
  by_cases h : lbE zs = 0
  · obtain ⟨h40, ha⟩ := lbE_zero h
    have HP := Lib.hid (fun W (hg : Gr w W) => ps_impl A n c zs W (ht.gr hg) hn (by omega) (hA.gr hg) ha)
    have HQ := Lib.hid (fun W (AS : Option Addr) (cS : Nat) (hS : Reads W W.heap.size AS ((stL zs n n).flatMap cl4)) => lp_impl AS n cS zs W hn (by omega) ha hS)
    have HLN := Lib.hid (stL_len zs n n)
    rw [if_pos h, hn] at HV
    rw [HV.out]
    rw [h] at HC ⊢
    generalize pvL (rtN zs) (lfN zs) (woN zs) n n = L at *
    generalize stL zs n n = ss at *
    clear hA hn h ha h40 HV
    go_enter Tryd.func28, Tryd.ntmps28
    go_wp2_with fail
    refine (HC.out).mono ?_
    rintro e w2 ⟨rfl, hg2⟩
    go_wp2_with fail
    refine (HP.out _ hg2).mono ?_
    rintro e w3 ⟨⟨v, rfl, hv⟩, hb3⟩
    obtain ⟨AS, cS, rfl, hS⟩ := LstG.slice hv
    rw [HLN.out]
    have hs23 := hg2.below.size
    have hb23 := hg2.below.trans (hb3.mono hs23)
    go_wp2_with fail
    refine (HQ.out _ AS cS hS).mono ?_
    rintro e w4 ⟨⟨v4, rfl, hv4⟩, hb4⟩
    go_wp2_with fail
    ((try simp only [Exit.inBlock, Exit.then]); refine bodyPost_ret (v := .tuple #[v4, .int .i64 0]) (by simp [results, Tryd.results28, go_sem]) rfl ?_)
    exact ⟨⟨_, rfl, hv4.mono hb23.size⟩, hb23.trans (hb4.mono hb23.size)⟩
  · rw [if_neg h] at HV
    rw [HV.out]
    have hc0 : (lbE zs == 0) = false := by simpa using h
    generalize lbE zs = cd at *
    clear hA hn HV
    go_enter Tryd.func28, Tryd.ntmps28
    go_wp2_with fail
    refine (HC.out).mono ?_
    rintro e w2 ⟨rfl, hg2⟩
    go_wp2_with fail
    ((try simp only [Exit.inBlock, Exit.then]); refine bodyPost_ret (v := .tuple #[.slice none 0 0, .int .i64 cd]) (by simp [results, Tryd.results28, go_sem]) rfl ?_)
    exact ⟨⟨_, rfl, HNIL.out _⟩, hg2.below⟩
end Go.Proofs.YtlimfpdibohioabDoor
