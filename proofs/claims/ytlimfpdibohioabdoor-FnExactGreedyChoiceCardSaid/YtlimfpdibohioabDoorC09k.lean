/- Contracts of chapter 9: the choice that takes the higher ticks first. -/
import Derived.Test.YtlimfpdibohioabDoorC09g
import Derived.Test.YtlimfpdibohioabDoorC08m
namespace Go.Proofs.YtlimfpdibohioabDoor
open Go.RowKit Go.Shelf
set_option linter.unusedVariables false
set_option linter.unusedSimpArgs false

def gcL (zs : List P3) : List Int := if lbE zs = 0 then natI (lsS zs.length (kpS zs zs.length (coN zs) (byH zs zs.length))) else []

set_option maxRecDepth 100000 in
theorem gc_impl (A : Option Addr) (n c : Nat) (zs : List P3) (w : World) (ht : Tab w) (hn : zs.length = n) (hN : n ≤ 16777216) (hA : Reads w w.heap.size A (cells3 zs)) :
    Calls Tryd.prog 32 #[.slice A n c] w fun e w' => (∃ v, e = .returned (.tuple #[v, .int .i64 (lbE zs)]) ∧ Lst w' w.heap.size v (gcL zs)) ∧ Below w.heap.size w w' := by
  have HC := Lib.hid (lbcode_impl A n c zs w hn hN hA)
  have HNIL := Lib.hid (fun W => World.ownsRow_nil W w.heap.size 2 1)
  have HV := Lib.hid (show gcL zs = if lbE zs = 0 then natI (lsS zs.length (kpS zs zs.length (coN zs) (byH zs zs.length))) else [] from rfl)
  by_cases h : lbE zs = 0
  rotate_left
  · rw [if_neg h] at HV
    rw [HV.out]
    have hc0 : (lbE zs == 0) = false := by simpa using h
    generalize lbE zs = cd at *
    clear hA hn HV
    go_enter Tryd.func32, Tryd.ntmps32
    go_wp2_with fail
    refine (HC.out).mono ?_
    rintro e w2 ⟨rfl, hg2⟩
    go_wp2_with fail
    ((try simp only [Exit.inBlock, Exit.then]); refine bodyPost_ret (v := .tuple #[.slice none 0 0, .int .i64 cd]) (by simp [results, Tryd.results32, go_sem]) rfl ?_)
    exact ⟨⟨_, rfl, HNIL.out _⟩, hg2.below⟩
  obtain ⟨h40, ha⟩ := lbE_zero h
  have HK := Lib.hid (fun W (hg : Gr w W) => keepHighest_any A n c zs 36 #[] (coN zs) W hn (by omega) (hA.gr hg) (allL_allH ha) enters_near (fun W' hb i k x y hx hy => near_cb zs ha i k x y hx hy W' ((ht.gr hg).later hb)))
  rw [if_pos h, hn] at HV
  rw [HV.out]
  rw [h] at HC ⊢
  generalize natI (lsS n (kpS zs n (coN zs) (byH zs n))) = L at *
  clear hA hn h ha h40 HV
  go_enter Tryd.func32, Tryd.ntmps32
  go_wp2_with fail
  refine (HC.out).mono ?_
  rintro e w2 ⟨rfl, hg2⟩
  go_wp2_with fail
  refine (HK.out _ hg2).mono ?_
  rintro e w3 ⟨⟨v, rfl, hv⟩, hb3⟩
  go_wp2_with fail
  ((try simp only [Exit.inBlock, Exit.then]); refine bodyPost_ret (v := .tuple #[v, .int .i64 0]) (by simp [results, Tryd.results32, go_sem]) rfl ?_)
  exact ⟨⟨_, rfl, hv.mono hg2.below.size⟩, hg2.below.trans (hb3.mono hg2.below.size)⟩

set_option maxRecDepth 100000 in
set_option maxHeartbeats 8000000 in
theorem gc_spec1 (A : Option Addr) (k c : Nat) (zs : List P3) (w : World) (hn : zs.length = k) (hA : Reads w w.heap.size A (cells3 zs)) (h0 : lbE zs = 0) :
    Calls Tryd.prog 31 #[.slice A k c] w fun e w' => (∃ v, e = .returned (.tuple #[v, .int .i64 0]) ∧ Lst w' w.heap.size v (natI (lsS k (kpS zs k (coN zs) (byH zs k))))) ∧ Below w.heap.size w w' := by
  obtain ⟨h40, ha⟩ := lbE_zero h0
  rw [hn] at h40
  have HC := Lib.hid (lbcode_spec A k c zs w hn (by omega) hA)
  rw [h0] at HC
  have HL := Lib.hid hn
  have hH := allL_allH ha
  have HHB := Lib.hid (fun k => tkH_bd hH k)
  have HIS := Lib.hid (fun (i : Nat) (h : i < k) => tkN_is ha (k := i) (by rw [hn]; exact h))
  have HGA := Lib.hid (gH_all zs k)
  have hmk := mkBools k (by omega)
  obtain ⟨i0, hi, hz0, hz1, hz2⟩ := info_parts info_i7
  clear h0 hH hn ha
  go_enter Tryd.func31, Tryd.ntmps31
  go_wp2_with fail
  refine (HC.out).mono ?_
  rintro e w2 ⟨rfl, hg2⟩
  have HA := Lib.hid (hA.gr hg2)
  have HGB := Lib.hid hg2.below
  clear hA hg2
  go_wp2
  clear hmk
  have HR1 : Hid (Row (w2.alloc (.cells (Array.replicate k (.bool false)) 4)) w2.heap.size 4 (flS k (kpS zs k (coN zs) (gH zs k 0)))) := Lib.hid (by
    rw [show kpS zs k (coN zs) (gH zs k 0) = fun _ => false from rfl, flS_none]
    have := Row.new w2 4 (List.replicate k (.bool false))
    rwa [List.toArray_replicate] at this)
  have HG1 : Hid (Below w2.heap.size w2 (w2.alloc (.cells (Array.replicate k (.bool false)) 4))) := Lib.hid (Gr.below (by repeat (first | with_reducible exact Gr.refl _ | with_reducible refine Gr.alloc ?_ _ | with_reducible refine Gr.gr ?_ _ _ | with_reducible refine Gr.drew ?_ | with_reducible refine Gr.drewN ?_ _)))
  generalize w2.alloc (.cells (Array.replicate k (.bool false)) 4) = w1 at *
  generalize hbk : w2.heap.size = bk at *
  have HHk := Lib.hid HHB.out
  go_loopw [6] (fun h wr => ∃ g : Nat, g ≤ 5 ∧ h = .int .i64 (4 - (g : Int)) ∧ Row wr bk 4 (flS k (kpS zs k (coN zs) (gH zs k g))) ∧ Below bk w2 wr) (fun h _ => (intOf h + 1).toNat)
  case atStart => exact ⟨0, by omega, rfl, HR1.out, HG1.out⟩
  case round =>
    obtain ⟨g, hg, rfl, hrow, hB⟩ := hrel
    by_cases hg5 : g < 5
    · have HE := Lib.hid (sL_end zs k (coN zs) g)
      have HS0 := Lib.hid (sL_zero zs k (coN zs) g)
      have HHit := Lib.hid (fun i => sL_hit zs k (coN zs) g i)
      have HMiss := Lib.hid (fun i => sL_miss zs k (coN zs) g i)
      have hge : (0 : Int) ≤ 4 - (g : Int) := by omega
      obtain ⟨hh, hhe⟩ : ∃ hh : Int, 4 - (g : Int) = hh := ⟨_, rfl⟩
      rw [hhe] at HHit HMiss hge ⊢
      have hh4 : hh ≤ 4 := by omega
      go_wp2
      go_loopw [7] (fun x wr => ∃ i : Nat, i ≤ k ∧ x = .int .i64 i ∧ Row wr bk 4 (flS k (sL zs k (coN zs) g i)) ∧ Below bk w2 wr) (fun x _ => k - (intOf x).toNat)
      case atStart => exact ⟨0, by omega, rfl, by rw [HS0.out]; exact hrow, hB⟩
      case round =>
        obtain ⟨i, hi2, rfl, hrow2, hB2⟩ := hrel
        by_cases hlt2 : i < k
        · obtain ⟨za, zb, hz⟩ := th_at (zs := zs) (k := i) (by rw [HL.out]; exact hlt2)
          have hAr : Reads wr wr.heap.size A (cells3 zs) := by
            have h1 := hB2.size
            exact HA.out.keep (show bk ≤ wr.heap.size by omega) hB2.block
          obtain ⟨ga, oa, eA, hga, x0, x1, x2⟩ := hAr.at3 hz
          have HAr := Lib.hid hAr
          have hsz2 := hB2.size
          have hbl := hrow2.lt
          have hbk2 : bk ≤ wr.heap.size := by omega
          have HROW := Lib.hid hrow2
          have HB2 := Lib.hid hB2
          simp only at x0 x1 x2
          have hti : tkN zs i = (za, zb, tkH zs i) := tkN_of hz
          clear hz hAr hrow2 hB2
          subst eA
          by_cases he : tkH zs i = hh
          · have HS := Lib.hid (HHit.out i he)
            have heq : (hh == hh) = true := by simp
            rw [he] at x2 hti
            have HAP := Lib.hid (apP_succ zs (coN zs) (sL zs k (coN zs) g i) i)
            have HAZ := Lib.hid (apP_zero zs (coN zs) (sL zs k (coN zs) g i) i)
            have HST := Lib.hid (show stS zs k (coN zs) (sL zs k (coN zs) g i) i = if apP zs (coN zs) (sL zs k (coN zs) g i) i k = true then fun j => sL zs k (coN zs) g i j || j == i else sL zs k (coN zs) g i from rfl)
            generalize sL zs k (coN zs) g i = S at *
            go_wp2
            go_loopw [8, 9] (fun b x wr4 => ∃ m : Nat, m ≤ k ∧ x = .int .i64 m ∧ b = .bool (apP zs (coN zs) S i m) ∧ Gr wr wr4) (fun _ x _ => k - (intOf x).toNat)
            case atStart => exact ⟨0, by omega, rfl, by rw [HAZ.out], Gr.refl _⟩
            case round =>
              obtain ⟨m, hm, rfl, rfl, hG4⟩ := hrel
              obtain ⟨k0, os0, rfl⟩ := hG4
              by_cases hlt3 : m < k
              · have HS1 := Lib.hid (HAP.out m)
                obtain ⟨⟨ya, yb, yc⟩, hy⟩ := some_at (l := zs) (k := m) (by rw [HL.out]; exact hlt3)
                have htm : tkN zs m = (ya, yb, yc) := tkN_of hy
                obtain ⟨g2, o2, e2, -, y0, y1, y2⟩ := HAr.out.at3 hy
                injection e2 with e2
                injection e2 with e2a e2b
                subst e2a e2b
                simp only at y0 y1 y2
                have c0 := HROW.out.cell m
                rw [flS_at _ _ _ hlt3] at c0
                have HCC := fun W => collide_spec (tkN zs i) (tkN zs m) W (HIS.out i hlt2) (HIS.out m hlt3)
                rw [show coN zs i m = coT (tkN zs i) (tkN zs m) from rfl, hti, htm] at HS1
                rw [hti, htm] at HCC
                simp only [tkV] at HCC
                replace HCC := Lib.hid HCC
                generalize coT (za, zb, hh) (ya, yb, yc) = cb at *
                have hmk : (m : Int) < (k : Int) := by omega
                have hik : (i : Int) < (k : Int) := by omega
                clear htm
                clear hy
                cases hs0 : apP zs (coN zs) S i m
                · rw [hs0] at HS1
                  clear hs0
                  go_wp2
                  go_quiet (fail)
                  go_wp2
                  go_roundw
                  case rel => exact ⟨m + 1, by omega, by go_num, by rw [HS1.out]; rfl, (by repeat (first | with_reducible exact Gr.refl _ | with_reducible refine Gr.alloc ?_ _ | with_reducible refine Gr.gr ?_ _ _ | with_reducible refine Gr.drew ?_ | with_reducible refine Gr.drewN ?_ _))⟩
                  case measure => simp [intOf]; omega
                · rw [hs0] at HS1
                  clear hs0
                  cases hs1 : S m
                  · rw [hs1] at HS1 c0
                    clear hs1
                    go_wp2
                    go_quiet (fail)
                    go_wp2
                    go_roundw
                    case rel => exact ⟨m + 1, by omega, by go_num, by rw [HS1.out]; rfl, (by repeat (first | with_reducible exact Gr.refl _ | with_reducible refine Gr.alloc ?_ _ | with_reducible refine Gr.gr ?_ _ _ | with_reducible refine Gr.drew ?_ | with_reducible refine Gr.drewN ?_ _))⟩
                    case measure => simp [intOf]; omega
                  · rw [hs1] at HS1 c0
                    clear hs1
                    go_wp2
                    ((first | refine region_gr_on (by kernel_rfl) (by kernel_rfl) ?_ | refine region_gr (by kernel_rfl) (by kernel_rfl) ?_); (repeat (quiet_step (exact Calls.gr_of (HCC.out _)))); refine wpQuiet_nil ?_; intro _ hw'; obtain ⟨⟨kq, oq⟩, hw''⟩ := hw'; subst hw'')
                    go_wp2
                    go_roundw
                    case rel => exact ⟨m + 1, by omega, by go_num, by rw [HS1.out]; simp, (by repeat (first | with_reducible exact Gr.refl _ | with_reducible refine Gr.alloc ?_ _ | with_reducible refine Gr.gr ?_ _ _ | with_reducible refine Gr.drew ?_ | with_reducible refine Gr.drewN ?_ _))⟩
                    case measure => simp [intOf]; omega
              · obtain rfl : m = k := by omega
                have HRG := Lib.hid (HROW.out.gr ⟨k0, os0, rfl⟩)
                have hb3 : Below bk w2 (gr wr k0 os0) := HB2.out.trans ((Gr.below ⟨k0, os0, rfl⟩).mono hbk2)
                cases hs0 : apP zs (coN zs) S i m
                · rw [hs0, if_neg (by simp)] at HST
                  clear hs0
                  go_wp2
                  go_roundw
                  case rel => exact ⟨i + 1, by omega, by go_num, by rw [HS.out, HST.out]; exact HRG.out, hb3⟩
                  case measure => simp [intOf]; omega
                · rw [hs0, if_pos rfl] at HST
                  have c0 := HRG.out.cell i
                  rw [flS_at _ _ _ hlt2] at c0
                  have f0 := HRG.out.free i
                  have hl0 := HRG.out.lt
                  have HFS := Lib.hid (flS_set m S i hlt2)
                  clear hs0
                  go_wp2
                  go_roundw
                  case rel => exact ⟨i + 1, by omega, by go_num, by rw [HS.out, HST.out, ← HFS.out]; exact (HROW.out.set i _).gr ⟨k0, os0, rfl⟩, (HB2.out.setCell (p := ⟨bk, i, none⟩) (Nat.le_refl _) _).trans ((Gr.below ⟨k0, os0, rfl⟩).mono (by simp [World.setCell]; exact hbk2))⟩
                  case measure => simp [intOf]; omega
          · have HS := Lib.hid (HMiss.out i he)
            have heq : (tkH zs i == hh) = false := by simpa using he
            generalize tkH zs i = hi' at *
            generalize sL zs k (coN zs) g i = S at *
            go_wp2
            go_loopw [8, 9] (fun b x wr4 => ∃ m : Nat, m ≤ k ∧ x = .int .i64 m ∧ b = .bool false ∧ Gr wr wr4) (fun _ x _ => k - (intOf x).toNat)
            case atStart => exact ⟨0, by omega, rfl, rfl, Gr.refl _⟩
            case round =>
              obtain ⟨m, hm, rfl, rfl, hG4⟩ := hrel
              obtain ⟨k0, os0, rfl⟩ := hG4
              by_cases hlt3 : m < k
              · go_wp2
                go_quiet (fail)
                go_wp2
                go_roundw
                case rel => exact ⟨m + 1, by omega, by go_num, rfl, (by repeat (first | with_reducible exact Gr.refl _ | with_reducible refine Gr.alloc ?_ _ | with_reducible refine Gr.gr ?_ _ _ | with_reducible refine Gr.drew ?_ | with_reducible refine Gr.drewN ?_ _))⟩
                case measure => simp [intOf]; omega
              · obtain rfl : m = k := by omega
                have HRG := Lib.hid (HROW.out.gr ⟨k0, os0, rfl⟩)
                have hb3 : Below bk w2 (gr wr k0 os0) := HB2.out.trans ((Gr.below ⟨k0, os0, rfl⟩).mono hbk2)
                go_wp2
                go_roundw
                case rel => exact ⟨i + 1, by omega, by go_num, by rw [HS.out]; exact HRG.out, hb3⟩
                case measure => simp [intOf]; omega
        · obtain rfl : i = k := by omega
          go_wp2
          go_roundw
          case rel => exact ⟨g + 1, by omega, by congr 1; omega, by rw [← HE.out]; exact hrow2, hB2⟩
          case measure => simp [intOf]; omega
    · obtain rfl : g = 5 := by omega
      rw [HGA.out] at hrow
      generalize hSe : kpS zs k (coN zs) (byH zs k) = S at *
      have HSE := Lib.hid hSe
      clear hSe
      have hsz2 : bk ≤ wr.heap.size := by have := hB.size; omega
      have HO1 : Hid (Lst (wr.alloc (.cells #[] 2)) wr.heap.size (.slice (some ⟨wr.heap.size, 0, none⟩) 0 0) []) := Lib.hid (World.ownsRow_made wr #[] 0 (Nat.le_refl _) (Nat.zero_le _) rfl)
      have HB1 : Hid (Below wr.heap.size wr (wr.alloc (.cells #[] 2))) := Lib.hid ((Below.refl _ _).alloc (Nat.le_refl _) _)
      have HROW := Lib.hid hrow
      have HBW := Lib.hid hB
      have hbl := hrow.lt
      clear hrow hB
      go_wp2
      generalize wr.alloc (.cells #[] 2) = w2 at *
      generalize hsr : wr.heap.size = sr at *
      go_loopw [10, 11] (fun v x wr5 => ∃ m : Nat, m ≤ k ∧ x = .int .i64 m ∧ Lst wr5 sr v (natI (lsS m S)) ∧ Below sr wr wr5) (fun _ x _ => k - (intOf x).toNat)
      case atStart => exact ⟨0, by omega, rfl, HO1.out, HB1.out⟩
      case round =>
        obtain ⟨m, hm, rfl, hO, hB5⟩ := hrel
        have hsz5 : sr ≤ wr.heap.size := by have := hB5.size; omega
        by_cases hlt3 : m < k
        · have HLS := Lib.hid (lsS_succ S m)
          have hrow5 := HROW.out.below hB5 (by omega)
          have c0 := hrow5.cell m
          rw [flS_at _ _ _ hlt3] at c0
          have hml := lsS_len m S
          have hml2 : (natI (lsS m S)).length = (lsS m S).length := List.length_map _
          have HO := Lib.hid hO
          have HB5 := Lib.hid hB5
          clear hO hB5
          cases hs1 : S m
          · rw [hs1] at HLS c0
            clear hs1
            go_wp2
            go_roundw
            case rel => exact ⟨m + 1, by omega, by go_num, by rw [HLS.out, if_neg (by simp), List.append_nil]; exact HO.out, HB5.out⟩
            case measure => simp [intOf]; omega
          · rw [hs1] at HLS c0
            clear hs1
            go_wp2_with (at_builtin; refine wpList_append_own _ rfl _ _ 30 rfl sr 2 i0 (.int .i64 0) 1 8 Tryd.underlying30 hi hz0 hz1 hz2 rfl (by decide) _ _ _ rfl (HO.out.alloc _) ⟨wr.heap.size, 0, none⟩ 1 1 [.int .i64 m] rfl rfl (one_cell_new _ _ _) (by simp [Value.oneCell']) (by unfold maxLen; omega) (by omega) (by simp; omega) ?_; intro v' w6 hown' hgrow _; obtain ⟨hA1, hA2⟩ := Lst.app (xs := natI (lsS m S)) (x := (m : Int)) HB5.out hsz5 (HO.out.alloc _) hown' hgrow; have HA1 : Hid (Lst w6 sr v' (natI (lsS m S) ++ [(m : Int)])) := Lib.hid hA1; have HA2 : Hid (Below sr _ w6) := Lib.hid hA2; clear hA1 hA2; clear hgrow hown')
            go_roundw
            case rel => exact ⟨m + 1, by omega, by go_num, by rw [HLS.out]; simp only [if_true]; rw [natI_snoc]; exact HA1.out, HA2.out⟩
            case measure => simp [intOf]; omega
        · obtain rfl : m = k := by omega
          go_wp2
          ((try simp only [Exit.inBlock, Exit.then]); refine bodyPost_ret (v := .tuple #[u10, .int .i64 0]) (by simp [results, Tryd.results31, go_sem]) rfl ?_)
          exact ⟨⟨_, rfl, by rw [HSE.out]; exact hO.mono (by have := HGB.out.size; omega)⟩, HGB.out.trans ((HBW.out.trans (hB5.mono hsz2)).mono (by rw [← hbk]; exact HGB.out.size))⟩

set_option maxRecDepth 100000 in
theorem gc_spec (A : Option Addr) (n c : Nat) (zs : List P3) (w : World) (hn : zs.length = n) (hN : n ≤ 16777216) (hA : Reads w w.heap.size A (cells3 zs)) :
    Calls Tryd.prog 31 #[.slice A n c] w fun e w' => (∃ v, e = .returned (.tuple #[v, .int .i64 (lbE zs)]) ∧ Lst w' w.heap.size v (gcL zs)) ∧ Below w.heap.size w w' := by
  have HC := Lib.hid (lbcode_spec A n c zs w hn hN hA)
  have HNIL := Lib.hid (fun W => World.ownsRow_nil W w.heap.size 2 1)
  have HV := Lib.hid (show gcL zs = if lbE zs = 0 then natI (lsS zs.length (kpS zs zs.length (coN zs) (byH zs zs.length))) else [] from rfl)
  by_cases h : lbE zs = 0
  · rw [if_pos h, hn] at HV
    rw [HV.out, h]
    exact gc_spec1 A n c zs w hn hA h
  · rw [if_neg h] at HV
    rw [HV.out]
    have hc0 : (lbE zs == 0) = false := by simpa using h
    generalize lbE zs = cd at *
    clear hA hn HV
    go_enter Tryd.func31, Tryd.ntmps31
    go_wp2_with fail
    refine (HC.out).mono ?_
    rintro e w2 ⟨rfl, hg2⟩
    go_wp2_with fail
    ((try simp only [Exit.inBlock, Exit.then]); refine bodyPost_ret (v := .tuple #[.slice none 0 0, .int .i64 cd]) (by simp [results, Tryd.results31, go_sem]) rfl ?_)
    exact ⟨⟨_, rfl, HNIL.out _⟩, hg2.below⟩
end Go.Proofs.YtlimfpdibohioabDoor
