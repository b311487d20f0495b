/- ReadChain in the model (written by laws/gen_T44.py). -/
import Derived.Test.YtphebmbapllinaaDoorT43
namespace Go.Proofs.YtphebmbapllinaaDoor
open Go.RowKit Go.ChangeShapes Go.WideShapes Go.ChangeAt
set_option linter.unusedVariables false
set_option linter.unusedSimpArgs false

set_option maxHeartbeats 8000000 in
set_option maxRecDepth 100000 in
theorem readChain_spec (s : ByteArray) (w : World) (hs : s.size ≤ 1048576) :
    Calls Tryd.prog 12 #[.string s] w (LsT (rcR rdS s.data.toList) w) := by
  obtain ⟨i0, hinf, hz0, hz1, hz2⟩ := info_parts info_term
  have HL := Lib.hid (Lib.size_eq s)
  unfold rcR
  have hO0 : LstG tcl 3 45 (w.alloc (.cells #[] 45)) w.heap.size (.slice (some ⟨w.heap.size, 0, none⟩) 0 0) [] := LstG.new _ w w.heap.size (Nat.le_refl _)
  have hB0 : Below w.heap.size w (w.alloc (.cells #[] 45)) := (Below.refl _ _).alloc (Nat.le_refl _) _
  go_enter Tryd.func12, Tryd.ntmps12
  go_wp2_with fail
  generalize (w.alloc (.cells #[] 45)) = w0 at *
  go_loopw [4, 5, 6, 7] (fun v d fr i wr => ∃ (zs : List Tm) (b : Bool) (f k : Nat), d = .bool b ∧ fr = .int .i64 f ∧ i = .int .i64 k ∧ k ≤ s.size + 1 ∧ f ≤ k ∧ zs.length ≤ k ∧ Hid (LstG tcl 3 45 wr w.heap.size v zs) ∧ Below w.heap.size w wr ∧ Hid (PcR s.data.toList zs b f k)) (fun _ _ _ i _ => s.size + 1 - (intOf i).toNat)
  case atStart => exact ⟨[], false, 0, 0, rfl, rfl, rfl, by omega, by omega, by simp, Lib.hid hO0, hB0, Lib.hid (PcR.zero _)⟩
  case round =>
    obtain ⟨zs, b, f, k, rfl, rfl, rfl, hk1, hfk, hzk, HO, hbl, HP⟩ := hrel
    clear hO0 hB0
    have hcur : k ≤ s.size → s.extract f k = ⟨((s.data.toList.take k).drop f).toArray⟩ := by
      intro _
      apply ByteArray.ext
      apply Array.ext'
      rw [ext_data]
    have hcz : (⟨((s.data.toList.take k).drop f).toArray⟩ : ByteArray).size ≤ 281474976710656 := by
      show (List.toArray _).size ≤ _
      rw [List.size_toArray, List.length_drop, List.length_take]; omega
    by_cases hk : k < s.size
    · have hcur := hcur (by omega)
      obtain ⟨x, hx⟩ : ∃ x : UInt8, s[k]'hk = x := ⟨_, rfl⟩
      have hxl : s.data.toList[k]? = some x := by rw [← hx]; exact Lib.data_getElem? s k hk
      have HX := Lib.hid hxl
      clear hxl
      by_cases h42 : x = 42
      · have g1 : (((s[k]'hk).toNat : Int) != 42) = false := by rw [hx, h42]; rfl
        have g3 : (((s[k]'hk).toNat : Int) == 47) = false := by rw [hx, h42]; rfl
        have hsg : isSg x = true := by rw [h42]; rfl
        have hxb : (x == 47) = false := by rw [h42]; rfl
        clear h42 hx
        have HF := Lib.hid (fun W => show Calls Tryd.prog 30 #[.string ⟨((s.data.toList.take k).drop f).toArray⟩] W (fun e w' => e = .returned (.tuple #[.agg #[.int .i64 (rdS ((s.data.toList.take k).drop f)).1.1, .int .i64 (rdS ((s.data.toList.take k).drop f)).1.2], .int .i64 (rdS ((s.data.toList.take k).drop f)).2]) ∧ Gr W w') from readFigure_spec _ W hcz)
        clear hcz
        by_cases ho : (rdS ((s.data.toList.take k).drop f)).2 = 0
        · have HN0 := Lib.hid (PcR.sign HP.out HX.out hsg ho)
          rw [hxb] at HN0
          have HN := HN0
          clear HN0
          rw [ho] at HF
          generalize (rdS ((s.data.toList.take k).drop f)).1 = F at *
          obtain ⟨fd, ft⟩ := F
          simp only at HF HN
          clear ho HP
          go_wp2_with fail
          refine (HF.out _).mono ?_
          rintro e w2 ⟨rfl, hg2⟩
          have hO2 := LstG.below HO.out hg2.below
          have hb2 := hbl.trans (hg2.below.mono hbl.size)
          have hG3 : Gr w2 (w2.alloc (.cells #[.int .i64 fd, .int .i64 ft] 43)) := (by repeat (first | with_reducible exact Gr.refl _ | with_reducible refine Gr.alloc ?_ _ | with_reducible refine Gr.gr ?_ _ _ | with_reducible refine Gr.drew ?_ | with_reducible refine Gr.drewN ?_ _))
          obtain ⟨c30, c31, -⟩ := (Blk.new w2 43 #[.int .i64 fd, .int .i64 ft]).two
          have HO3 := Lib.hid (LstG.below hO2 hG3.below)
          have HB3 := Lib.hid (hb2.trans (hG3.below.mono hb2.size))
          have hws := HB3.out.size
          have hws2 := hws
          rw [World.size_alloc] at hws2
          clear HO hbl hg2 hO2 hb2 hG3 HF
          have hnw := three_cells_new (w2.alloc (.cells #[.int .i64 fd, .int .i64 ft] 43)) (vi fd) (vi ft) (.bool b) 45
          rw [World.size_alloc] at hnw
          have HNW := Lib.hid hnw
          clear hnw
          go_wp2_with (at_builtin; refine wpList_append_own _ rfl _ _ 24 rfl w.heap.size 45 i0 (.agg #[vi 0, vi 0, .bool false]) 3 24 Tryd.underlying24 hinf hz0 hz1 hz2 rfl (by decide) _ _ _ rfl (HO3.out.alloc _) ⟨w2.heap.size + 1, 0, none⟩ 1 1 [vi fd, vi ft, .bool b] rfl rfl HNW.out (by simp [Value.oneCell']) (by unfold maxLen; omega) (by omega) (by simp; omega) ?_; intro v' w4 hown' hgrow _; obtain ⟨hA1, hA2⟩ := LstG.appT (m := (fd, ft, b)) HB3.out hws (HO3.out.alloc _) hown' hgrow; have HA1 := Lib.hid hA1; clear hA1 hown' hgrow)
          go_roundw
          case rel => exact ⟨zs ++ [(fd, ft, b)], false, k + 1, k + 1, rfl, by go_num, by go_num, by omega, Nat.le_refl _, by rw [List.length_append]; simp; omega, HA1, hA2, HN⟩
          case measure => simp [intOf]; omega
        · have hR := HP.out.bad (.inr ⟨x, HX.out, hsg⟩) ho
          generalize rdS ((s.data.toList.take k).drop f) = F at *
          obtain ⟨⟨fd, ft⟩, fc⟩ := F
          simp only at HF ho
          have hfc : ((fc : Int) != 0) = true := by simp [ho]
          go_wp2_with fail
          refine (HF.out _).mono ?_
          rintro e w2 ⟨rfl, hg2⟩
          have hb2 := hbl.trans (hg2.below.mono hbl.size)
          have hb3 : Below w.heap.size w (w2.alloc (.cells #[.int .i64 fd, .int .i64 ft] 43)) := hb2.trans ((show Gr w2 (w2.alloc (.cells #[.int .i64 fd, .int .i64 ft] 43)) from (by repeat (first | with_reducible exact Gr.refl _ | with_reducible refine Gr.alloc ?_ _ | with_reducible refine Gr.gr ?_ _ _ | with_reducible refine Gr.drew ?_ | with_reducible refine Gr.drewN ?_ _))).below.mono hb2.size)
          go_wp2_with fail
          ((try simp only [Exit.inBlock, Exit.then]); refine bodyPost_ret (v := .tuple #[.slice none 0 0, .int .i64 6]) (by simp [results, Tryd.results12, go_sem]) rfl ?_)
          exact LsT.none hb3 hR
      · by_cases h47 : x = 47
        · have g1 : (((s[k]'hk).toNat : Int) != 42) = true := by rw [hx, h47]; rfl
          have g2 : (((s[k]'hk).toNat : Int) != 47) = false := by rw [hx, h47]; rfl
          have g3 : (((s[k]'hk).toNat : Int) == 47) = true := by rw [hx, h47]; rfl
          have hsg : isSg x = true := by rw [h47]; rfl
          have hxb : (x == 47) = true := by rw [h47]; rfl
          clear h42 h47 hx
          have HF := Lib.hid (fun W => show Calls Tryd.prog 30 #[.string ⟨((s.data.toList.take k).drop f).toArray⟩] W (fun e w' => e = .returned (.tuple #[.agg #[.int .i64 (rdS ((s.data.toList.take k).drop f)).1.1, .int .i64 (rdS ((s.data.toList.take k).drop f)).1.2], .int .i64 (rdS ((s.data.toList.take k).drop f)).2]) ∧ Gr W w') from readFigure_spec _ W hcz)
          clear hcz
          by_cases ho : (rdS ((s.data.toList.take k).drop f)).2 = 0
          · have HN0 := Lib.hid (PcR.sign HP.out HX.out hsg ho)
            rw [hxb] at HN0
            have HN := HN0
            clear HN0
            rw [ho] at HF
            generalize (rdS ((s.data.toList.take k).drop f)).1 = F at *
            obtain ⟨fd, ft⟩ := F
            simp only at HF HN
            clear ho HP
            go_wp2_with fail
            refine (HF.out _).mono ?_
            rintro e w2 ⟨rfl, hg2⟩
            have hO2 := LstG.below HO.out hg2.below
            have hb2 := hbl.trans (hg2.below.mono hbl.size)
            have hG3 : Gr w2 (w2.alloc (.cells #[.int .i64 fd, .int .i64 ft] 43)) := (by repeat (first | with_reducible exact Gr.refl _ | with_reducible refine Gr.alloc ?_ _ | with_reducible refine Gr.gr ?_ _ _ | with_reducible refine Gr.drew ?_ | with_reducible refine Gr.drewN ?_ _))
            obtain ⟨c30, c31, -⟩ := (Blk.new w2 43 #[.int .i64 fd, .int .i64 ft]).two
            have HO3 := Lib.hid (LstG.below hO2 hG3.below)
            have HB3 := Lib.hid (hb2.trans (hG3.below.mono hb2.size))
            have hws := HB3.out.size
            have hws2 := hws
            rw [World.size_alloc] at hws2
            clear HO hbl hg2 hO2 hb2 hG3 HF
            have hnw := three_cells_new (w2.alloc (.cells #[.int .i64 fd, .int .i64 ft] 43)) (vi fd) (vi ft) (.bool b) 45
            rw [World.size_alloc] at hnw
            have HNW := Lib.hid hnw
            clear hnw
            go_wp2_with (at_builtin; refine wpList_append_own _ rfl _ _ 24 rfl w.heap.size 45 i0 (.agg #[vi 0, vi 0, .bool false]) 3 24 Tryd.underlying24 hinf hz0 hz1 hz2 rfl (by decide) _ _ _ rfl (HO3.out.alloc _) ⟨w2.heap.size + 1, 0, none⟩ 1 1 [vi fd, vi ft, .bool b] rfl rfl HNW.out (by simp [Value.oneCell']) (by unfold maxLen; omega) (by omega) (by simp; omega) ?_; intro v' w4 hown' hgrow _; obtain ⟨hA1, hA2⟩ := LstG.appT (m := (fd, ft, b)) HB3.out hws (HO3.out.alloc _) hown' hgrow; have HA1 := Lib.hid hA1; clear hA1 hown' hgrow)
            go_roundw
            case rel => exact ⟨zs ++ [(fd, ft, b)], true, k + 1, k + 1, rfl, by go_num, by go_num, by omega, Nat.le_refl _, by rw [List.length_append]; simp; omega, HA1, hA2, HN⟩
            case measure => simp [intOf]; omega
          · have hR := HP.out.bad (.inr ⟨x, HX.out, hsg⟩) ho
            generalize rdS ((s.data.toList.take k).drop f) = F at *
            obtain ⟨⟨fd, ft⟩, fc⟩ := F
            simp only at HF ho
            have hfc : ((fc : Int) != 0) = true := by simp [ho]
            go_wp2_with fail
            refine (HF.out _).mono ?_
            rintro e w2 ⟨rfl, hg2⟩
            have hb2 := hbl.trans (hg2.below.mono hbl.size)
            have hb3 : Below w.heap.size w (w2.alloc (.cells #[.int .i64 fd, .int .i64 ft] 43)) := hb2.trans ((show Gr w2 (w2.alloc (.cells #[.int .i64 fd, .int .i64 ft] 43)) from (by repeat (first | with_reducible exact Gr.refl _ | with_reducible refine Gr.alloc ?_ _ | with_reducible refine Gr.gr ?_ _ _ | with_reducible refine Gr.drew ?_ | with_reducible refine Gr.drewN ?_ _))).below.mono hb2.size)
            go_wp2_with fail
            ((try simp only [Exit.inBlock, Exit.then]); refine bodyPost_ret (v := .tuple #[.slice none 0 0, .int .i64 6]) (by simp [results, Tryd.results12, go_sem]) rfl ?_)
            exact LsT.none hb3 hR
        · have n1 : x.toNat ≠ 42 := fun h => h42 (UInt8.toNat_inj.1 h)
          have n2 : x.toNat ≠ 47 := fun h => h47 (UInt8.toNat_inj.1 h)
          have g1 : (((s[k]'hk).toNat : Int) != 42) = true := by rw [hx]; simp; omega
          have g2 : (((s[k]'hk).toNat : Int) != 47) = true := by rw [hx]; simp; omega
          have hsg : isSg x = false := by unfold isSg; rw [beq_eq_false_iff_ne.2 h42, beq_eq_false_iff_ne.2 h47]; rfl
          have HN := Lib.hid (PcR.step HP.out HX.out hsg)
          clear h42 h47 hx hsg n1 n2 hcur hcz HP
          go_wp2_with fail
          go_roundw
          case rel => exact ⟨zs, b, f, k + 1, rfl, rfl, by go_num, by omega, by omega, by omega, HO, hbl, HN⟩
          case measure => simp [intOf]; omega
    · by_cases hk2 : k = s.size
      · have hcur := hcur (by omega)
        have HK2 := Lib.hid (hk2.trans HL.out)
        have hks : k ≤ s.size := by omega
        clear hk2
        have HF := Lib.hid (fun W => show Calls Tryd.prog 30 #[.string ⟨((s.data.toList.take k).drop f).toArray⟩] W (fun e w' => e = .returned (.tuple #[.agg #[.int .i64 (rdS ((s.data.toList.take k).drop f)).1.1, .int .i64 (rdS ((s.data.toList.take k).drop f)).1.2], .int .i64 (rdS ((s.data.toList.take k).drop f)).2]) ∧ Gr W w') from readFigure_spec _ W hcz)
        clear hcz
        by_cases ho : (rdS ((s.data.toList.take k).drop f)).2 = 0
        · have hkl : k = s.data.toList.length := HK2.out
          have HN : Hid (PcR s.data.toList (zs ++ [((rdS ((s.data.toList.take k).drop f)).1.1, (rdS ((s.data.toList.take k).drop f)).1.2, b)]) false (k + 1) (k + 1)) := Lib.hid (by rw [hkl] at HP ho ⊢; exact PcR.last HP.out ho false _)
          clear hkl
          rw [ho] at HF
          generalize (rdS ((s.data.toList.take k).drop f)).1 = F at *
          obtain ⟨fd, ft⟩ := F
          simp only at HF HN
          clear ho HP
          go_wp2_with fail
          refine (HF.out _).mono ?_
          rintro e w2 ⟨rfl, hg2⟩
          have hO2 := LstG.below HO.out hg2.below
          have hb2 := hbl.trans (hg2.below.mono hbl.size)
          have hG3 : Gr w2 (w2.alloc (.cells #[.int .i64 fd, .int .i64 ft] 43)) := (by repeat (first | with_reducible exact Gr.refl _ | with_reducible refine Gr.alloc ?_ _ | with_reducible refine Gr.gr ?_ _ _ | with_reducible refine Gr.drew ?_ | with_reducible refine Gr.drewN ?_ _))
          obtain ⟨c30, c31, -⟩ := (Blk.new w2 43 #[.int .i64 fd, .int .i64 ft]).two
          have HO3 := Lib.hid (LstG.below hO2 hG3.below)
          have HB3 := Lib.hid (hb2.trans (hG3.below.mono hb2.size))
          have hws := HB3.out.size
          have hws2 := hws
          rw [World.size_alloc] at hws2
          clear HO hbl hg2 hO2 hb2 hG3 HF
          have hnw := three_cells_new (w2.alloc (.cells #[.int .i64 fd, .int .i64 ft] 43)) (vi fd) (vi ft) (.bool b) 45
          rw [World.size_alloc] at hnw
          have HNW := Lib.hid hnw
          clear hnw
          go_wp2_with (at_builtin; refine wpList_append_own _ rfl _ _ 24 rfl w.heap.size 45 i0 (.agg #[vi 0, vi 0, .bool false]) 3 24 Tryd.underlying24 hinf hz0 hz1 hz2 rfl (by decide) _ _ _ rfl (HO3.out.alloc _) ⟨w2.heap.size + 1, 0, none⟩ 1 1 [vi fd, vi ft, .bool b] rfl rfl HNW.out (by simp [Value.oneCell']) (by unfold maxLen; omega) (by omega) (by simp; omega) ?_; intro v' w4 hown' hgrow _; obtain ⟨hA1, hA2⟩ := LstG.appT (m := (fd, ft, b)) HB3.out hws (HO3.out.alloc _) hown' hgrow; have HA1 := Lib.hid hA1; clear hA1 hown' hgrow)
          go_roundw
          case rel => exact ⟨zs ++ [(fd, ft, b)], false, k + 1, k + 1, rfl, by go_num, by go_num, by omega, Nat.le_refl _, by rw [List.length_append]; simp; omega, HA1, hA2, HN⟩
          case measure => simp [intOf]; omega
        · have hR := HP.out.bad (.inl HK2.out) ho
          generalize rdS ((s.data.toList.take k).drop f) = F at *
          obtain ⟨⟨fd, ft⟩, fc⟩ := F
          simp only at HF ho
          have hfc : ((fc : Int) != 0) = true := by simp [ho]
          go_wp2_with fail
          refine (HF.out _).mono ?_
          rintro e w2 ⟨rfl, hg2⟩
          have hb2 := hbl.trans (hg2.below.mono hbl.size)
          have hb3 : Below w.heap.size w (w2.alloc (.cells #[.int .i64 fd, .int .i64 ft] 43)) := hb2.trans ((show Gr w2 (w2.alloc (.cells #[.int .i64 fd, .int .i64 ft] 43)) from (by repeat (first | with_reducible exact Gr.refl _ | with_reducible refine Gr.alloc ?_ _ | with_reducible refine Gr.gr ?_ _ _ | with_reducible refine Gr.drew ?_ | with_reducible refine Gr.drewN ?_ _))).below.mono hb2.size)
          go_wp2_with fail
          ((try simp only [Exit.inBlock, Exit.then]); refine bodyPost_ret (v := .tuple #[.slice none 0 0, .int .i64 6]) (by simp [results, Tryd.results12, go_sem]) rfl ?_)
          exact LsT.none hb3 hR
      · have hk3 : k = s.size + 1 := by omega
        have hR := HP.out.done (by rw [← HL.out]; omega)
        obtain ⟨A1, c1, rfl, r1⟩ := LstG.slice HO.out
        have HC := Lib.hid (isChain_spec A1 zs.length c1 zs _ rfl (by omega) r1)
        cases hch : chnB zs with
        | true =>
          rw [hch] at hR HC
          rw [if_pos rfl] at hR
          go_wp2_with fail
          refine HC.out.mono ?_
          rintro e w2 ⟨rfl, hg2⟩
          have hO2 := LstG.below HO.out hg2.below
          go_wp2_with fail
          ((try simp only [Exit.inBlock, Exit.then]); refine bodyPost_ret (v := .tuple #[.slice A1 zs.length c1, .int .i64 0]) (by simp [results, Tryd.results12, go_sem]) rfl ?_)
          first
            | exact ⟨⟨_, rfl, hO2⟩, hbl.trans (hg2.below.mono hbl.size)⟩
            | (rw [hR]; exact ⟨⟨_, rfl, hO2⟩, hbl.trans (hg2.below.mono hbl.size)⟩)
        | false =>
          rw [hch] at hR HC
          rw [if_neg (by simp)] at hR
          go_wp2_with fail
          refine HC.out.mono ?_
          rintro e w2 ⟨rfl, hg2⟩
          go_wp2_with fail
          ((try simp only [Exit.inBlock, Exit.then]); refine bodyPost_ret (v := .tuple #[.slice none 0 0, .int .i64 6]) (by simp [results, Tryd.results12, go_sem]) rfl ?_)
          first
            | exact LsT.none (hbl.trans (hg2.below.mono hbl.size)) hR
            | exact LsT.none (hbl.trans (hg2.below.mono hbl.size)) rfl
end Go.Proofs.YtphebmbapllinaaDoor
