/- ReadChain in the program. -/
import Derived.Test.YtphebmbapllinaaDoorT41
import Derived.Test.YtphebmbapllinaaDoorC13g
namespace Go.Proofs.YtphebmbapllinaaDoor
open Go.RowKit Go.ChangeShapes Go.WideShapes Go.ChangeAt
set_option linter.unusedVariables false
set_option linter.unusedSimpArgs false

/-- What ReadChain answers. -/
def rcA : Option (List Tm) → List Tm × Int
  | none => ([], 6)
  | some L => (L, 0)
def rcR (f : List UInt8 → (Int × Int) × Int) (s : List UInt8) : List Tm × Int := rcA (rcO f s)
theorem rdT_bad (f : List UInt8 → (Int × Int) × Int) (n : Nat) (c : UInt8) (r : List UInt8) (h : ¬ (f (preS r)).2 = 0) : rdT f (n + 1) (c :: r) = none := if_neg h
theorem rdT_last (f : List UInt8 → (Int × Int) × Int) (n : Nat) (c : UInt8) (r : List UInt8) (h : (f (preS r)).2 = 0) (h2 : sufS r = []) : rdT f (n + 1) (c :: r) = some [tmP f (c == 47, preS r)] := (if_pos h).trans (if_pos h2)
theorem rdT_more (f : List UInt8 → (Int × Int) × Int) (n : Nat) (c : UInt8) (r : List UInt8) (h : (f (preS r)).2 = 0) (h2 : ¬ sufS r = []) : rdT f (n + 1) (c :: r) = (rdT f n (sufS r)).map (tmP f (c == 47, preS r) :: ·) := (if_pos h).trans (if_neg h2)
theorem place_next {l : List UInt8} {k : Nat} {c : UInt8} {r : List UInt8} (h : l.drop k = c :: r) : l.drop (k + 1 + (preS r).length) = sufS r := by
  rw [Nat.add_assoc, ← List.drop_drop, h, Nat.add_comm 1, List.drop_succ_cons]
  conv => lhs; arg 2; rw [← pre_suf r]
  rw [List.drop_left]
theorem place_more {t : ByteArray} {k : Nat} {c : UInt8} {r : List UInt8} (h : t.data.toList.drop k = c :: r) : (k + 1 + (preS r).length < t.size) ↔ ¬ sufS r = [] := by
  have h1 := congrArg List.length h
  rw [List.length_drop, ← Lib.size_eq, List.length_cons] at h1
  have h2 := suf_len r
  constructor
  · intro h3 h4
    rw [h4] at h2
    simp at h2
    omega
  · intro h3
    have := List.length_pos_iff.2 h3
    omega
set_option maxHeartbeats 8000000 in
set_option maxRecDepth 100000 in
theorem readChain_impl (s : ByteArray) (w : World) (hE : Errs w) (hT : Tab w) (hs : s.size ≤ 1048576) :
    Calls Tryd.prog 11 #[.string s] w (LsT (rcR rdI s.data.toList) w) := by
  obtain ⟨i0, hinf, hz0, hz1, hz2⟩ := info_parts info_term
  have HE := Lib.hid hE
  have HT := Lib.hid hT
  clear hE hT
  have HR := Lib.hid (rdT_rcO rdI s.data.toList)
  have HM := Lib.hid (fun W => reader_made (⟨#[42]⟩ ++ s) W)
  have htl : (⟨#[42]⟩ ++ s : ByteArray).data.toList = 42 :: s.data.toList := by simp
  have hts : (⟨#[42]⟩ ++ s : ByteArray).size ≤ 2000000 := by rw [ByteArray.size_append]; show 1 + s.size ≤ _; omega
  have HTL := Lib.hid htl
  unfold rcR
  generalize rcO rdI s.data.toList = R at *
  clear htl
  go_enter Tryd.func11, Tryd.ntmps11
  go_wp2_with fail
  generalize htt : (⟨#[42]⟩ ++ s : ByteArray) = t at *
  refine (HM.out _).mono ?_
  rintro e w1 ⟨rfl, rfl⟩
  have hO0 : LstG tcl 3 45 (w.alloc (.cells #[] 45)) w.heap.size (.slice (some ⟨w.heap.size, 0, none⟩) 0 0) [] := LstG.new _ w w.heap.size (Nat.le_refl _)
  have hB0 : Below w.heap.size w (w.alloc (.cells #[] 45)) := (Below.refl _ _).alloc (Nat.le_refl _) _
  have hz0' : (w.alloc (.cells #[] 45)).heap.size = w.heap.size + 1 := World.size_alloc _ _
  have hlt0 : w.heap.size < (w.alloc (.cells #[] 45)).heap.size := by omega
  clear hz0'
  generalize (w.alloc (.cells #[] 45)) = w0 at *
  have hTx0 : Blk ((w0.alloc (.cells #[.string t] 9)).alloc (.cells #[.int .i64 0] 3)) w0.heap.size 9 #[.string t] := (Blk.new w0 _ _).alloc _
  have hPl0 : Blk ((w0.alloc (.cells #[.string t] 9)).alloc (.cells #[.int .i64 0] 3)) (w0.heap.size + 1) 3 #[.int .i64 0] := by
    have := Blk.new (w0.alloc (.cells #[.string t] 9)) 3 #[.int .i64 0]
    rwa [World.size_alloc] at this
  have hG1 : Gr w0 ((w0.alloc (.cells #[.string t] 9)).alloc (.cells #[.int .i64 0] 3)) := (by repeat (first | with_reducible exact Gr.refl _ | with_reducible refine Gr.alloc ?_ _ | with_reducible refine Gr.gr ?_ _ _ | with_reducible refine Gr.drew ?_ | with_reducible refine Gr.drewN ?_ _))
  have hO1 := LstG.below hO0 hG1.below
  have hB1 := hB0.trans (hG1.below.mono hB0.size)
  clear hO0 hB0 hG1 HM
  generalize hbt : w0.heap.size = bt at *
  generalize hbp : bt + 1 = bp at *
  go_wp2_with fail
  generalize ((w0.alloc (.cells #[.string t] 9)).alloc (.cells #[.int .i64 0] 3)) = w1 at *
  go_loopw [4, 13] (fun v m wr => ∃ (zs : List Tm) (j k : Nat) (c : UInt8) (r : List UInt8), m = .int .i64 j ∧ j ≤ 6 ∧ zs.length ≤ j ∧ Hid (LstG tcl 3 45 wr w.heap.size v zs) ∧ Hid (Blk wr bt 9 #[.string t]) ∧ Hid (Blk wr bp 3 #[.int .i64 k]) ∧ Hid (∀ g, v.ownBlock = some g → g ≠ bt ∧ g ≠ bp) ∧ Below w.heap.size w wr ∧ Hid (t.data.toList.drop k = c :: r) ∧ Hid (R = (rdT rdI (6 - j) (c :: r)).map (zs ++ ·))) (fun _ m _ => 6 - (intOf m).toNat)
  case atStart => exact ⟨[], 0, 0, 42, s.data.toList, rfl, by omega, by simp, Lib.hid hO1, Lib.hid hTx0, Lib.hid hPl0, Lib.hid (by intro g hg; have hg : some w.heap.size = some g := hg; injection hg with hg; omega), hB1, Lib.hid (by rw [HTL.out]; rfl), Lib.hid (by rw [← HR.out]; simp)⟩
  case round =>
    obtain ⟨zs, j, k, c, r, rfl, hj, hzl, HO, HTx, HPl, HN, hbl, HD, HQ⟩ := hrel
    clear hO1 hTx0 hPl0 hB1 HTL HR
    by_cases hj6 : j < 6
    · obtain ⟨n, hn⟩ : ∃ n, 6 - j = n + 1 := ⟨6 - j - 1, by omega⟩
      rw [hn] at HQ
      go_wp2_with fail
      refine (reader_any t k bt bp c r w _ HE.out HT.out hbl (by omega) hts HD.out HTx.out HPl.out (by omega)).mono ?_
      rintro e w2 ⟨rfl, hX, hP2⟩
      have hO2 := LstG.keepT HO.out (fun g e hl => hX.block g hl (HN.out g e).2)
      have hT2 := hX.keeps HTx.out (by omega)
      have hb2 := hbl.trans (hX.below (B := w.heap.size) (by omega) hbl.size)
      have hmr := place_more HD.out
      have hnx := place_next HD.out
      have hbad := rdT_bad rdI n c r
      have hlst := rdT_last rdI n c r
      have hmre := rdT_more rdI n c r
      unfold tmP at hlst hmre
      simp only at hlst hmre
      have HQ' := HQ.out
      clear HO HTx HPl hbl hX HQ HD
      generalize hsu : sufS r = S at *
      clear hsu
      generalize rdI (preS r) = F at *
      obtain ⟨⟨fd, ft⟩, fc⟩ := F
      simp only at hbad hlst hmre
      generalize k + 1 + (preS r).length = k2 at *
      generalize (c == 47) = cb at *
      have hG3 : Gr w2 (w2.alloc (.cells #[.int .i64 fd, .int .i64 ft, .bool cb] 45)) := (by repeat (first | with_reducible exact Gr.refl _ | with_reducible refine Gr.alloc ?_ _ | with_reducible refine Gr.gr ?_ _ _ | with_reducible refine Gr.drew ?_ | with_reducible refine Gr.drewN ?_ _))
      have H3 := Blk.new w2 45 #[.int .i64 fd, .int .i64 ft, .bool cb]
      have hO3 := LstG.below hO2 hG3.below
      have hT3 := hT2.gr hG3
      have hP3 := hP2.gr hG3
      have hb3 := hb2.trans (hG3.below.mono hb2.size)
      clear hO2 hT2 hP2 hb2 hG3
      by_cases hf : fc = 0
      · subst hf
        have hws := hb3.size
        have HO3 := Lib.hid hO3
        have HT3 := Lib.hid hT3
        have HP3 := Lib.hid hP3
        have HB3 := Lib.hid hb3
        have hzi : zs.length ≤ 5 := by omega
        clear hbad hO3 hT3 hP3 hb3
        have hl3 : w2.heap.size < (w2.alloc (.cells #[.int .i64 fd, .int .i64 ft, .bool cb] 45)).heap.size := H3.lt
        obtain ⟨h30, h31, h32, -⟩ := Blk.trioT H3
        have hbt3 := HT3.out.lt
        have hbp3 := HP3.out.lt
        have hws2 := hws
        rw [World.size_alloc] at hbt3 hbp3 hws2
        have hnw := three_cells_new (w2.alloc (.cells #[.int .i64 fd, .int .i64 ft, .bool cb] 45)) (vi fd) (vi ft) (.bool cb) 45
        rw [World.size_alloc] at hnw
        have HNW := Lib.hid hnw
        clear hnw
        by_cases hm : k2 < t.size
        · have hS := hmr.1 hm
          have hR := hmre rfl hS
          have hdm : decide (k2 < t.size) = true := decide_eq_true hm
          rw [hR] at HQ'
          have HQ2 := Lib.hid HQ'
          clear hmr hlst hmre hR HQ'
          obtain ⟨c2, r2, hcr⟩ : ∃ c2 r2, S = c2 :: r2 := by cases S with | nil => exact absurd rfl hS | cons a b => exact ⟨a, b, rfl⟩
          subst hcr
          clear hS
          have HNX := Lib.hid hnx
          clear hnx hm
          go_wp2_with (at_builtin; refine wpList_append_ownB _ rfl _ _ 24 rfl w.heap.size 45 i0 (.agg #[vi 0, vi 0, .bool false]) 3 24 Tryd.underlying24 hinf hz0 hz1 hz2 rfl (by decide) _ _ _ rfl (HO3.out.alloc _) ⟨w2.heap.size + 1, 0, none⟩ 1 1 [vi fd, vi ft, .bool cb] rfl rfl HNW.out (by simp [Value.oneCell']) (by omega) (by unfold maxLen; omega) (by omega) (by simp; omega) ?_; intro v' w4 hown' hgrow hblk; obtain ⟨hA1, hA2⟩ := LstG.appT (m := (fd, ft, cb)) HB3.out hws (HO3.out.alloc _) hown' hgrow; have HA1 := Lib.hid hA1; have HG4 := Lib.hid hgrow; have HK4 := Lib.hid hblk; clear hA1 hown' hgrow hblk)
          have HT4 : Hid (Blk w4 bt 9 #[.string t]) := Lib.hid ((HG4.out.block bt (by simp; omega) (fun e => (HN.out bt e.symm).1 rfl)).trans (HT3.out.alloc _))
          have HP4 : Hid (Blk w4 bp 3 #[.int .i64 k2]) := Lib.hid ((HG4.out.block bp (by simp; omega) (fun e => (HN.out bp e.symm).2 rfl)).trans (HP3.out.alloc _))
          have HN4 : Hid (∀ g, v'.ownBlock = some g → g ≠ bt ∧ g ≠ bp) := Lib.hid (by
            intro g hg
            rcases HK4.out with h | ⟨g2, h, h2⟩
            · exact HN.out g (h ▸ hg)
            · rw [hg] at h
              injection h with h
              subst h
              simp at h2
              omega)
          go_roundw
          case rel => exact ⟨zs ++ [(fd, ft, cb)], j + 1, k2, c2, r2, by go_num, by omega, by simp; omega, HA1, HT4, HP4, HN4, hA2, HNX, Lib.hid (by rw [HQ2.out, show 6 - (j + 1) = n by omega, Option.map_map]; congr 1; funext l; simp)⟩
          case measure => simp [intOf]; omega
        · have hS : S = [] := by
            by_cases h : S = []
            · exact h
            · exact absurd (hmr.2 h) hm
          have hR := hlst rfl hS
          have hdm : decide (k2 < t.size) = false := decide_eq_false hm
          rw [hR] at HQ'
          have HQ2 : Hid (rcA R = (zs ++ [(fd, ft, cb)], 0)) := Lib.hid (by rw [HQ']; rfl)
          clear hmr hlst hmre hR HQ' hS hnx hm
          go_wp2_with (at_builtin; refine wpList_append_ownB _ rfl _ _ 24 rfl w.heap.size 45 i0 (.agg #[vi 0, vi 0, .bool false]) 3 24 Tryd.underlying24 hinf hz0 hz1 hz2 rfl (by decide) _ _ _ rfl (HO3.out.alloc _) ⟨w2.heap.size + 1, 0, none⟩ 1 1 [vi fd, vi ft, .bool cb] rfl rfl HNW.out (by simp [Value.oneCell']) (by omega) (by unfold maxLen; omega) (by omega) (by simp; omega) ?_; intro v' w4 hown' hgrow hblk; obtain ⟨hA1, hA2⟩ := LstG.appT (m := (fd, ft, cb)) HB3.out hws (HO3.out.alloc _) hown' hgrow; have HA1 := Lib.hid hA1; clear hA1 hown' hgrow hblk)
          ((try simp only [Exit.inBlock, Exit.then]); refine bodyPost_ret (v := .tuple #[v', .int .i64 0]) (by simp [results, Tryd.results11, go_sem]) rfl ?_)
          rw [HQ2.out]
          exact ⟨⟨v', rfl, HA1.out⟩, hA2⟩
      · rw [hbad hf] at HQ'
        have hfb : ((fc : Int) == 0) = false := by simp [hf]
        have hR : rcA R = ([], 6) := by rw [HQ']; rfl
        clear hlst hmre hbad HQ' hnx hmr
        go_wp2_with fail
        ((try simp only [Exit.inBlock, Exit.then]); refine bodyPost_ret (v := .tuple #[.slice none 0 0, .int .i64 6]) (by simp [results, Tryd.results11, go_sem]) rfl ?_)
        exact LsT.none hb3 hR
    · have hj6' : ¬ (j : Int) < 6 := by omega
      have hR : rcA R = ([], 6) := by rw [HQ.out, show 6 - j = 0 by omega]; rfl
      go_wp2
      ((try simp only [Exit.inBlock, Exit.then]); refine bodyPost_ret (v := .tuple #[.slice none 0 0, .int .i64 6]) (by simp [results, Tryd.results11, go_sem]) rfl ?_)
      exact LsT.none hbl rfl
end Go.Proofs.YtphebmbapllinaaDoor
