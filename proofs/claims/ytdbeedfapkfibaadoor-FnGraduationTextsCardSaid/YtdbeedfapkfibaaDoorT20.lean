/- Contracts: a graduation read from a text, in the model. -/
import Derived.Test.YtdbeedfapkfibaaDoorTD
import Derived.Test.YtdbeedfapkfibaaDoor7B
import Derived.Test.YtdbeedfapkfibaaDoorDB
import Derived.Deep.RegionHeld3
namespace Go.Proofs.YtdbeedfapkfibaaDoor
open Go.RowKit Go.ChangeShapes Go.WideShapes Go.ChangeAt
set_option linter.unusedVariables false
set_option linter.unusedSimpArgs false

/-- A graduation was read, or none. -/
def RgR (r : Option (List P3)) (w : World) (e : Ending) (w' : World) : Prop :=
  (∃ v, e = .returned (.tuple #[v, .int .i64 (if r.isSome = true then 0 else 6)]) ∧ Lst3 61 w' w.heap.size v (r.getD [])) ∧ Below w.heap.size w w'
theorem RgR.no {w w' : World} (h : Below w.heap.size w w') : RgR none w (.returned (.tuple #[.slice none 0 0, .int .i64 6])) w' := ⟨⟨_, rfl, Lst3.nil _ _ _⟩, h⟩
theorem word_cases (p : List UInt8) : (numR rds (spS p) = none ∧ (rpS p).2 = false) ∨ (∃ zs, numR rds (spS p) = some zs ∧ zs.length ≠ 3 ∧ (rpS p).2 = false) ∨ (∃ a b c, numR rds (spS p) = some [a, b, c] ∧ rpS p = ((a, b, c), true)) := by
  by_cases h3 : (spS p).length = 3
  · obtain ⟨a, b, c, e⟩ := three_of h3
    have e2 : rpS p = (((rds a).1, (rds b).1, (rds c).1), (rds a).2 && (rds b).2 && (rds c).2) := by unfold rpS; rw [e]
    cases hk : (rds a).2 && (rds b).2 && (rds c).2
    · refine .inl ⟨?_, by rw [e2, hk]⟩
      unfold numR
      rw [e, if_neg]
      simp only [List.all_cons, List.all_nil, Bool.and_true]
      rw [← Bool.and_assoc, hk]
      simp
    · refine .inr (.inr ⟨(rds a).1, (rds b).1, (rds c).1, ?_, by rw [e2, hk]⟩)
      unfold numR
      rw [e, if_pos]
      · rfl
      · simp only [List.all_cons, List.all_nil, Bool.and_true]
        rw [← Bool.and_assoc, hk]
  · have e2 : rpS p = ((0, 0, 0), false) := by
      unfold rpS
      split
      · rename_i e; rw [e] at h3; simp at h3
      · rfl
    unfold numR
    split
    · exact .inr (.inl ⟨_, rfl, by rw [List.length_map]; exact h3, by rw [e2]⟩)
    · exact .inl ⟨rfl, by rw [e2]⟩

set_option maxRecDepth 100000 in
set_option maxHeartbeats 8000000 in
theorem rg_spec (s : ByteArray) (w : World) (hs : s.size ≤ 1048576) :
    Calls Tryd.prog 16 #[.string s] w (RgR (rgS s.data.toList) w) := by
  obtain ⟨j0, hj, hy0, hy1, hy2⟩ := info_parts info_part
  have HSP := Lib.hid (spB_size s.data.toList)
  have HSL := Lib.hid (spB_length s.data.toList)
  have HLD := Lib.hid (len_data s)
  have HRG := Lib.hid (show rgS s.data.toList = if ((spB s.data.toList).all (fun x => (rpS x).2) && gd ((spB s.data.toList).map fun x => (rpS x).1)) = true then some ((spB s.data.toList).map fun x => (rpS x).1) else none from rfl)
  go_enter Tryd.func16, Tryd.ntmps16
  go_wp2_with fail
  refine (splitB_spec s w hs).mono ?_
  generalize spB s.data.toList = ws at *
  generalize rgS s.data.toList = rr at *
  rintro e w1 ⟨u, rfl, hown, hb1⟩
  obtain ⟨gw, cw, rfl, hgw1, hgw2, hrw⟩ := hown.reads
  obtain ⟨q, hq⟩ : ∃ q, ws.length = q := ⟨_, rfl⟩
  rw [List.length_map, hq]
  have HQ := Lib.hid hq
  have hq2 : q ≤ 1048577 := by have := HSL.out; rw [HLD.out] at this; omega
  have HRW := Lib.hid hrw
  have HB1 := Lib.hid hb1
  have hb1s := hb1.size
  clear hown hq hrw hb1
  have HO0 : Hid (Lst3 61 (w1.alloc (.cells #[] 61)) w1.heap.size (.slice (some ⟨w1.heap.size, 0, none⟩) 0 0) []) := Lib.hid (Lst3.new _ _ _ (Nat.le_refl _))
  have HW0 : Hid (Below w1.heap.size w1 (w1.alloc (.cells #[] 61))) := Lib.hid ((Below.refl _ _).alloc (Nat.le_refl _) _)
  go_wp2_with fail
  generalize w1.alloc (.cells #[] 61) = w2 at *
  go_loopw [5, 6] (fun v i wr => ∃ k : Nat, i = .int .i64 k ∧ k ≤ q ∧ Hid ((ws.take k).all (fun x => (rpS x).2) = true) ∧ Hid (Lst3 61 wr w1.heap.size v ((ws.take k).map fun x => (rpS x).1)) ∧ Hid (Below w1.heap.size w1 wr)) (fun _ i _ => q - (intOf i).toNat)
  case atStart => exact ⟨0, rfl, by omega, Lib.hid (by simp), by simpa using HO0, HW0⟩
  case round =>
    obtain ⟨k, rfl, hk, HOK, HO, HW⟩ := hrel
    clear HO0 HW0
    have hsz := HW.out.size
    have HBW := Lib.hid (HB1.out.trans (HW.out.mono hb1s))
    by_cases hlt : k < q
    · obtain ⟨p, hp⟩ := some_at (l := ws) (k := k) (by rw [HQ.out]; exact hlt)
      have HP := Lib.hid hp
      have hps := HSP.out p (List.mem_of_getElem? hp)
      rw [HLD.out] at hps
      obtain ⟨g9, o9, e9, hg9, hc9⟩ := HRW.out.at_ (map_at (f := sv) hp)
      injection e9 with e9
      injection e9 with e91 e92
      subst e91
      subst e92
      have hc : wr.cell? ⟨gw, k, none⟩ = some (.string ⟨p.toArray⟩) := (HW.out.cell (p := ⟨gw, k, none⟩) hgw2).trans (by rw [Nat.zero_add] at hc9; exact hc9)
      have hlen : ((ws.take k).map fun x => (rpS x).1).length ≤ 1048577 := by rw [List.length_map, List.length_take]; omega
      clear hp hc9
      go_wp2_with fail
      refine (splitS_spec ⟨p.toArray⟩ wr (by show (List.toArray p).size ≤ _; rw [List.size_toArray]; omega)).mono ?_
      rintro e w3 ⟨u3, rfl, hown3, hb3⟩
      replace hown3 : Owns w3 wr.heap.size 9 u3 ((spS p).map sv) := hown3
      obtain ⟨g3, c3, rfl, -, -, hr3⟩ := hown3.reads
      obtain ⟨n3, hn3⟩ : ∃ q, (spS p).length = q := ⟨_, rfl⟩
      have hn4 := spS_length p
      have hn5 := spS_size p
      rw [List.length_map, hn3]
      have hW3 := HW.out.trans (hb3.mono hsz)
      have hO3 := Lib.hid (Lst3.below HO.out hb3)
      clear hown3
      go_wp2_with fail
      refine (numbers_spec (some ⟨g3, 0, none⟩) n3 c3 (spS p) w3 hn3 (by omega) (fun x hx => by have := hn5 x hx; omega) hr3).mono ?_
      have hs3 := hW3.size
      rcases word_cases p with ⟨h1, h2⟩ | ⟨zs, h1, h2, h3⟩ | ⟨a, b, c, h1, h2⟩
      · rw [h1]
        have HN : Hid (rr = none) := Lib.hid (by
          rw [HRG.out, if_neg]
          intro h
          rw [Bool.and_eq_true, List.all_eq_true] at h
          have := h.1 p (List.mem_of_getElem? HP.out)
          rw [h2] at this
          cases this)
        clear h1 h2 hn3 hn4 hn5 hr3
        rintro e w4 ⟨rfl, hb4⟩
        have HW4 := Lib.hid (HB1.out.trans ((hW3.trans (hb4.mono hs3)).mono hb1s))
        clear hb3 hb4 hW3
        go_wp2_with fail
        ((try simp only [Exit.inBlock, Exit.then]); refine bodyPost_ret (v := .tuple #[.slice none 0 0, .int .i64 6]) (by simp [results, Tryd.results16, go_sem]) rfl ?_)
        rw [HN.out]
        exact RgR.no HW4.out
      · rw [h1]
        have HN : Hid (rr = none) := Lib.hid (by
          rw [HRG.out, if_neg]
          intro h
          rw [Bool.and_eq_true, List.all_eq_true] at h
          have := h.1 p (List.mem_of_getElem? HP.out)
          rw [h3] at this
          cases this)
        clear h1 h3 hn3 hn4 hn5 hr3
        rintro e w4 ⟨u4, rfl, hown4, hb4⟩
        obtain ⟨g4, c4, rfl, -, -, -⟩ := hown4.reads
        obtain ⟨m, hm⟩ : ∃ q, zs.length = q := ⟨_, rfl⟩
        rw [List.length_map, hm]
        have hne : ((m : Int) == 3) = false := by simp; omega
        have hne2 : ((m : Int) != 3) = true := by simp; omega
        have HW4 := Lib.hid (HB1.out.trans ((hW3.trans (hb4.mono hs3)).mono hb1s))
        clear hb3 hb4 hW3 hown4 hm h2
        go_wp2_with fail
        ((try simp only [Exit.inBlock, Exit.then]); refine bodyPost_ret (v := .tuple #[.slice none 0 0, .int .i64 6]) (by simp [results, Tryd.results16, go_sem]) rfl ?_)
        rw [HN.out]
        exact RgR.no HW4.out
      · rw [h1]
        have HT1 : Hid ((ws.take (k + 1)).all (fun x => (rpS x).2) = true) := Lib.hid (by
          obtain ⟨hh, e⟩ := List.getElem?_eq_some_iff.1 HP.out
          rw [List.take_succ_eq_append_getElem hh, e, List.all_append, HOK.out]
          simp [h2])
        have HT2 : Hid (((ws.take (k + 1)).map fun x => (rpS x).1) = ((ws.take k).map fun x => (rpS x).1) ++ [(a, b, c)]) := Lib.hid (by
          obtain ⟨hh, e⟩ := List.getElem?_eq_some_iff.1 HP.out
          rw [List.take_succ_eq_append_getElem hh, e, List.map_append]
          simp [h2])
        clear h1 h2 hn3 hn4 hn5 hr3
        rintro e w4 ⟨u4, rfl, hown4, hb4⟩
        obtain ⟨g4, c4, rfl, hg41, hg42, hr4⟩ := hown4.reads
        have hW4 := hW3.trans (hb4.mono hs3)
        have hO4 := Lib.hid (Lst3.below hO3.out hb4)
        have hs4 := hW4.size
        have c0 := hr4.at_ (k := 0) (x := vi a) rfl
        have c1 := hr4.at_ (k := 1) (x := vi b) rfl
        have c2 := hr4.at_ (k := 2) (x := vi c) rfl
        obtain ⟨ga, oa, ea, -, y0⟩ := c0
        obtain ⟨gb, ob, eb, -, y1⟩ := c1
        obtain ⟨gc, oc, ec, -, y2⟩ := c2
        injection ea with ea
        injection ea with ea1 ea2
        injection eb with eb
        injection eb with eb1 eb2
        injection ec with ec
        injection ec with ec1 ec2
        subst ea1 ea2 eb1 eb2 ec1 ec2
        simp only [Nat.zero_add] at y0 y1 y2
        have HCL := Lib.hid (fun W (h : Below w4.heap.size w4 W) => And.intro ((h.cell (p := ⟨g4, 0, none⟩) hg42).trans y0) (And.intro ((h.cell (p := ⟨g4, 1, none⟩) hg42).trans y1) ((h.cell (p := ⟨g4, 2, none⟩) hg42).trans y2)))
        have hW4' := Lib.hid hW4
        have hXB := fun g e => (World.ownsRow.lt hO3.out g e).2
        clear hown4 hr4 hb3 hb4 hW3 hO3 hW4
        generalize (ws.take k).map (fun x => (rpS x).1) = xs at *
        have hz1 : xs.length + 1 ≤ maxLen := by unfold maxLen; omega
        have hz2 : (xs.length + 1) * 24 ≤ 140737488355328 := by omega
        go_wp2_with fail
        go_region_held3 (fun w' => w'.cell? ⟨g4, 0, none⟩ = some (.int .i64 a) ∧ w'.cell? ⟨g4, 1, none⟩ = some (.int .i64 b) ∧ w'.cell? ⟨g4, 2, none⟩ = some (.int .i64 c)) (first | exact ⟨y0, y1, y2⟩ | exact hS8 | exact HCL.out _ (Gr.below (by repeat (first | with_reducible exact Gr.refl _ | with_reducible refine Gr.alloc ?_ _ | with_reducible refine Gr.gr ?_ _ _ | with_reducible refine Gr.drew ?_ | with_reducible refine Gr.drewN ?_ _))) | fail) (first
          | (refine step_append_own rfl _ _ 24 rfl w1.heap.size 61 j0 (.agg #[.int .i64 0, .int .i64 0, .int .i64 0]) 3 24 Tryd.underlying24 hj hy0 hy1 hy2 rfl (by decide) _ _ _ rfl ((Lst3.below hO4.out (Gr.below (show Gr w4 w4.drew from (Gr.refl w4).drew))).alloc _) _ 1 1 [.int .i64 a, .int .i64 b, .int .i64 c] rfl rfl (three_cells_new _ _ _ _ _) (by simp [Value.oneCell']) hz1 hz2 (Nat.le_trans hs4 (by simp)) ?_; intro v' w8 hown' hgrow _; have hS8 := And.intro (World.grownBy.cell hgrow (HCL.out _ (Gr.below (by repeat (first | with_reducible exact Gr.refl _ | with_reducible refine Gr.alloc ?_ _ | with_reducible refine Gr.gr ?_ _ _ | with_reducible refine Gr.drew ?_ | with_reducible refine Gr.drewN ?_ _)))).1 (fun e => by have h9 := hXB _ e.symm; simp only at h9; omega)) (And.intro (World.grownBy.cell hgrow (HCL.out _ (Gr.below (by repeat (first | with_reducible exact Gr.refl _ | with_reducible refine Gr.alloc ?_ _ | with_reducible refine Gr.gr ?_ _ _ | with_reducible refine Gr.drew ?_ | with_reducible refine Gr.drewN ?_ _)))).2.1 (fun e => by have h9 := hXB _ e.symm; simp only at h9; omega)) (World.grownBy.cell hgrow (HCL.out _ (Gr.below (by repeat (first | with_reducible exact Gr.refl _ | with_reducible refine Gr.alloc ?_ _ | with_reducible refine Gr.gr ?_ _ _ | with_reducible refine Gr.drew ?_ | with_reducible refine Gr.drewN ?_ _)))).2.2 (fun e => by have h9 := hXB _ e.symm; simp only at h9; omega))); obtain ⟨hA1, hA2⟩ := Lst3.app (hW4'.out.trans ((Gr.below (show Gr w4 w4.drew from (Gr.refl w4).drew)).mono hs4)) (show w1.heap.size ≤ w4.drew.heap.size from hs4) ((Lst3.below hO4.out (Gr.below (show Gr w4 w4.drew from (Gr.refl w4).drew))).alloc _) hown' hgrow; have HA1 := Lib.hid hA1; have HA2 := Lib.hid hA2; clear hA1 hA2 hown' hgrow)
          | fail)
        all_goals
          go_wp2
          go_roundw
          case rel => exact ⟨k + 1, by go_num, by omega, HT1, by rw [HT2.out]; exact HA1, HA2⟩
          case measure => simp [intOf]; omega
    · obtain rfl : k = q := by omega
      have e : ws.take k = ws := List.take_of_length_le (by rw [HQ.out]; exact Nat.le_refl _)
      rw [e] at HOK HO
      obtain ⟨Az, cz, rfl, hR⟩ := Lst3.slice HO.out
      obtain ⟨m, hm⟩ : ∃ m, (ws.map fun x => (rpS x).1).length = m := ⟨_, rfl⟩
      have hm2 : m ≤ 16777216 := by rw [← hm, List.length_map, HQ.out]; omega
      rw [hm] at HO ⊢
      have HM := Lib.hid hm
      have HG := Lib.hid (gd_spec Az m cz (ws.map fun x => (rpS x).1) wr hm hm2 hR)
      clear e hR hm
      cases hg : gd (ws.map fun x => (rpS x).1)
      · have HN : Hid (rr = none) := Lib.hid (by rw [HRG.out, hg, Bool.and_false]; rfl)
        rw [hg] at HG
        clear hg
        go_wp2_with fail
        refine (HG.out).mono ?_
        rintro e w4 ⟨rfl, hg4⟩
        go_wp2_with fail
        ((try simp only [Exit.inBlock, Exit.then]); refine bodyPost_ret (v := .tuple #[.slice none 0 0, .int .i64 6]) (by simp [results, Tryd.results16, go_sem]) rfl ?_)
        rw [HN.out]
        exact RgR.no (HBW.out.trans (hg4.below.mono HBW.out.size))
      · have HN : Hid (rr = some (ws.map fun x => (rpS x).1)) := Lib.hid (by rw [HRG.out, hg, HOK.out]; rfl)
        rw [hg] at HG
        clear hg
        go_wp2_with fail
        refine (HG.out).mono ?_
        rintro e w4 ⟨rfl, hg4⟩
        have HO4 := Lib.hid (Lst3.mono (Lst3.below HO.out hg4.below) hb1s)
        go_wp2_with fail
        ((try simp only [Exit.inBlock, Exit.then]); refine bodyPost_ret (v := .tuple #[.slice Az m cz, .int .i64 0]) (by simp [results, Tryd.results16, go_sem]) rfl ?_)
        rw [HN.out]
        have hm := HM.out
        subst hm
        exact ⟨⟨_, rfl, HO4.out⟩, HBW.out.trans (hg4.below.mono HBW.out.size)⟩
end Go.Proofs.YtdbeedfapkfibaaDoor
