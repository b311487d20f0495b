/- Chains read, in the program: sign by sign. -/
import Derived.Test.YtphebmbapllinaaDoorT40
import Derived.Test.YtphebmbapllinaaDoorTA
import Derived.Test.YtphebmbapllinaaDoorIa
import Derived.Test.YtphebmbapllinaaDoorLw
namespace Go.Proofs.YtphebmbapllinaaDoor
open Go.RowKit
set_option linter.unusedVariables false
set_option linter.unusedSimpArgs false

/-- What the program reads of a figure's text, as a list of bytes. -/
def rdI (l : List UInt8) : (Int × Int) × Int := rfT ⟨l.toArray⟩ (rf2 (rvI (rfx ⟨l.toArray⟩)) (rvI (rfy ⟨l.toArray⟩)))
def rdS (l : List UInt8) : (Int × Int) × Int := rfT ⟨l.toArray⟩ (rf2 (rdv (rfx ⟨l.toArray⟩)) (rds (rfy ⟨l.toArray⟩)))
theorem rdI_rdS (l : List UInt8) : rdI l = rdS l := by unfold rdI rdS; rw [rf2_same]
theorem ia_signs (l : List UInt8) : (sufS l = [] → Lib.indexAny l [42, 47] = -1 ∧ (preS l).length = l.length) ∧ (sufS l ≠ [] → Lib.indexAny l [42, 47] = ((preS l).length : Int) ∧ (preS l).length < l.length) := by
  induction l with
  | nil => exact ⟨fun _ => ⟨rfl, rfl⟩, fun h => absurd rfl h⟩
  | cons x l ih =>
    have hc : ([42, 47] : List UInt8).contains x = isSg x := by
      unfold isSg
      simp only [List.contains, List.elem]
      cases (x == 42) <;> cases (x == 47) <;> rfl
    have hi : Lib.indexAny (x :: l) [42, 47] = if ([42, 47] : List UInt8).contains x then 0 else if Lib.indexAny l [42, 47] == -1 then -1 else Lib.indexAny l [42, 47] + 1 := rfl
    rw [hi, hc]
    unfold preS sufS at *
    rw [List.takeWhile_cons, List.dropWhile_cons]
    cases hx : isSg x with
    | true => exact ⟨fun h => by simp at h, fun _ => by simp⟩
    | false =>
      simp only [Bool.not_false, if_true, Bool.false_eq_true, if_false]
      refine ⟨fun h => ?_, fun h => ?_⟩
      · obtain ⟨h1, h2⟩ := ih.1 h
        rw [h1]
        exact ⟨rfl, by simp [h2]⟩
      · obtain ⟨h1, h2⟩ := ih.2 h
        rw [h1, if_neg (by simp)]
        exact ⟨by simp, by simpa using h2⟩
set_option maxHeartbeats 1000000 in
theorem signAfter_any (t : ByteArray) (k : Nat) (w : World) (hs : t.size ≤ 2000000) (hk : k ≤ t.size) :
    Calls Tryd.prog 43 #[.string t, .int .i64 k] w fun e w' => e = .returned (.int .i64 ((k + (preS (t.data.toList.drop k)).length : Nat) : Int)) ∧ Gr w w' := by
  have hd : (t.extract k t.size).data.toList = t.data.toList.drop k := by
    rw [ext_data, List.take_of_length_le (by rw [← Lib.size_eq]; exact Nat.le_refl _)]
  have hz : (t.extract k t.size).size ≤ 2000000 := by rw [ByteArray.size_extract]; omega
  have HI := Lib.hid (fun W => (show Calls Tryd.prog 55 #[.string (t.extract k t.size), .string ⟨#[42, 47]⟩] W (fun e w' => e = .returned (.int .i64 (Lib.indexAny (t.data.toList.drop k) [42, 47])) ∧ Gr W w') by rw [← hd]; exact idxAny_any _ W (by omega)))
  have hlen : (t.data.toList.drop k).length = t.size - k := by rw [List.length_drop, ← Lib.size_eq]
  obtain ⟨h1, h2⟩ := ia_signs (t.data.toList.drop k)
  rw [hlen] at h1 h2
  by_cases hsf : sufS (t.data.toList.drop k) = []
  · obtain ⟨e1, e2⟩ := h1 hsf
    clear h1 h2 hd hz hlen
    rw [e1] at HI
    rw [e2]
    go_enter Tryd.func43, Tryd.ntmps43
    go_wp2_with fail
    refine (HI.out _).mono ?_
    rintro e w1 ⟨rfl, hg⟩
    go_wp2_with fail
    go_ret
    exact ⟨by rw [show k + (t.size - k) = t.size by omega]; rfl, hg⟩
  · obtain ⟨e1, e2⟩ := h2 hsf
    clear h1 h2 hd hz hlen
    rw [e1] at HI
    generalize (preS (t.data.toList.drop k)).length = q at *
    have hq : ¬ (q : Int) < 0 := by omega
    have hw : IntKind.i64.wrap ((k : Int) + (q : Int)) = ((k + q : Nat) : Int) := (IntWalk.i64_in _ (by omega)).trans (by omega)
    go_enter Tryd.func43, Tryd.ntmps43
    go_wp2_with fail
    refine (HI.out _).mono ?_
    rintro e w1 ⟨rfl, hg⟩
    go_wp2_with fail
    go_ret
    exact ⟨rfl, hg⟩
theorem reader_made (t : ByteArray) (w : World) :
    Calls Tryd.prog 29 #[.string t] w fun e w' => e = .returned (.func (.func 41) #[] #[.pointer (some ⟨w.heap.size, 0, none⟩), .pointer (some ⟨w.heap.size + 1, 0, none⟩)]) ∧ w' = (w.alloc (.cells #[.string t] 9)).alloc (.cells #[.int .i64 0] 3) := by
  go_enter Tryd.func29, Tryd.ntmps29
  go_wp2_with fail
  go_ret
  exact ⟨rfl, rfl⟩
theorem Blk.cell1 {w : World} {g : Nat} {t : TypeId} {x : Value} (h : Blk w g t #[x]) : w.cell? ⟨g, 0, none⟩ = some x ∧ ∀ i, w.frozen? ⟨g, i, none⟩ = false := by
  have c0 := cell_of_row w g 0 _ _ _ h
  simp at c0
  exact ⟨c0, fun i => free_row h i⟩
theorem Gx.newer {g : Nat} {w w' : World} (h : Gx g w w') {b : Nat} (hb : w.heap.size ≤ b) (i : Nat) (x : Value) : Gx g w (w'.setCell ⟨b, i, none⟩ x) :=
  ⟨h.os, h.tape, h.output, by rw [World.size_setCell]; exact h.size, fun k hk hn => (heap_setCell_other w' ⟨b, i, none⟩ k x (by show k ≠ b; omega)).trans (h.block k hk hn)⟩
theorem slash_pre (c : UInt8) (r : List UInt8) : Lib.hasPrefix (c :: r) [47] = (c == 47) := by
  simp only [Lib.hasPrefix, List.isPrefixOf, Bool.and_true]
  cases h : (c == 47) with
  | true => rw [beq_iff_eq] at h; subst h; rfl
  | false => rw [beq_eq_false_iff_ne] at h ⊢; exact fun e => h e.symm
theorem suf_len (r : List UInt8) : (sufS r).length + (preS r).length = r.length := by
  have := congrArg List.length (pre_suf r)
  rw [List.length_append] at this
  omega
set_option maxHeartbeats 4000000 in
set_option maxRecDepth 100000 in
/-- The term at a sign is read, and the place moves on to the next one. -/
theorem reader_any (t : ByteArray) (k bt bp : Nat) (c : UInt8) (r : List UInt8) (u w : World) (hE : Errs u) (hT : Tab u) (hU : Below u.heap.size u w) (hub : u.heap.size ≤ bp) (hs : t.size ≤ 2000000) (hl : t.data.toList.drop k = c :: r)
    (hTx : Blk w bt 9 #[.string t]) (hPl : Blk w bp 3 #[.int .i64 k]) (hne : bt ≠ bp) :
    Calls Tryd.prog 41 #[.pointer (some ⟨bt, 0, none⟩), .pointer (some ⟨bp, 0, none⟩)] w fun e w' => e = .returned (.tuple #[.agg #[.int .i64 (rdI (preS r)).1.1, .int .i64 (rdI (preS r)).1.2, .bool (c == 47)], .bool (decide (k + 1 + (preS r).length < t.size)), .bool ((rdI (preS r)).2 == 0)]) ∧
      Gx bp w w' ∧ Blk w' bp 3 #[.int .i64 ((k + 1 + (preS r).length : Nat) : Int)] := by
  have hkl : k + (r.length + 1) = t.size := by
    have := congrArg List.length hl
    rw [List.length_drop, ← Lib.size_eq, List.length_cons] at this
    omega
  have hd : (t.extract k t.size).data.toList = c :: r := by
    rw [ext_data, List.take_of_length_le (by rw [← Lib.size_eq]; exact Nat.le_refl _), hl]
  have hd1 : t.data.toList.drop (k + 1) = r := by
    rw [← List.drop_drop, hl]; rfl
  have hpl := suf_len r
  have hfig : t.extract (k + 1) (k + 1 + (preS r).length) = ⟨(preS r).toArray⟩ := by
    apply ByteArray.ext
    apply Array.ext'
    rw [ext_data, List.drop_take, hd1, show k + 1 + (preS r).length - (k + 1) = (preS r).length by omega]
    show _ = preS r
    calc r.take (preS r).length = (preS r ++ sufS r).take (preS r).length := by rw [pre_suf]
      _ = preS r := List.take_left
  have HP := Lib.hid (fun W => show Calls Tryd.prog 42 #[.string (t.extract k t.size), .string ⟨#[47]⟩] W (fun e w' => e = .returned (.bool (c == 47)) ∧ w' = W) from (Tryd.strings_HasPrefix (t.extract k t.size) ⟨#[47]⟩ W).mono (by rintro e w' ⟨rfl, h⟩; exact ⟨by rw [hd]; rw [show (⟨#[47]⟩ : ByteArray).data.toList = [47] from rfl, slash_pre], h⟩))
  have HS := Lib.hid (fun W => signAfter_any t (k + 1) W hs (by omega))
  rw [hd1] at HS
  have hpz : (⟨(preS r).toArray⟩ : ByteArray).size ≤ 281474976710656 := by show (preS r).toArray.size ≤ _; rw [List.size_toArray]; omega
  have HF := Lib.hid (fun W hE hT => show Calls Tryd.prog 44 #[.string ⟨(preS r).toArray⟩] W (fun e w' => e = .returned (.tuple #[.agg #[.int .i64 (rdI (preS r)).1.1, .int .i64 (rdI (preS r)).1.2], .int .i64 (rdI (preS r)).2]) ∧ Gr W w') from readFigure_impl ⟨(preS r).toArray⟩ W hpz hE hT)
  have HE := Lib.hid hE
  have HT := Lib.hid hT
  have HX := Lib.hid hfig
  clear hE hT hd hl hd1 hfig hpz
  have hw1 : IntKind.i64.wrap ((k : Int) + 1) = ((k + 1 : Nat) : Int) := (IntWalk.i64_in _ (by omega)).trans (by omega)
  generalize rdI (preS r) = F at *
  obtain ⟨⟨fd, ft⟩, fc⟩ := F
  simp only at HF
  generalize (preS r).length = q at *
  generalize hk1 : k + 1 = k1 at *
  generalize hk2 : k1 + q = k2 at *
  have B0 := Blk.new w 45 #[.int .i64 0, .int .i64 0, .bool false]
  have hTx0 := hTx.alloc (.cells #[.int .i64 0, .int .i64 0, .bool false] 45)
  have hPl0 := hPl.alloc (.cells #[.int .i64 0, .int .i64 0, .bool false] 45)
  have hbt := hTx.lt
  have hbp := hPl.lt
  have hG0 : Gr w (w.alloc (.cells #[.int .i64 0, .int .i64 0, .bool false] 45)) := (by repeat (first | with_reducible exact Gr.refl _ | with_reducible refine Gr.alloc ?_ _ | with_reducible refine Gr.gr ?_ _ _ | with_reducible refine Gr.drew ?_ | with_reducible refine Gr.drewN ?_ _))
  have hq0 : (k1 : Int) ≤ (k2 : Int) := by omega
  have hq1 : (k2 : Int) ≤ (t.size : Int) := by omega
  go_enter Tryd.func41, Tryd.ntmps41
  obtain ⟨x0, -⟩ := Blk.cell1 hTx0
  obtain ⟨p0, -⟩ := Blk.cell1 hPl0
  go_wp2_with fail
  generalize (w.alloc (.cells #[.int .i64 0, .int .i64 0, .bool false] 45)) = v at *
  refine (HP.out _).mono ?_
  rintro e w1 ⟨rfl, rfl⟩
  go_wp2_with fail
  refine (HS.out _).mono ?_
  rintro e w2 ⟨rfl, hg2⟩
  have hTx2 := hTx0.gr hg2
  have hPl2 := hPl0.gr hg2
  have B2 := B0.gr hg2
  have hG2 := hG0.trans hg2
  clear hTx0 hPl0 B0 hG0 hg2 x0 p0
  obtain ⟨x2, -⟩ := Blk.cell1 hTx2
  obtain ⟨p2, f2⟩ := Blk.cell1 hPl2
  have hTx3 := hTx2.far (a := ⟨bp, 0, none⟩) (by exact fun e => hne e.symm) (.int .i64 (k2 : Int))
  have hPl3 := hPl2.set 0 (.int .i64 (k2 : Int))
  have B3 := B2.far (a := ⟨bp, 0, none⟩) (by show bp ≠ w.heap.size; omega) (.int .i64 (k2 : Int))
  have hX3 := (Gx.of (g := bp) hG2).set 0 (.int .i64 (k2 : Int))
  obtain ⟨x3, -⟩ := Blk.cell1 hTx3
  obtain ⟨p3, -⟩ := Blk.cell1 hPl3
  have fz := f2 0
  go_wp2_with fail
  rw [HX.out]
  have hU3 := hU.trans (hX3.below (B := u.heap.size) hub hU.size)
  refine (HF.out _ (HE.out.gr (Gr.of_below hU3)) (HT.out.later hU3)).mono ?_
  rintro e w4 ⟨rfl, hg4⟩
  have hTx4 := hTx3.gr hg4
  have hPl4 := hPl3.gr hg4
  have B4 := B3.gr hg4
  have hX4 := hX3.trans (Gx.of hg4)
  clear hTx2 hPl2 B2 hG2 x2 p2 f2 fz x3 p3 hTx3 hPl3 B3 hX3 hU3 hg4
  generalize (w2.setCell ⟨bp, 0, none⟩ (.int .i64 (k2 : Int))) = v3 at *
  have l4 := B4.lt
  have C5 := Blk.new w4 43 #[.int .i64 fd, .int .i64 ft]
  have hG5 : Gr w4 (w4.alloc (.cells #[.int .i64 fd, .int .i64 ft] 43)) := (by repeat (first | with_reducible exact Gr.refl _ | with_reducible refine Gr.alloc ?_ _ | with_reducible refine Gr.gr ?_ _ _ | with_reducible refine Gr.drew ?_ | with_reducible refine Gr.drewN ?_ _))
  have hTx5 := hTx4.gr hG5
  have hPl5 := hPl4.gr hG5
  have B5 := B4.gr hG5
  have hX5 := hX4.trans (Gx.of hG5)
  clear hTx4 hPl4 B4 hX4 hG5
  go_wp2_with fail
  generalize hv5 : (w4.alloc (.cells #[.int .i64 fd, .int .i64 ft] 43)) = v5 at *
  clear hv5
  obtain ⟨x5, -⟩ := Blk.cell1 hTx5
  obtain ⟨p5, -⟩ := Blk.cell1 hPl5
  obtain ⟨c50, c51, -⟩ := C5.two
  obtain ⟨b50, b51, b52, b5f⟩ := Blk.trioT B5
  have B6 : Blk (((v5.setCell ⟨w.heap.size, 0, none⟩ (.int .i64 fd)).setCell ⟨w.heap.size, 1, none⟩ (.int .i64 ft)).setCell ⟨w.heap.size, 2, none⟩ (.bool (c == 47))) w.heap.size 45 #[.int .i64 fd, .int .i64 ft, .bool (c == 47)] := ((B5.set 0 (.int .i64 fd)).set 1 (.int .i64 ft)).set 2 (.bool (c == 47))
  have hPl6 := ((hPl5.far (a := ⟨w.heap.size, 0, none⟩) (by show w.heap.size ≠ bp; omega) (.int .i64 fd)).far (a := ⟨w.heap.size, 1, none⟩) (by show w.heap.size ≠ bp; omega) (.int .i64 ft)).far (a := ⟨w.heap.size, 2, none⟩) (by show w.heap.size ≠ bp; omega) (.bool (c == 47))
  have hX6 := ((hX5.newer (Nat.le_refl _) 0 (.int .i64 fd)).newer (Nat.le_refl _) 1 (.int .i64 ft)).newer (Nat.le_refl _) 2 (.bool (c == 47))
  go_region
  clear x5 p5 c50 c51 b50 b51 b52 b5f B5 hPl5 hX5 hTx5 C5
  generalize (((v5.setCell ⟨w.heap.size, 0, none⟩ (.int .i64 fd)).setCell ⟨w.heap.size, 1, none⟩ (.int .i64 ft)).setCell ⟨w.heap.size, 2, none⟩ (.bool (c == 47))) = w6 at *
  have hG7 : Gr w6 w6.drew := (by repeat (first | with_reducible exact Gr.refl _ | with_reducible refine Gr.alloc ?_ _ | with_reducible refine Gr.gr ?_ _ _ | with_reducible refine Gr.drew ?_ | with_reducible refine Gr.drewN ?_ _))
  have B7 := B6.gr hG7
  have hPl7 := hPl6.gr hG7
  have hX7 := hX6.trans (Gx.of hG7)
  clear B6 hPl6 hX6 hG7
  generalize w6.drew = w7 at *
  obtain ⟨d0, d1, d2, -⟩ := Blk.trioT B7
  go_wp2
  ((try simp only [Exit.inBlock, Exit.then]); refine bodyPost_ret (v := .tuple #[.agg #[.int .i64 fd, .int .i64 ft, .bool (c == 47)], .bool (decide (k2 < t.size)), .bool (fc == 0)]) (by simp [results, Tryd.results41, go_sem, d0, d1, d2, World.cell?_setCell_same']) rfl ?_)
  exact ⟨rfl, hX7, hPl7⟩
end Go.Proofs.YtphebmbapllinaaDoor
