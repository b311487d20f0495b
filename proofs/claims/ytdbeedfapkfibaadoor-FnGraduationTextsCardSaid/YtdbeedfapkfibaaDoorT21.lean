/- Contracts: a graduation read from a text, in the program. -/
import Derived.Test.YtdbeedfapkfibaaDoorT20
import Derived.Test.YtdbeedfapkfibaaDoorTA
import Derived.Test.YtdbeedfapkfibaaDoor7A
import Derived.Test.YtdbeedfapkfibaaDoorC07a
namespace Go.Proofs.YtdbeedfapkfibaaDoor
open Go.RowKit Go.ChangeShapes Go.WideShapes Go.ChangeAt
set_option linter.unusedVariables false
set_option linter.unusedSimpArgs false

theorem splitK_size (sep : List UInt8) : ∀ (k : Nat) (l p : List UInt8), p ∈ Lib.splitK sep 0 k l → p.length ≤ l.length
  | 0, l, p, h => by
    have e : p = l := by simpa [Lib.splitK] using h
    rw [e]; exact Nat.le_refl _
  | k + 1, l, p, h => by
    unfold Lib.splitK at h
    split at h
    · have e : p = l := by simpa using h
      rw [e]; exact Nat.le_refl _
    · rcases List.mem_cons.1 h with rfl | h
      · rw [List.length_take]; omega
      · have := splitK_size sep k _ p h
        rw [List.length_drop] at this; omega

/-- The words that the program splits a graduation into, at most 13. -/
def wds (s : ByteArray) : List (List UInt8) := (pcsB s).map (·.data.toList)
theorem wds_eq (s : ByteArray) : wds s = Lib.splitK [32] 0 (min 13 (s.size + 1) - 1) s.data.toList := Lib.splitB_data ⟨#[32]⟩ 0 _ s
theorem wds_pcs (s : ByteArray) : (wds s).length = (pcsB s).length := by unfold wds; rw [List.length_map]
theorem wds_len (s : ByteArray) : (wds s).length ≤ 13 := by
  rw [wds_pcs]
  have := Lib.splitB_length_le ⟨#[32]⟩ 0 (min 13 (s.size + 1) - 1) s
  unfold pcsB
  omega
theorem wds_size (s : ByteArray) (p : List UInt8) (h : p ∈ wds s) : p.length ≤ s.size := by
  rw [wds_eq] at h
  have := splitK_size _ _ _ _ h
  rwa [len_data] at this
theorem wds_cell (s : ByteArray) (cap k : Nat) (p : List UInt8) (h : (wds s)[k]? = some p) : (Lib.cellsOf (pcsB s) cap)[k]? = some (sv p) := by
  unfold wds at h
  rw [List.getElem?_map] at h
  cases hb : (pcsB s)[k]? with
  | none => rw [hb] at h; simp at h
  | some b =>
    rw [hb] at h
    have e : b.data.toList = p := by simpa using h
    have hk : k < (pcsB s).length := (List.getElem?_eq_some_iff.1 hb).1
    unfold Lib.cellsOf
    rw [List.getElem?_toArray, List.getElem?_append_left (by rw [List.length_map]; exact hk), List.getElem?_map, hb]
    show some (Value.string b) = some (sv p)
    rw [← e]
    unfold sv
    simp
theorem rgI_wds (s : ByteArray) : rgI s.data.toList = if ((wds s).all (fun x => (rpI x).2) && gd ((wds s).map fun x => (rpI x).1)) = true then some ((wds s).map fun x => (rpI x).1) else none := by
  by_cases h : 12 < (spB s.data.toList).length
  · have e : rgI s.data.toList = none := by unfold rgI; rw [if_pos h]
    rw [e, if_neg]
    intro hh
    rw [Bool.and_eq_true] at hh
    have g := hh.2
    unfold gd at g
    rw [Bool.and_eq_true] at g
    have g1 := of_decide_eq_true g.1
    rw [List.length_map, wds_pcs] at g1
    have := pcsB_far s h
    omega
  · have e : wds s = spB s.data.toList := by
      rw [wds_eq]
      have hs := spB_length s.data.toList
      rw [len_data] at hs
      exact (splitK_spB (min 13 (s.size + 1) - 1) s.data.toList).1 (by omega)
    rw [e]
    unfold rgI
    rw [if_neg h]
theorem vl_wf {x : Int} (h : vl x = true) : (Lit.int .i64 x).wf = true := by
  have hb := (vl_iff x).1 h
  simp only [Lit.wf, Bool.and_eq_true, decide_eq_true_eq]
  have h1 : (-9223372036854775808 : Int) ≤ x := by omega
  have h2 : x ≤ (9223372036854775807 : Int) := by omega
  exact ⟨h1, h2⟩
theorem rp_wf (ws : List (List UInt8)) (h : ws.all (fun x => (rpI x).2) = true) : Wf3 (ws.map fun x => (rpI x).1) := by
  intro z hz
  obtain ⟨x, hx, rfl⟩ := List.mem_map.1 hz
  have h1 := List.all_eq_true.1 h x hx
  have h2 := rp_iff x
  have h3 := (h2.1.1 h1).2
  have h4 := h2.2 h1
  rw [h4]
  obtain ⟨v1, v2, v3⟩ := h3
  exact ⟨vl_wf v1, vl_wf v2, vl_wf v3⟩

set_option maxHeartbeats 4000000 in
set_option maxRecDepth 100000 in
theorem rg_impl (s : ByteArray) (w : World) (hs : s.size ≤ 1048576) (hE : Errs w) (hT : Tab w) (hsh : w.ShapedOpen Tryd.prog) :
    Calls Tryd.prog 15 #[.string s] w (RgR (rgI s.data.toList) w) := by
  have HE := Lib.hid hE
  have HT := Lib.hid hT
  have HSH := Lib.hid hsh
  clear hE hT hsh
  have HS := Lib.hid (Tryd.strings_SplitN_shaped s ⟨#[32]⟩ 13 w HSH.out (by omega) (by decide) (by omega) (by omega))
  have HPL := Lib.hid (show (Lib.splitB ⟨#[32]⟩ 0 (min 13 (s.size + 1) - 1) s).length = (wds s).length from (wds_pcs s).symm)
  have HRG := Lib.hid (rgI_wds s)
  generalize rgI s.data.toList = rr at *
  have HSZ := Lib.hid (fun p hp => wds_size s p hp)
  have HCC := Lib.hid (fun k p h => wds_cell s (min 13 (s.size + 1)) k p h)
  have HPC := Lib.hid (show Lib.cellsOf (Lib.splitB ⟨#[32]⟩ 0 (min 13 (s.size + 1) - 1) s) (min 13 (s.size + 1)) = Lib.cellsOf (pcsB s) (min 13 (s.size + 1)) from rfl)
  have hlen := wds_len s
  generalize wds s = ws at *
  obtain ⟨n, hn⟩ : ∃ n, ws.length = n := ⟨_, rfl⟩
  rw [hn] at hlen HPL
  have HN := Lib.hid hn
  have HL := Lib.hid (show (ws.map fun x => (rpI x).1).length = n by rw [List.length_map, hn])
  clear hn
  have hmk := mkParts n (by omega)
  go_enter Tryd.func15, Tryd.ntmps15
  go_wp2_with fail
  refine HS.out.mono ?_
  rintro e w1 ⟨rfl, rfl⟩
  rw [HPL.out, HPC.out]
  generalize Lib.cellsOf (pcsB s) (min 13 (s.size + 1)) = cs at *
  have hcell : ∀ k p, ws[k]? = some p → (w.alloc (.cells cs 9)).cell? ⟨w.heap.size, k, none⟩ = some (sv p) := fun k p h => by
    rw [World.cell?_alloc_at _ _ _ _ rfl]; exact HCC.out k p h
  have HCE := Lib.hid hcell
  have hB1 : Below w.heap.size w (w.alloc (.cells cs 9)) := (Below.refl _ _).alloc (Nat.le_refl _) _
  clear hcell HCC
  have hsz1 : (w.alloc (.cells cs 9)).heap.size = w.heap.size + 1 := World.size_alloc ..
  have HZ := Lib.hid hsz1
  clear hsz1
  generalize w.alloc (.cells cs 9) = w1 at *
  have hl0 : w.heap.size < w1.heap.size := by rw [HZ.out]; omega
  go_wp2_with fail
  clear hmk
  go_loopw [17] (fun i wr => ∃ k : Nat, k ≤ n ∧ i = .int .i64 k ∧ Hid ((ws.take k).all (fun x => (rpI x).2) = true) ∧ Row wr w1.heap.size 61 (fill3 (ws.map fun x => (rpI x).1) k) ∧ Below w1.heap.size w1 wr) (fun i _ => n - (intOf i).toNat)
  case atStart => exact ⟨0, by omega, rfl, Lib.hid (by simp), by rw [fill3_zero, HL.out]; exact Row.new w1 _ _, (Below.refl _ _).alloc (Nat.le_refl _) _⟩
  case round =>
    obtain ⟨k, hk, rfl, hok, hrow, hbl⟩ := hrel
    have hBw := hB1.trans (hbl.mono (Nat.le_of_lt hl0))
    by_cases hlt : k < n
    · obtain ⟨p, hp⟩ := some_at (l := ws) (k := k) (by rw [HN.out]; exact hlt)
      have HP := Lib.hid hp
      have hc : wr.cell? ⟨w.heap.size, k, none⟩ = some (.string ⟨p.toArray⟩) := (hbl.cell (p := ⟨w.heap.size, k, none⟩) hl0).trans (HCE.out k p hp)
      have hz : (ws.map fun x => (rpI x).1)[k]? = some (rpI p).1 := by rw [List.getElem?_map, hp]; rfl
      have FS := Lib.hid (fill3_put (ws.map fun x => (rpI x).1) k (rpI p).1 hz)
      have c0 := hrow.cell (k * 3)
      have c1 := hrow.cell (k * 3 + 1)
      have c2 := hrow.cell (k * 3 + 2)
      obtain ⟨q0, q1, q2⟩ := fill3_at (ws.map fun x => (rpI x).1) k (by rw [HL.out]; exact hlt)
      rw [q0] at c0
      rw [q1] at c1
      rw [q2] at c2
      have fr := fun j => hrow.free j
      have lr := hrow.lt
      have hpl := HSZ.out p (List.mem_of_getElem? hp)
      have hC : Calls Tryd.prog 47 #[.string ⟨p.toArray⟩] wr fun e w' => e = .returned (.tuple #[.agg #[.int .i64 (rpI p).1.1, .int .i64 (rpI p).1.2.1, .int .i64 (rpI p).1.2.2], .bool (rpI p).2]) ∧ Gr wr w' :=
        readPart_impl ⟨p.toArray⟩ wr (by show (List.toArray p).size ≤ _; rw [List.size_toArray]; omega) (HE.out.gr (Gr.of_below hBw)) (HT.out.gr (Gr.of_below hBw)) (HSH.out.keptBut ((hBw.mono (Nat.le_refl _)).frame fun _ => False) (fun _ h => h.elim) : World.ShapedOpen Tryd.prog wr)
      clear hp hz q0 q1 q2 hpl
      cases hr : (rpI p).2
      · have HX : Hid (rr = none) := Lib.hid (by
          rw [HRG.out, if_neg]
          intro h
          rw [Bool.and_eq_true, List.all_eq_true] at h
          have := h.1 p (List.mem_of_getElem? HP.out)
          rw [hr] at this
          cases this)
        rw [hr] at hC
        generalize (rpI p).1 = z at *
        obtain ⟨za, zb, zc⟩ := z
        simp only at hC
        clear hr
        go_wp2_with fail
        refine hC.mono ?_
        rintro e w2 ⟨rfl, hg2⟩
        have HB2 := Lib.hid (hBw.trans ((hg2.alloc (.cells #[.int .i64 za, .int .i64 zb, .int .i64 zc] 61)).below.mono hBw.size))
        go_wp2_with fail
        ((try simp only [Exit.inBlock, Exit.then]); refine bodyPost_ret (v := .tuple #[.slice none 0 0, .int .i64 6]) (by simp [results, Tryd.results15, go_sem]) rfl ?_)
        rw [HX.out]
        exact RgR.no HB2.out
      · have HT1 : Hid ((ws.take (k + 1)).all (fun x => (rpI x).2) = true) := Lib.hid (by
          obtain ⟨hh, e⟩ := List.getElem?_eq_some_iff.1 HP.out
          rw [List.take_succ_eq_append_getElem hh, e, List.all_append, hok.out]
          simp [hr])
        rw [hr] at hC
        generalize (rpI p).1 = z at *
        obtain ⟨za, zb, zc⟩ := z
        simp only at hC FS
        clear hr
        go_wp2_with fail
        refine hC.mono ?_
        rintro e w2 ⟨rfl, k2, os2, rfl⟩
        clear hC
        go_wp2_with fail
        go_roundw
        case rel =>
          have X := below_grew (((hbl.setCell (p := ⟨w1.heap.size, k * 3, none⟩) (Nat.le_refl _) (vi za)).setCell (p := ⟨w1.heap.size, k * 3 + 1, none⟩) (Nat.le_refl _) (vi zb)).setCell (p := ⟨w1.heap.size, k * 3 + 2, none⟩) (Nat.le_refl _) (vi zc)) (by simp [World.setCell]; omega) k2 os2
          refine ⟨k + 1, by omega, by go_num, HT1, ?_, X.trans (((Gr.refl _).alloc _).below.mono X.size)⟩
          rw [← FS.out]
          exact (((((hrow.set (k * 3) (vi za)).set (k * 3 + 1) (vi zb)).set (k * 3 + 2) (vi zc)).gr ⟨k2, os2, rfl⟩).gr ((Gr.refl _).alloc (.cells #[.int .i64 za, .int .i64 zb, .int .i64 zc] 61)))
        case measure => simp [intOf]; omega
    · obtain rfl : k = n := by omega
      have e : ws.take k = ws := List.take_of_length_le (by rw [HN.out]; omega)
      rw [e] at hok
      have HF := Lib.hid (fill3_all (ws.map fun x => (rpI x).1))
      rw [HL.out] at HF
      rw [HF.out] at hrow
      have HW := rp_wf ws hok.out
      have hG := gd_impl (some ⟨w1.heap.size, 0, none⟩) k k (ws.map fun x => (rpI x).1) wr HL.out (by omega) hrow.reads HW
      have HB2 := Lib.hid hBw
      have HRW := Lib.hid hrow
      have HG := Lib.hid hG
      clear e HF hG HW hrow hBw hbl
      cases hg : gd (ws.map fun x => (rpI x).1)
      · have HN2 : Hid (rr = none) := Lib.hid (by rw [HRG.out, hg, Bool.and_false]; rfl)
        rw [hg] at HG
        clear hg
        go_wp2_with fail
        refine (HG.out).mono ?_
        rintro e w4 ⟨rfl, hg4⟩
        go_wp2_with fail
        ((try simp only [Exit.inBlock, Exit.then]); refine bodyPost_ret (v := .tuple #[.slice none 0 0, .int .i64 6]) (by simp [results, Tryd.results15, go_sem]) rfl ?_)
        rw [HN2.out]
        exact RgR.no (HB2.out.trans (hg4.below.mono HB2.out.size))
      · have HN2 : Hid (rr = some (ws.map fun x => (rpI x).1)) := Lib.hid (by rw [HRG.out, hg, hok.out]; rfl)
        rw [hg] at HG
        clear hg
        go_wp2_with fail
        refine (HG.out).mono ?_
        rintro e w4 ⟨rfl, hg4⟩
        have HO4 := Lib.hid (Lst3.of_row (cap := k) (rest := []) (Nat.le_of_lt hl0) (by simpa using HRW.out.gr hg4) (by unfold maxLen; omega) (by rw [HL.out]; simp))
        go_wp2_with fail
        ((try simp only [Exit.inBlock, Exit.then]); refine bodyPost_ret (v := .tuple #[.slice (some ⟨w1.heap.size, 0, none⟩) k k, .int .i64 0]) (by simp [results, Tryd.results15, go_sem]) rfl ?_)
        rw [HN2.out]
        have hm := HL.out
        refine ⟨⟨_, rfl, ?_⟩, HB2.out.trans (hg4.below.mono HB2.out.size)⟩
        have h9 := HO4.out
        rw [hm] at h9
        exact h9
end Go.Proofs.YtdbeedfapkfibaaDoor
