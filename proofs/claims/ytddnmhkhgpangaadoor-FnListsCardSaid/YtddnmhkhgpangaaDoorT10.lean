/- Contracts: ReadList in the program. -/
import Derived.Test.YtddnmhkhgpangaaDoorT9
namespace Go.Proofs.YtddnmhkhgpangaaDoor
open Go.RowKit Go.ChangeShapes Go.WideShapes Go.ChangeAt
set_option linter.unusedVariables false
set_option linter.unusedSimpArgs false

/-- A list was read into a block of its own, or none. -/
def RLW (r : Option (List Int)) (w : World) (e : Ending) (w' : World) : Prop :=
  match r with
  | none => e = .returned (.tuple #[.slice none 0 0, .int .i64 6]) ∧ Below w.heap.size w w'
  | some zs => ∃ g, e = .returned (.tuple #[.slice (some ⟨g, 0, none⟩) zs.length zs.length, .int .i64 0]) ∧ w.heap.size ≤ g ∧ Row w' g 2 (zs.map vi) ∧ Below w.heap.size w w'
theorem rlI_dash (l : List UInt8) (h : l = [45]) : rlI l = some [] := if_pos h
theorem rlI_far (l : List UInt8) (h : l ≠ [45]) (hr : 100 < (spl l).length) : rlI l = none := by unfold rlI; rw [if_neg h, if_pos hr]
theorem rlI_num (l : List UInt8) (h : l ≠ [45]) (hr : (spl l).length ≤ 100) : rlI l = numR rvI (spl l) := by unfold rlI; rw [if_neg h, if_neg (by omega)]

/-- The pieces that SplitN makes. -/
def pcs (s : ByteArray) : List ByteArray := Lib.splitB ⟨#[44]⟩ 0 (min 101 (s.size + 1) - 1) s
theorem pcs_far (s : ByteArray) (h : 100 < (spl s.data.toList).length) : 100 < (pcs s).length := by
  have e : (pcs s).map (·.data.toList) = Lib.splitK [44] 0 (min 101 (s.size + 1) - 1) s.data.toList := Lib.splitB_data ⟨#[44]⟩ 0 _ s
  have hl : (pcs s).length = (Lib.splitK [44] 0 (min 101 (s.size + 1) - 1) s.data.toList).length := by rw [← e, List.length_map]
  have hs := spl_length s.data.toList
  rw [len_data] at hs
  obtain ⟨h1, h2⟩ := splitK_spl (min 101 (s.size + 1) - 1) s.data.toList
  by_cases hc : (spl s.data.toList).length ≤ min 101 (s.size + 1) - 1 + 1
  · rw [hl, h1 hc]; exact h
  · rw [hl, h2 (by omega)]; omega
theorem pcs_all (s : ByteArray) (h : (spl s.data.toList).length ≤ 100) : (pcs s).map Value.string = (spl s.data.toList).map sv := by
  have e : (pcs s).map (·.data.toList) = Lib.splitK [44] 0 (min 101 (s.size + 1) - 1) s.data.toList := Lib.splitB_data ⟨#[44]⟩ 0 _ s
  have hs := spl_length s.data.toList
  rw [len_data] at hs
  obtain ⟨h1, -⟩ := splitK_spl (min 101 (s.size + 1) - 1) s.data.toList
  rw [← h1 (by omega), ← e, List.map_map]
  rfl
theorem pcs_len (s : ByteArray) (h : (spl s.data.toList).length ≤ 100) : (pcs s).length = (spl s.data.toList).length := by
  have := congrArg List.length (pcs_all s h)
  rwa [List.length_map, List.length_map] at this

set_option maxHeartbeats 4000000 in
set_option maxRecDepth 100000 in
theorem readList_impl (s : ByteArray) (w : World) (hs : s.size ≤ 1048576) (hE : Errs w) (hT : Tab w) (hsh : w.ShapedOpen Tryd.prog) :
    Calls Tryd.prog 22 #[.string s] w (RLW (rlI s.data.toList) w) := by
  have HE := Lib.hid hE
  have HT := Lib.hid hT
  have HSH := Lib.hid hsh
  clear hE hT hsh
  by_cases h0 : s.data.toList = [45]
  · have HR := Lib.hid (rlI_dash _ h0)
    have hb : (s.toList == [45]) = true := by rw [Lib.toList_data, h0]; rfl
    clear h0
    go_enter Tryd.func22, Tryd.ntmps22
    go_wp2
    go_ret2
    rw [HR.out]
    exact ⟨w.heap.size, rfl, Nat.le_refl _, Row.new w _ [], (Below.refl _ _).alloc (Nat.le_refl _) _⟩
  have H0 := Lib.hid h0
  have hb : (s.toList == [45]) = false := by rw [Lib.toList_data]; simp [h0]
  have HS := Lib.hid (Tryd.strings_SplitN_shaped s ⟨#[44]⟩ 101 w HSH.out (by omega) (by decide) (by omega) (by omega))
  have HPL := Lib.hid (show (Lib.splitB ⟨#[44]⟩ 0 (min 101 (s.size + 1) - 1) s).length = (pcs s).length from rfl)
  clear h0
  by_cases hfar : 100 < (spl s.data.toList).length
  · have HR := Lib.hid (rlI_far _ H0.out hfar)
    have hp := pcs_far s hfar
    clear hfar
    go_enter Tryd.func22, Tryd.ntmps22
    go_wp2_with fail
    refine HS.out.mono ?_
    rintro e w1 ⟨rfl, rfl⟩
    rw [HPL.out]
    generalize (pcs s).length = m at *
    go_wp2_with fail
    go_ret2
    rw [HR.out]
    exact ⟨rfl, (Below.refl _ _).alloc (Nat.le_refl _) _⟩
  · have HR := Lib.hid (rlI_num _ H0.out (by omega))
    have HA := Lib.hid (pcs_all s (by omega))
    have hlen := pcs_len s (by omega)
    have HSP := Lib.hid (spl_size s.data.toList)
    have HLD := Lib.hid (len_data s)
    generalize hws : spl s.data.toList = ws at *
    obtain ⟨n, hn⟩ : ∃ n, ws.length = n := ⟨_, rfl⟩
    rw [hn] at hlen hfar
    have HN := Lib.hid hn
    have HPN := Lib.hid hlen
    have hn100 : n ≤ 100 := by omega
    have HC := Lib.hid (show ∀ k p, ws[k]? = some p → (Lib.cellsOf (pcs s) (min 101 (s.size + 1)))[k]? = some (sv p) from fun k p h => by
      unfold Lib.cellsOf
      rw [HA.out, List.getElem?_toArray, List.getElem?_append_left (by rw [List.length_map]; exact (List.getElem?_eq_some_iff.1 h).1)]
      exact map_at h)
    have HPC := Lib.hid (show Lib.cellsOf (Lib.splitB ⟨#[44]⟩ 0 (min 101 (s.size + 1) - 1) s) (min 101 (s.size + 1)) = Lib.cellsOf (pcs s) (min 101 (s.size + 1)) from rfl)
    clear hws hn hlen hfar
    go_enter Tryd.func22, Tryd.ntmps22
    go_wp2_with fail
    refine HS.out.mono ?_
    rintro e w1 ⟨rfl, rfl⟩
    rw [HPL.out, HPC.out, HPN.out]
    generalize Lib.cellsOf (pcs s) (min 101 (s.size + 1)) = cs at *
    have hcell : ∀ k p, ws[k]? = some p → (w.alloc (.cells cs 9)).cell? ⟨w.heap.size, k, none⟩ = some (sv p) := fun k p h => by
      rw [World.cell?_alloc_at _ _ _ _ rfl]; exact HC.out k p h
    have HCE := Lib.hid hcell
    have hB1 : Below w.heap.size w (w.alloc (.cells cs 9)) := (Below.refl _ _).alloc (Nat.le_refl _) _
    clear hcell
    have hsz1 : (w.alloc (.cells cs 9)).heap.size = w.heap.size + 1 := World.size_alloc ..
    have HZ := Lib.hid hsz1
    clear hsz1
    generalize w.alloc (.cells cs 9) = w1 at *
    have hmk := mkInts n (by omega)
    have hl0 : w.heap.size < w1.heap.size := by rw [HZ.out]; omega
    have HL := Lib.hid (show ((val rvI ws).map vi).length = n by unfold val; rw [List.length_map, List.length_map, HN.out])
    go_wp2_with fail
    clear hmk
    go_loopw [23] (fun i wr => ∃ k : Nat, k ≤ n ∧ i = .int .i64 k ∧ Hid ((ws.take k).all (fun x => (rvI x).2) = true) ∧ Row wr w1.heap.size 2 (fillV ((val rvI ws).map vi) (vi 0) k) ∧ Below w1.heap.size w1 wr) (fun i _ => n - (intOf i).toNat)
    case atStart => exact ⟨0, by omega, rfl, Lib.hid (by simp), by rw [fillV_zero, HL.out]; exact Row.new w1 _ _, (Below.refl _ _).alloc (Nat.le_refl _) _⟩
    case round =>
      obtain ⟨k, hk, rfl, hok, hrow, hbl⟩ := hrel
      have hBw := hB1.trans (hbl.mono (Nat.le_of_lt hl0))
      by_cases hlt : k < n
      · obtain ⟨p, hp⟩ := some_at (l := ws) (k := k) (by rw [HN.out]; exact hlt)
        have HP := Lib.hid hp
        have hk2 : k < ((val rvI ws).map vi).length := by rw [HL.out]; exact hlt
        have hc : wr.cell? ⟨w.heap.size, k, none⟩ = some (.string ⟨p.toArray⟩) := (hbl.cell (p := ⟨w.heap.size, k, none⟩) hl0).trans (HCE.out k p hp)
        have hv : (val rvI ws)[k]? = some (rvI p).1 := by unfold val; rw [List.getElem?_map, hp]; rfl
        have FS := Lib.hid (fillV_put ((val rvI ws).map vi) (vi 0) (vi (rvI p).1) k (map_at hv))
        have c0 := hrow.cell k
        rw [fillV_at _ _ _ hk2] at c0
        have f0 := hrow.free k
        have hlb := hrow.lt
        have hpl := HSP.out p (List.mem_of_getElem? hp)
        rw [HLD.out] at hpl
        have hC : Calls Tryd.prog 38 #[.string ⟨p.toArray⟩] wr fun e w' => e = .returned (.tuple #[.int .i64 (rvI p).1, .bool (rvI p).2]) ∧ Gr wr w' :=
          readValue_impl ⟨p.toArray⟩ wr (by show (List.toArray p).size ≤ _; rw [List.size_toArray]; omega) (HE.out.gr (Gr.of_below hBw)) (HT.out.gr (Gr.of_below hBw))
        clear hp hk2 hv hpl
        cases hr : (rvI p).2
        · have HX := Lib.hid (numR_bad HP.out hr)
          rw [hr] at hC
          clear hr
          go_wp2_with fail
          refine hC.mono ?_
          rintro e w2 ⟨rfl, hg2⟩
          go_wp2_with fail
          go_ret2
          rw [HR.out, HX.out]
          exact ⟨rfl, hBw.trans (hg2.below.mono hBw.size)⟩
        · have HO := Lib.hid (oks_snoc HP.out hok.out hr)
          rw [hr] at hC
          clear hr
          generalize (rvI p).1 = z at *
          go_wp2_with fail
          refine hC.mono ?_
          rintro e w2 ⟨rfl, k2, os2, rfl⟩
          clear hC
          go_wp2_with fail
          go_roundw
          case rel =>
            refine ⟨k + 1, by omega, by go_num, HO, ?_, ?_⟩
            · rw [← FS.out]
              exact (hrow.set k _).gr (Gr.gr (Gr.refl _) _ _)
            · exact (hbl.setCell (p := ⟨w1.heap.size, k, none⟩) (Nat.le_refl _) _).trans ((Gr.gr (Gr.refl _) _ _).below.mono (by have := hbl.size; simp; omega))
          case measure => simp [intOf]; omega
      · obtain rfl : k = n := by omega
        have e : ws.take k = ws := List.take_of_length_le (by rw [HN.out]; omega)
        have HX := Lib.hid (show numR rvI ws = some (val rvI ws) from numR_all (by have := hok.out; rwa [e] at this))
        have HF := Lib.hid (fillV_all ((val rvI ws).map vi) (vi 0))
        rw [HL.out] at HF
        have HVL := Lib.hid (show (val rvI ws).length = k by unfold val; rw [List.length_map, HN.out])
        clear e
        go_wp2_with fail
        go_ret2
        rw [HR.out, HX.out]
        exact ⟨w1.heap.size, by rw [HVL.out]; rfl, Nat.le_of_lt hl0, by rw [← HF.out]; exact hrow, hBw⟩
end Go.Proofs.YtddnmhkhgpangaaDoor
