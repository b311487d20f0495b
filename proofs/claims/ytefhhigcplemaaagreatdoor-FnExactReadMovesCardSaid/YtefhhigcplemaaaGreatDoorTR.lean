/- Plain mathematics, merged. -/
import Derived.Test.YtefhhigcplemaaaGreatDoorTT
import Derived.Test.YtefhhigcplemaaaGreatDoorTA
import Derived.Test.YtefhhigcplemaaaGreatDoorTD
import Derived.Test.YtefhhigcplemaaaGreatDoorDs
/- Contracts: names of scales read, in the model and in the program. -/
namespace Go.Proofs.YtefhhigcplemaaaGreatDoor
open Go.RowKit Go.ChangeShapes Go.WideShapes Go.ChangeAt
set_option linter.unusedVariables false
set_option linter.unusedSimpArgs false

/-- What a piece spells of a scale. -/
def scF (p : List UInt8) : Int × Bool := ((rsR ⟨p.toArray⟩).1, decide ((rsR ⟨p.toArray⟩).2 = 0))
theorem scF_yes {p : List UInt8} (h : (rsR ⟨p.toArray⟩).2 = 0) : (scF p).2 = true := decide_eq_true h
theorem scF_no {p : List UInt8} (h : (rsR ⟨p.toArray⟩).2 ≠ 0) : (scF p).2 = false := decide_eq_false h
/-- Scales were read into a block of the call's own, or none. -/
def RnN (r : Option (List Int)) (w : World) (e : Ending) (w' : World) : Prop :=
  match r with
  | none => e = .returned (.tuple #[.slice none 0 0, .bool false]) ∧ Below w.heap.size w w'
  | some zs => ∃ (g cap : Nat) (rest : List Value), e = .returned (.tuple #[.slice (some ⟨g, 0, none⟩) zs.length cap, .bool true]) ∧ zs.length ≤ cap ∧ w.heap.size ≤ g ∧ Row w' g 2 (zs.map vi ++ rest) ∧ Below w.heap.size w w'
theorem Owns.cap {w : World} {base : Nat} {t : TypeId} {v : Value} {xs : List Value} (h : Owns w base t v xs) : ∃ (g cap : Nat) (rest : List Value), v = .slice (some ⟨g, 0, none⟩) xs.length cap ∧ xs.length ≤ cap ∧ base ≤ g ∧ Row w g t (xs ++ rest) := by
  obtain ⟨g, cap, e, h1, h2, h3⟩ := h.reads
  rcases h.1.2 with ⟨e0, -⟩ | ⟨g', cap', cur, e0, hB, hg, hn, hc, hs, ht⟩
  · rw [e] at e0; cases e0
  · rw [e] at e0; cases e0
    refine ⟨g, cap, cur.toList.drop (xs.length * 1), e, hn, h1, ?_⟩
    unfold Row
    have e2 : xs ++ cur.toList.drop (xs.length * 1) = cur.toList := by
      have h5 := List.take_append_drop (xs.length * 1) cur.toList
      rw [ht] at h5
      exact h5
    rw [e2]
    simpa using hg
theorem Row.readsL {w : World} {g : Nat} {t : TypeId} {xs rest : List Value} (h : Row w g t (xs ++ rest)) : Reads w w.heap.size (some ⟨g, 0, none⟩) xs := by
  intro k hk
  obtain ⟨g2, o, e, h1, h2⟩ := h.reads k (by rw [List.length_append]; omega)
  refine ⟨g2, o, e, h1, ?_⟩
  rw [h2, List.getElem_append_left hk]

set_option maxHeartbeats 4000000 in
set_option maxRecDepth 100000 in
theorem names11_read (s : ByteArray) (w : World) (hs : s.size ≤ 1048576) :
    Calls Tryz.prog 99 #[.string s] w (RnN (numR scF (spl s.data.toList)) w) := by
  obtain ⟨i0, hi, hz0, hz1, hz2⟩ := info_parts info_int
  have HLD := Lib.hid (len_data s)
  go_enter Tryz.func99, Tryz.ntmps99
  go_wp2_with fail
  refine (split_spec s w hs).mono ?_
  have HSL := Lib.hid (spl_length s.data.toList)
  generalize spl s.data.toList = ws at *
  rintro e w1 ⟨u, rfl, hown0, hb0⟩
  obtain ⟨gw, cw, rfl, hgw1, hgw2, hA⟩ := hown0.reads
  obtain ⟨n, hn⟩ : ∃ n, ws.length = n := ⟨_, rfl⟩
  rw [List.length_map, hn]
  have HN := Lib.hid hn
  have hN : n ≤ 1048577 := by have := HSL.out; rw [HLD.out] at this; omega
  have HB0 := Lib.hid hb0
  have hb0s := hb0.size
  clear hown0 hn hb0 hs
  go_wp2_with fail
  go_loopw [5, 6] (fun v i wr => ∃ k : Nat, k ≤ n ∧ i = .int .i64 k ∧ Hid ((ws.take k).all (fun x => (scF x).2) = true) ∧ Owns wr w1.heap.size 2 v ((val scF (ws.take k)).map vi) ∧ Below w1.heap.size w1 wr) (fun _ i _ => n - (intOf i).toNat)
  case atStart => exact ⟨0, by omega, rfl, Lib.hid (by simp), by simpa [val] using Owns.new w1 _ _ (Nat.le_refl _), (Below.refl _ _).alloc (Nat.le_refl _) _⟩
  case round =>
    obtain ⟨k, hk, rfl, hok, hown, hb⟩ := hrel
    by_cases hlt : k < n
    · obtain ⟨p, hp⟩ := some_at (l := ws) (k := k) (by rw [HN.out]; exact hlt)
      obtain ⟨g, o, eA, hg, hc⟩ := hA.at_ (map_at hp)
      cases eA
      have hc' : wr.cell? ⟨gw, 0 + k, none⟩ = some (.string ⟨p.toArray⟩) := (hb.cell (p := ⟨gw, 0 + k, none⟩) hg).trans hc
      rw [Nat.zero_add] at hc'
      have HP := Lib.hid hp
      have hC := fun w => rsR_spec ⟨p.toArray⟩ w
      have HL := Lib.hid (show ((val scF (ws.take k)).map vi).length = k by
        unfold val
        rw [List.length_map, List.length_map, List.length_take, HN.out]; omega)
      clear hp hc
      have HF := Lib.hid (show (scF p).1 = (rsR ⟨p.toArray⟩).1 from rfl)
      by_cases hr : (rsR ⟨p.toArray⟩).2 = 0
      rotate_left
      · have HR := Lib.hid (numR_bad HP.out (scF_no hr))
        have hr0 : ((rsR ⟨p.toArray⟩).2 == 0) = false := by simpa using hr
        generalize (rsR ⟨p.toArray⟩).2 = zc at *
        generalize (rsR ⟨p.toArray⟩).1 = z at *
        clear hr
        go_wp2_with fail
        refine (hC _).mono ?_
        rintro e w2 ⟨rfl, hg1⟩
        go_wp2_with fail
        go_ret2
        rw [HR.out]
        exact ⟨rfl, HB0.out.trans ((hb.trans (hg1.below.mono hb.size)).mono hb0s)⟩
      · have HO := Lib.hid (oks_snoc HP.out hok.out (scF_yes hr))
        have HV := Lib.hid (val_snoc (f := scF) HP.out)
        rw [hr] at hC
        rw [HF.out] at HV
        clear hr HF
        generalize (rsR ⟨p.toArray⟩).1 = z at *
        go_wp2_with fail
        refine (hC _).mono ?_
        rintro e w2 ⟨rfl, hg1⟩
        have hb1 := hb.trans (hg1.below.mono hb.size)
        have hown1 : Owns w2 w1.heap.size 2 u5 ((val scF (ws.take k)).map vi) := by
          obtain ⟨h1, h2⟩ := hown
          exact ⟨h1.kept ⟨hg1.below.os, hg1.below.tape, hg1.below.output, hg1.below.size, fun k hk _ => hg1.below.block k hk⟩ (row := none) (by cases u5.ownBlock <;> simp), h2⟩
        clear hC hg1 hown hb
        have hrow := hown1.1
        have HW := Lib.hid hown1
        clear hown1
        go_wp2_with (at_builtin; refine wpList_append_own _ rfl _ _ 24 rfl w1.heap.size 2 i0 (.int .i64 0) 1 8 Tryz.underlying24 hi hz0 hz1 hz2 rfl (by decide) _ _ _ rfl (hrow.alloc _) ⟨w2.heap.size, 0, none⟩ 1 1 [.int .i64 z] rfl rfl (cell_one_new _ _ _) (by simp [Value.oneCell']) (by rw [HL.out]; unfold maxLen; omega) (by rw [HL.out]; omega) (by have := hb1.size; simp; omega) ?_; intro v' w2 hown' hgrow _)
        have hA2 := HW.out.app hb1 hown' hgrow
        have HA := Lib.hid hA2
        clear hA2 hown' hgrow hrow
        go_wp2_with fail
        go_roundw
        case rel => exact ⟨k + 1, by omega, by go_num, HO, by rw [HV.out, List.map_append]; exact HA.out.1, HA.out.2⟩
        case measure => simp [intOf]; omega
    · obtain rfl : k = n := by omega
      have e : ws.take k = ws := List.take_of_length_le (by rw [HN.out]; omega)
      have HR := Lib.hid (show numR scF ws = some (val scF ws) from numR_all (by have := hok.out; rwa [e] at this))
      rw [e] at hown
      clear e
      have HVL := Lib.hid (show (val scF ws).length = k by unfold val; rw [List.length_map, HN.out])
      obtain ⟨g3, c3, rest, rfl, hg31, hg32, hg33⟩ := hown.cap
      clear hown
      rw [List.length_map, HVL.out] at hg31 ⊢
      go_wp2_with fail
      go_ret2
      rw [HR.out]
      exact ⟨g3, c3, rest, by rw [HVL.out]; rfl, by rw [HVL.out]; exact hg31, Nat.le_trans hb0s hg32, hg33, HB0.out.trans (hb.mono hb0s)⟩

/-- Pieces that the program splits a text into, at most m. -/
def pcN (c : UInt8) (m : Nat) (s : ByteArray) : List ByteArray := Lib.splitB ⟨#[c]⟩ 0 (min m (s.size + 1) - 1) s
def wdN (c : UInt8) (m : Nat) (s : ByteArray) : List (List UInt8) := (pcN c m s).map (·.data.toList)
theorem wdN_eq (c : UInt8) (m : Nat) (s : ByteArray) : wdN c m s = Lib.splitK [c] 0 (min m (s.size + 1) - 1) s.data.toList := Lib.splitB_data ⟨#[c]⟩ 0 _ s
theorem wdN_pcs (c : UInt8) (m : Nat) (s : ByteArray) : (wdN c m s).length = (pcN c m s).length := by unfold wdN; rw [List.length_map]
theorem wdN_len (c : UInt8) (m : Nat) (s : ByteArray) (hm : 1 ≤ m) : (wdN c m s).length ≤ m := by
  rw [wdN_pcs]
  have := Lib.splitB_length_le ⟨#[c]⟩ 0 (min m (s.size + 1) - 1) s
  unfold pcN
  omega
theorem splitN_size (sep : List UInt8) : ∀ (k : Nat) (l p : List UInt8), p ∈ Lib.splitK sep 0 k l → p.length ≤ l.length
  | 0, l, p, h => by
    have e : p = l := by simpa [Lib.splitK] using h
    rw [e]; exact Nat.le_refl _
  | k + 1, l, p, h => by
    unfold Lib.splitK at h
    split at h
    · have e : p = l := by simpa using h
      rw [e]; exact Nat.le_refl _
    · rcases List.mem_cons.1 h with rfl | h
      · rw [List.length_take]; omega
      · have := splitN_size sep k _ p h
        rw [List.length_drop] at this; omega
theorem wdN_size (c : UInt8) (m : Nat) (s : ByteArray) (p : List UInt8) (h : p ∈ wdN c m s) : p.length ≤ s.size := by
  rw [wdN_eq] at h
  have := splitN_size _ _ _ _ h
  rwa [len_data] at this
theorem wdN_cell (c : UInt8) (m : Nat) (s : ByteArray) (cap k : Nat) (p : List UInt8) (h : (wdN c m s)[k]? = some p) : (Lib.cellsOf (pcN c m s) cap)[k]? = some (sv p) := by
  unfold wdN at h
  rw [List.getElem?_map] at h
  cases hb : (pcN c m s)[k]? with
  | none => rw [hb] at h; simp at h
  | some b =>
    rw [hb] at h
    have e : b.data.toList = p := by simpa using h
    have hk : k < (pcN c m s).length := (List.getElem?_eq_some_iff.1 hb).1
    unfold Lib.cellsOf
    rw [List.getElem?_toArray, List.getElem?_append_left (by rw [List.length_map]; exact hk), List.getElem?_map, hb]
    show some (Value.string b) = some (sv p)
    rw [← e]
    unfold sv
    simp

set_option maxHeartbeats 4000000 in
set_option maxRecDepth 100000 in
theorem readScales_impl (s : ByteArray) (w : World) (hs : s.size ≤ 1048576) (hM : Nms w) (hsh : w.ShapedOpen Tryz.prog) :
    Calls Tryz.prog 97 #[.string s] w (RnN (numR scF (wdN 44 7 s)) w) := by
  have HM := Lib.hid hM
  have HSH := Lib.hid hsh
  clear hM hsh
  have HS := Lib.hid (Tryz.strings_SplitN_shaped s ⟨#[44]⟩ 7 w HSH.out (by omega) (by decide) (by omega) (by omega))
  have HPL := Lib.hid (show (Lib.splitB ⟨#[44]⟩ 0 (min 7 (s.size + 1) - 1) s).length = (wdN 44 7 s).length from (wdN_pcs 44 7 s).symm)
  have HCC := Lib.hid (fun k p h => wdN_cell 44 7 s (min 7 (s.size + 1)) k p h)
  have HPC := Lib.hid (show Lib.cellsOf (Lib.splitB ⟨#[44]⟩ 0 (min 7 (s.size + 1) - 1) s) (min 7 (s.size + 1)) = Lib.cellsOf (pcN 44 7 s) (min 7 (s.size + 1)) from rfl)
  have hlen := wdN_len 44 7 s (by omega)
  generalize wdN 44 7 s = ws at *
  obtain ⟨n, hn⟩ : ∃ n, ws.length = n := ⟨_, rfl⟩
  rw [hn] at hlen HPL
  have HN := Lib.hid hn
  clear hn
  go_enter Tryz.func97, Tryz.ntmps97
  go_wp2_with fail
  refine HS.out.mono ?_
  rintro e w1 ⟨rfl, rfl⟩
  rw [HPL.out, HPC.out]
  generalize Lib.cellsOf (pcN 44 7 s) (min 7 (s.size + 1)) = cs at *
  have hcell : ∀ k p, ws[k]? = some p → (w.alloc (.cells cs 9)).cell? ⟨w.heap.size, k, none⟩ = some (sv p) := fun k p h => by
    rw [World.cell?_alloc_at _ _ _ _ rfl]; exact HCC.out k p h
  have HCE := Lib.hid hcell
  have hB1 : Below w.heap.size w (w.alloc (.cells cs 9)) := (Below.refl _ _).alloc (Nat.le_refl _) _
  clear hcell HCC
  have hsz1 : (w.alloc (.cells cs 9)).heap.size = w.heap.size + 1 := World.size_alloc ..
  have HZ := Lib.hid hsz1
  clear hsz1
  generalize w.alloc (.cells cs 9) = w1 at *
  have hmk := mkInts n (by omega)
  have hl0 : w.heap.size < w1.heap.size := by rw [HZ.out]; omega
  have HL := Lib.hid (show ((val scF ws).map vi).length = n by unfold val; rw [List.length_map, List.length_map, HN.out])
  go_wp2_with fail
  clear hmk
  go_loopw [17] (fun i wr => ∃ k : Nat, k ≤ n ∧ i = .int .i64 k ∧ Hid ((ws.take k).all (fun x => (scF x).2) = true) ∧ Row wr w1.heap.size 2 (fillV ((val scF ws).map vi) (vi 0) k) ∧ Below w1.heap.size w1 wr) (fun i _ => n - (intOf i).toNat)
  case atStart => exact ⟨0, by omega, rfl, Lib.hid (by simp), by rw [fillV_zero, HL.out]; exact Row.new w1 _ _, (Below.refl _ _).alloc (Nat.le_refl _) _⟩
  case round =>
    obtain ⟨k, hk, rfl, hok, hrow, hbl⟩ := hrel
    have hBw := hB1.trans (hbl.mono (Nat.le_of_lt hl0))
    by_cases hlt : k < n
    · obtain ⟨p, hp⟩ := some_at (l := ws) (k := k) (by rw [HN.out]; exact hlt)
      have HP := Lib.hid hp
      have hk2 : k < ((val scF ws).map vi).length := by rw [HL.out]; exact hlt
      have hc : wr.cell? ⟨w.heap.size, k, none⟩ = some (.string ⟨p.toArray⟩) := (hbl.cell (p := ⟨w.heap.size, k, none⟩) hl0).trans (HCE.out k p hp)
      have hv : (val scF ws)[k]? = some (scF p).1 := by unfold val; rw [List.getElem?_map, hp]; rfl
      have FS := Lib.hid (fillV_put ((val scF ws).map vi) (vi 0) (vi (scF p).1) k (map_at hv))
      have c0 := hrow.cell k
      rw [fillV_at _ _ _ hk2] at c0
      have f0 := hrow.free k
      have hlb := hrow.lt
      have hC := rsR_impl ⟨p.toArray⟩ wr (HM.out.gr (Gr.of_below hBw))
      clear hp hk2 hv
      have HF := Lib.hid (show (scF p).1 = (rsR ⟨p.toArray⟩).1 from rfl)
      by_cases hr : (rsR ⟨p.toArray⟩).2 = 0
      rotate_left
      · have HX := Lib.hid (numR_bad HP.out (scF_no hr))
        have hr0 : ((rsR ⟨p.toArray⟩).2 == 0) = false := by simpa using hr
        generalize (rsR ⟨p.toArray⟩).2 = zc at *
        generalize (rsR ⟨p.toArray⟩).1 = z at *
        clear hr
        go_wp2_with fail
        refine hC.mono ?_
        rintro e w2 ⟨rfl, rfl⟩
        go_wp2_with fail
        go_ret2
        rw [HX.out]
        exact ⟨rfl, hBw⟩
      · have HO := Lib.hid (oks_snoc HP.out hok.out (scF_yes hr))
        rw [hr] at hC
        rw [HF.out] at FS
        clear hr HF
        generalize (rsR ⟨p.toArray⟩).1 = z at *
        go_wp2_with fail
        refine hC.mono ?_
        rintro e w2 ⟨rfl, rfl⟩
        clear hC
        go_wp2_with fail
        go_roundw
        case rel =>
          refine ⟨k + 1, by omega, by go_num, HO, ?_, ?_⟩
          · rw [← FS.out]
            exact hrow.set k _
          · exact hbl.setCell (p := ⟨w1.heap.size, k, none⟩) (Nat.le_refl _) _
        case measure => simp [intOf]; omega
    · obtain rfl : k = n := by omega
      have e : ws.take k = ws := List.take_of_length_le (by rw [HN.out]; omega)
      have HX := Lib.hid (show numR scF ws = some (val scF ws) from numR_all (by have := hok.out; rwa [e] at this))
      have HF := Lib.hid (fillV_all ((val scF ws).map vi) (vi 0))
      rw [HL.out] at HF
      have HVL := Lib.hid (show (val scF ws).length = k by unfold val; rw [List.length_map, HN.out])
      clear e
      go_wp2_with fail
      go_ret2
      rw [HX.out]
      exact ⟨w1.heap.size, k, [], by rw [HVL.out]; rfl, by rw [HVL.out]; exact Nat.le_refl _, Nat.le_of_lt hl0, by rw [HF.out] at hrow; rw [List.append_nil]; exact hrow, hBw⟩
end Go.Proofs.YtefhhigcplemaaaGreatDoor

/- A rule read: the model and the program read the same. -/
namespace Go.Proofs.YtefhhigcplemaaaGreatDoor
open Go.RowKit Go.ChangeShapes Go.WideShapes Go.ChangeAt
set_option linter.unusedVariables false
set_option linter.unusedSimpArgs false

/-- What a value and two lists make of a rule; what three words make. -/
def rrM (v : Int × Bool) (a b : Option (List Int)) : Option (Int × List Int × List Int) :=
  match a, b with
  | some xs, some ys => if (v.2 && rlB v.1 xs ys) = true then some (v.1, xs, ys) else none
  | _, _ => none
def rrL (f : List UInt8 → Int × Bool) (g : List UInt8 → Option (List Int)) (ws : List (List UInt8)) : Option (Int × List Int × List Int) :=
  match ws with
  | [p, q, r] => rrM (f p) (g q) (g r)
  | _ => none
def rrS (s : ByteArray) : Option (Int × List Int × List Int) := rrL rdv (fun q => numR scF (spl q)) (spB s.data.toList)
def rrI (s : ByteArray) : Option (Int × List Int × List Int) := rrL rvI (fun q => numR scF (wdN 44 7 ⟨q.toArray⟩)) (wdN 32 4 s)
theorem rrM_iff (v : Int × Bool) (a b : Option (List Int)) (L : Int) (xs ys : List Int) : rrM v a b = some (L, xs, ys) ↔ v = (L, true) ∧ a = some xs ∧ b = some ys ∧ rlB L xs ys = true := by
  obtain ⟨v1, v2⟩ := v
  unfold rrM
  cases a with
  | none => simp
  | some xs' => cases b with
    | none => simp
    | some ys' =>
      show (if (v2 && rlB v1 xs' ys') = true then some (v1, xs', ys') else none) = some (L, xs, ys) ↔ _
      by_cases h : (v2 && rlB v1 xs' ys') = true
      · rw [if_pos h]
        rw [Bool.and_eq_true] at h
        obtain ⟨h1, h2⟩ := h
        constructor
        · intro e
          injection e with e; injection e with e1 e2; injection e2 with e2 e3
          subst e1 e2 e3 h1
          exact ⟨rfl, rfl, rfl, h2⟩
        · rintro ⟨e1, e2, e3, e4⟩
          cases e1; cases e2; cases e3; rfl
      · rw [if_neg h]
        constructor
        · intro e; cases e
        · rintro ⟨e1, e2, e3, e4⟩
          cases e1; cases e2; cases e3
          exact absurd (by rw [e4]; rfl) h
theorem rrL_no (f : List UInt8 → Int × Bool) (g : List UInt8 → Option (List Int)) (ws : List (List UInt8)) (h : ws.length ≠ 3) : rrL f g ws = none := by
  unfold rrL
  split
  · exact absurd rfl h
  · rfl
theorem numR_len {f : List UInt8 → Int × Bool} {ws : List (List UInt8)} {zs : List Int} (h : numR f ws = some zs) : zs.length = ws.length := by
  unfold numR at h
  split at h
  · injection h with h; rw [← h, List.length_map]
  · cases h
theorem nm_eq (q : List UInt8) (xs : List Int) (h : xs.length ≤ 6) : numR scF (spl q) = some xs ↔ numR scF (wdN 44 7 ⟨q.toArray⟩) = some xs := by
  have e := wdN_eq 44 7 ⟨q.toArray⟩
  have hd : (ByteArray.mk q.toArray).data.toList = q := rfl
  have hz : (ByteArray.mk q.toArray).size = q.length := List.size_toArray
  rw [hd, hz] at e
  have hl := spl_length q
  obtain ⟨h1, h2⟩ := splitK_spl (min 7 (q.length + 1) - 1) q
  by_cases hc : (spl q).length ≤ 7
  · rw [e, h1 (by omega)]
  · have h3 := h2 (by omega)
    rw [← e] at h3
    constructor
    · intro hh; have := numR_len hh; omega
    · intro hh; have := numR_len hh; omega
theorem val_eq (p : List UInt8) (L : Int) (h1 : 1 ≤ L) (h2 : L ≤ 100000) : rdv p = (L, true) ↔ rvI p = (L, true) := by
  rw [rdv_true, rvI_iff, vl_iff]
  constructor
  · rintro ⟨a, b, c⟩; exact ⟨by omega, c⟩
  · rintro ⟨a, c⟩; exact ⟨by omega, by omega, c⟩
theorem rr_eq (s : ByteArray) : rrS s = rrI s := by
  unfold rrS rrI
  have e := wdN_eq 32 4 s
  have hl := spB_length s.data.toList
  rw [len_data] at hl
  obtain ⟨h1, h2⟩ := splitK_spB (min 4 (s.size + 1) - 1) s.data.toList
  by_cases hc : (spB s.data.toList).length ≤ 4
  · rw [e, h1 (by omega)]
    generalize spB s.data.toList = ws
    by_cases h3 : ws.length = 3
    · obtain ⟨p, q, r, rfl⟩ : ∃ p q r, ws = [p, q, r] := by
        match ws, h3 with
        | [p, q, r], _ => exact ⟨p, q, r, rfl⟩
      show rrM _ _ _ = rrM _ _ _
      refine Option.ext fun t => ?_
      obtain ⟨L, xs, ys⟩ := t
      rw [rrM_iff, rrM_iff]
      constructor
      · rintro ⟨a, b, c, d⟩
        obtain ⟨⟨l1, l2⟩, ⟨x1, -⟩, y1, -⟩ := rl_names d
        exact ⟨(val_eq p L l1 l2).1 a, (nm_eq q xs x1).1 b, (nm_eq r ys y1).1 c, d⟩
      · rintro ⟨a, b, c, d⟩
        obtain ⟨⟨l1, l2⟩, ⟨x1, -⟩, y1, -⟩ := rl_names d
        exact ⟨(val_eq p L l1 l2).2 a, (nm_eq q xs x1).2 b, (nm_eq r ys y1).2 c, d⟩
    · rw [rrL_no _ _ _ h3, rrL_no _ _ _ h3]
  · have h3 := h2 (by omega)
    rw [← e] at h3
    rw [rrL_no _ _ _ (by omega), rrL_no _ _ _ (by omega)]
end Go.Proofs.YtefhhigcplemaaaGreatDoor

/- Contracts: ReadRule in the model. -/
namespace Go.Proofs.YtefhhigcplemaaaGreatDoor
open Go.RowKit Go.ChangeShapes Go.WideShapes Go.ChangeAt
set_option linter.unusedVariables false
set_option linter.unusedSimpArgs false

/-- A rule was read into lists of the call's own, or none. -/
def RdR (r : Option (Int × List Int × List Int)) (w : World) (e : Ending) (w' : World) : Prop :=
  match r with
  | none => e = .returned (.tuple #[.agg #[.int .i64 0, .slice none 0 0, .slice none 0 0], .int .i64 6]) ∧ Below w.heap.size w w'
  | some (L, xs, ys) => ∃ (g1 c1 g2 c2 : Nat) (r1 r2 : List Value), e = .returned (.tuple #[.agg #[.int .i64 L, .slice (some ⟨g1, 0, none⟩) xs.length c1, .slice (some ⟨g2, 0, none⟩) ys.length c2], .int .i64 0]) ∧ xs.length ≤ c1 ∧ ys.length ≤ c2 ∧
      w.heap.size ≤ g1 ∧ w.heap.size ≤ g2 ∧ g1 ≠ g2 ∧ Row w' g1 2 (xs.map vi ++ r1) ∧ Row w' g2 2 (ys.map vi ++ r2) ∧ Below w.heap.size w w'
theorem rrM_none1 (v : Int × Bool) (b : Option (List Int)) : rrM v none b = none := by unfold rrM; rfl
theorem rrM_none2 (v : Int × Bool) (a : Option (List Int)) : rrM v a none = none := by unfold rrM; cases a <;> rfl
theorem rrM_some (v : Int × Bool) (xs ys : List Int) : rrM v (some xs) (some ys) = if (v.2 && rlB v.1 xs ys) = true then some (v.1, xs, ys) else none := rfl
theorem Blk.put3 {w : World} {g : Nat} {t : TypeId} {x y z : Value} (h : Blk w g t #[x, y, z]) (a b c : Value) : Blk (((w.setCell ⟨g, 0, none⟩ a).setCell ⟨g, 1, none⟩ b).setCell ⟨g, 2, none⟩ c) g t #[a, b, c] := ((h.set 0 a).set 1 b).set 2 c
theorem Row.farW {w : World} {h g : Nat} {t : TypeId} {vs : List Value} (hr : Row w g t vs) (hne : h ≠ g) (k : Nat) (a : Value) : Row (w.setCell ⟨h, k, none⟩ a) g t vs := by
  unfold Row at hr ⊢
  simp [World.setCell, Array.getElem?_modify, hr, hne]
theorem Row.far3 {w : World} {h g : Nat} {t : TypeId} {vs : List Value} (hr : Row w g t vs) (hne : h ≠ g) (a b c : Value) :
    Row (((w.setCell ⟨h, 0, none⟩ a).setCell ⟨h, 1, none⟩ b).setCell ⟨h, 2, none⟩ c) g t vs := ((hr.farW hne 0 a).farW hne 1 b).farW hne 2 c
/-- What the reading of names leaves, in one form. -/
theorem RnN.view {r : Option (List Int)} {w w' : World} {e : Ending} (h : RnN r w e w') : ∃ (a : Option Addr) (n c : Nat), e = .returned (.tuple #[.slice a n c, .bool r.isSome]) ∧ Below w.heap.size w w' ∧
    ∀ xs, r = some xs → xs.length = n ∧ n ≤ c ∧ ∃ g rest, a = some ⟨g, 0, none⟩ ∧ w.heap.size ≤ g ∧ Row w' g 2 (xs.map vi ++ rest) := by
  cases r with
  | none => obtain ⟨rfl, hb⟩ := h; exact ⟨none, 0, 0, rfl, hb, fun xs e => by cases e⟩
  | some zs =>
    obtain ⟨g, c, rest, rfl, h1, h2, h3, h4⟩ := h
    exact ⟨_, _, _, rfl, h4, fun xs e => by cases e; exact ⟨rfl, h1, g, rest, rfl, h2, h3⟩⟩

set_option maxRecDepth 100000 in
set_option maxHeartbeats 4000000 in
theorem readRule_spec (s : ByteArray) (w : World) (hs : s.size ≤ 1048576) :
    Calls Tryz.prog 45 #[.string s] w (RdR (rrS s) w) := by
  have HLD := Lib.hid (len_data s)
  have HSP := Lib.hid (spB_size s.data.toList)
  have HR := Lib.hid (show rrS s = rrL rdv (fun q => numR scF (spl q)) (spB s.data.toList) from rfl)
  go_enter Tryz.func45, Tryz.ntmps45
  go_wp2_with fail
  have Q := Blk.new w 26 #[.int .i64 0, .slice none 0 0, .slice none 0 0]
  have hb0 : Below w.heap.size w (w.alloc (.cells #[.int .i64 0, .slice none 0 0, .slice none 0 0] 26)) := (Below.refl _ _).alloc (Nat.le_refl _) _
  generalize w.alloc (.cells #[.int .i64 0, .slice none 0 0, .slice none 0 0] 26) = v at *
  refine (splitB_spec s v hs).mono ?_
  generalize spB s.data.toList = ws at *
  rintro e w1 ⟨u, rfl, hown, hb1⟩
  obtain ⟨gw, cw, rfl, hgw1, hgw2, hA⟩ := hown.reads
  rw [List.length_map]
  replace Q := Q.below hb1 Q.lt
  have hB1 := Lib.hid (hb0.trans (hb1.mono hb0.size))
  have hb0s := hb0.size
  have hb1s := hb1.size
  clear hown hb0 hb1
  by_cases h3 : ws.length = 3
  rotate_left
  · have H := Lib.hid (HR.out.trans (rrL_no _ _ _ h3))
    have hb3 : ((ws.length : Int) == 3) = false := by simp; omega
    generalize ws.length = n at *
    obtain ⟨q0, q1, q2, qf⟩ := Q.trio
    have ql := Q.lt
    clear Q hA
    go_wp2_with fail
    ((try simp only [Exit.inBlock, Exit.then]); refine bodyPost_ret (v := .tuple #[.agg #[.int .i64 0, .slice none 0 0, .slice none 0 0], .int .i64 6]) (by simp [results, Tryz.results45, go_sem, q0, q1, q2, World.cell?_setCell_same']) rfl ?_)
    rw [H.out]
    exact ⟨rfl, ((hB1.out.setCell (by simp) _).setCell (by simp) _).setCell (by simp) _⟩
  obtain ⟨p, q, r, rfl⟩ : ∃ p q r, ws = [p, q, r] := by
    match ws, h3 with
    | [p, q, r], _ => exact ⟨p, q, r, rfl⟩
  have hA0 := hA.at_ (k := 0) (x := sv p) rfl
  have hA1 := hA.at_ (k := 1) (x := sv q) rfl
  have hA2 := hA.at_ (k := 2) (x := sv r) rfl
  have hpz := HSP.out p (by simp)
  have hqz := HSP.out q (by simp)
  have hrz := HSP.out r (by simp)
  rw [HLD.out] at hpz hqz hrz
  obtain ⟨g0, o0, e0, hg0, c0⟩ := hA0
  cases e0
  obtain ⟨g1, o1, e1, hg1, c1⟩ := hA1
  cases e1
  obtain ⟨g2, o2, e2, hg2, c2⟩ := hA2
  cases e2
  clear hA h3 HSP hg1 hg2
  have HR := Lib.hid (HR.out.trans (show rrL rdv (fun q => numR scF (spl q)) [p, q, r] = rrM ((rdv p).1, (rdv p).2) (numR scF (spl q)) (numR scF (spl r)) from rfl))
  have HV := Lib.hid (fun W => value_spec ⟨p.toArray⟩ W (by show (List.toArray p).size ≤ maxLen; rw [List.size_toArray]; unfold maxLen; omega))
  have HNq := Lib.hid (fun W => names11_read ⟨q.toArray⟩ W (by show (List.toArray q).size ≤ _; rw [List.size_toArray]; omega))
  have HNr := Lib.hid (fun W => names11_read ⟨r.toArray⟩ W (by show (List.toArray r).size ≤ _; rw [List.size_toArray]; omega))
  have hnq : ∀ xs, numR scF (spl q) = some xs → xs.length ≤ 1048577 := fun xs h => by have := numR_len h; have := spl_length q; omega
  have hnr : ∀ xs, numR scF (spl r) = some xs → xs.length ≤ 1048577 := fun xs h => by have := numR_len h; have := spl_length r; omega
  clear hpz hqz hrz
  generalize (rdv p).1 = L at *
  generalize (rdv p).2 = y at *
  generalize numR scF (spl q) = rA at *
  generalize numR scF (spl r) = rB at *
  go_wp2_with fail
  refine (HV.out _).mono ?_
  rintro e w2 ⟨rfl, hg2⟩
  replace c1 := cell_up hg2 c1
  replace c2 := cell_up hg2 c2
  replace Q := Q.gr hg2
  have hgp : w.heap.size < w2.heap.size := Q.lt
  have hB2 := Lib.hid (hB1.out.trans (hg2.below.mono hB1.out.size))
  have hgw3 : gw < w2.heap.size := Nat.lt_of_lt_of_le hgw2 hg2.below.size
  clear hg2 hB1 HV c0 hgw1 hgw2 hb0s hb1s hg0
  go_wp2_with fail
  refine (HNq.out _).mono ?_
  intro e w3 hn3
  obtain ⟨A, n, c, rfl, hl3, hA3⟩ := hn3.view
  replace c2 := hl3.cell (p := ⟨gw, 0 + 2, none⟩) hgw3 |>.trans c2
  have hgw4 := Nat.lt_of_lt_of_le hgw3 hl3.size
  replace Q := Q.below hl3 Q.lt
  have hB3 := Lib.hid (hB2.out.trans (hl3.mono hB2.out.size))
  clear hl3 hB2 HNq c1 hn3 hgw3
  go_wp2_with fail
  refine (HNr.out _).mono ?_
  intro e w4 hn4
  obtain ⟨B, m, d, rfl, hl4, hA4⟩ := hn4.view
  have hgq : w.heap.size < w3.heap.size := Q.lt
  have Q0 := Q
  replace Q := Q.below hl4 Q.lt
  have hB4 := Lib.hid (hB3.out.trans (hl4.mono hB3.out.size))
  clear hB3 HNr c2 hn4 hgw4
  by_cases hok : (y && rA.isSome && rB.isSome) = true
  rotate_left
  · have H := Lib.hid (HR.out.trans (show rrM (L, y) rA rB = none from by cases y <;> cases rA <;> cases rB <;> simp_all [rrM]))
    clear HR hA3 hA4 hnq hnr hl4
    generalize rA.isSome = ia at *
    generalize rB.isSome = ib at *
    obtain ⟨q0, q1, q2, qf⟩ := Q.trio
    have ql := Q.lt
    have q6 := ((Q.put3 (.int .i64 0) (.slice none 0 0) (.slice none 0 0)).alloc (.cells #[.int .i64 L, .slice A n c, .slice B m d] 26)).trio
    clear Q
    cases y <;> cases ia <;> cases ib
    all_goals first | exact absurd rfl hok | skip
    all_goals clear hok
    all_goals go_wp2_with fail
    all_goals ((try simp only [Exit.inBlock, Exit.then]); refine bodyPost_ret (v := .tuple #[.agg #[.int .i64 0, .slice none 0 0, .slice none 0 0], .int .i64 6]) (by simp [results, Tryz.results45, go_sem, q6.1, q6.2.1, q6.2.2.1, World.cell?_setCell_same']) rfl ?_)
    all_goals rw [H.out]
    all_goals exact ⟨rfl, (((hB4.out.setCell (by simp) _).setCell (by simp) _).setCell (by simp) _).alloc (by have := hB4.out.size; simpa using this) _⟩
  rw [Bool.and_eq_true, Bool.and_eq_true] at hok
  obtain ⟨⟨rfl, hi⟩, hj⟩ := hok
  obtain ⟨xs, rfl⟩ := Option.isSome_iff_exists.1 hi
  obtain ⟨ys, rfl⟩ := Option.isSome_iff_exists.1 hj
  obtain ⟨hx, hnc, ga, ra, rfl, hga, hRa⟩ := hA3 xs rfl
  obtain ⟨hy, hmd, gb, rb, rfl, hgb, hRb⟩ := hA4 ys rfl
  have hn := hnq xs rfl
  have hm := hnr ys rfl
  rw [hx] at hn
  rw [hy] at hm
  have hab : ga ≠ gb := by have := hRa.lt; omega
  have hRa4 := Lib.hid (hRa.below hl4 hRa.lt)
  have hRb4 := Lib.hid hRb
  have HRu := Lib.hid (fun W h h' => rule_spec L (some ⟨ga, 0, none⟩) (some ⟨gb, 0, none⟩) n c m d xs ys W hx hy (by omega) (by omega) hnc hmd h h')
  have hx4 := Lib.hid hx
  have hy4 := Lib.hid hy
  have hga2 : w.heap.size < ga := Nat.lt_of_lt_of_le hgp hga
  have hgb2 : w.heap.size < gb := Nat.lt_of_lt_of_le hgq hgb
  clear hA3 hA4 hi hj hnq hnr hRa hRb hl4 hx hy hn hm
  rw [rrM_some, Bool.true_and] at HR
  have P := Blk.new w4 26 #[.int .i64 L, .slice (some ⟨ga, 0, none⟩) n c, .slice (some ⟨gb, 0, none⟩) m d]
  clear Q0 hga hgb
  cases hrl : rlB L xs ys
  · rw [hrl] at HR HRu
    rw [if_neg (by simp)] at HR
    go_wp2_with fail
    refine (HRu.out _ (hRa4.out.readsL.gr (by repeat (first | with_reducible exact Gr.refl _ | with_reducible refine Gr.alloc ?_ _ | with_reducible refine Gr.gr ?_ _ _ | with_reducible refine Gr.drew ?_ | with_reducible refine Gr.drewN ?_ _))) (hRb4.out.readsL.gr (by repeat (first | with_reducible exact Gr.refl _ | with_reducible refine Gr.alloc ?_ _ | with_reducible refine Gr.gr ?_ _ _ | with_reducible refine Gr.drew ?_ | with_reducible refine Gr.drewN ?_ _)))).mono ?_
    rintro e w5 ⟨rfl, hg5⟩
    have hG5 := Lib.hid ((show Gr w4 _ from (by repeat (first | with_reducible exact Gr.refl _ | with_reducible refine Gr.alloc ?_ _ | with_reducible refine Gr.gr ?_ _ _ | with_reducible refine Gr.drew ?_ | with_reducible refine Gr.drewN ?_ _))).trans hg5)
    replace Q := Q.gr hG5.out
    have hB5 := Lib.hid (hB4.out.trans (hG5.out.below.mono hB4.out.size))
    obtain ⟨q0, q1, q2, qf⟩ := Q.trio
    have ql := Q.lt
    have q6 := (Q.put3 (.int .i64 0) (.slice none 0 0) (.slice none 0 0)).trio
    clear Q P hg5 hG5
    go_wp2_with fail
    ((try simp only [Exit.inBlock, Exit.then]); refine bodyPost_ret (v := .tuple #[.agg #[.int .i64 0, .slice none 0 0, .slice none 0 0], .int .i64 6]) (by simp [results, Tryz.results45, go_sem, q6.1, q6.2.1, q6.2.2.1, World.cell?_setCell_same']) rfl ?_)
    rw [HR.out]
    exact ⟨rfl, ((hB5.out.setCell (by simp) _).setCell (by simp) _).setCell (by simp) _⟩
  · rw [hrl] at HR HRu
    rw [if_pos rfl] at HR
    go_wp2_with fail
    refine (HRu.out _ (hRa4.out.readsL.gr (by repeat (first | with_reducible exact Gr.refl _ | with_reducible refine Gr.alloc ?_ _ | with_reducible refine Gr.gr ?_ _ _ | with_reducible refine Gr.drew ?_ | with_reducible refine Gr.drewN ?_ _))) (hRb4.out.readsL.gr (by repeat (first | with_reducible exact Gr.refl _ | with_reducible refine Gr.alloc ?_ _ | with_reducible refine Gr.gr ?_ _ _ | with_reducible refine Gr.drew ?_ | with_reducible refine Gr.drewN ?_ _)))).mono ?_
    rintro e w5 ⟨rfl, hg5⟩
    have hG5 := Lib.hid ((show Gr w4 _ from (by repeat (first | with_reducible exact Gr.refl _ | with_reducible refine Gr.alloc ?_ _ | with_reducible refine Gr.gr ?_ _ _ | with_reducible refine Gr.drew ?_ | with_reducible refine Gr.drewN ?_ _))).trans hg5)
    replace Q := Q.gr hG5.out
    replace P := P.gr hg5
    have hB5 := Lib.hid (hB4.out.trans (hG5.out.below.mono hB4.out.size))
    have hRa5 := Lib.hid (hRa4.out.gr hG5.out)
    have hRb5 := Lib.hid (hRb4.out.gr hG5.out)
    obtain ⟨q0, q1, q2, qf⟩ := Q.trio
    have ql := Q.lt
    obtain ⟨p0, p1, p2, pf⟩ := P.trio
    have pl := P.lt
    have q6 := (Q.put3 (.int .i64 L) (.slice (some ⟨ga, 0, none⟩) n c) (.slice (some ⟨gb, 0, none⟩) m d)).trio
    clear Q P hg5 hG5
    go_wp2_with fail
    ((try simp only [Exit.inBlock, Exit.then]); refine bodyPost_ret (v := .tuple #[.agg #[.int .i64 L, .slice (some ⟨ga, 0, none⟩) n c, .slice (some ⟨gb, 0, none⟩) m d], .int .i64 0]) (by simp [results, Tryz.results45, go_sem, q6.1, q6.2.1, q6.2.2.1, World.cell?_setCell_same']) rfl ?_)
    rw [HR.out]
    exact ⟨ga, c, gb, d, ra, rb, by rw [hx4.out, hy4.out], by rw [hx4.out]; exact hnc, by rw [hy4.out]; exact hmd, Nat.le_of_lt hga2, Nat.le_of_lt hgb2, hab, hRa5.out.far3 (by omega) _ _ _, hRb5.out.far3 (by omega) _ _ _, ((hB5.out.setCell (by simp) _).setCell (by simp) _).setCell (by simp) _⟩
end Go.Proofs.YtefhhigcplemaaaGreatDoor

/- Contracts: ReadRule in the program. -/
namespace Go.Proofs.YtefhhigcplemaaaGreatDoor
open Go.RowKit Go.ChangeShapes Go.WideShapes Go.ChangeAt
set_option linter.unusedVariables false
set_option linter.unusedSimpArgs false

set_option maxRecDepth 100000 in
set_option maxHeartbeats 4000000 in
theorem readRule_impl (s : ByteArray) (w : World) (hs : s.size ≤ 1048576) (hM : Nms w) (hE : Errs w) (hT : Tab w) (hsh : w.ShapedOpen Tryz.prog) :
    Calls Tryz.prog 44 #[.string s] w (RdR (rrI s) w) := by
  have HSP := Lib.hid (fun p hp => wdN_size 32 4 s p hp)
  have HR := Lib.hid (show rrI s = rrL rvI (fun q => numR scF (wdN 44 7 ⟨q.toArray⟩)) (wdN 32 4 s) from rfl)
  have HM := Lib.hid (fun W (h : Below w.heap.size w W) => hM.gr (Gr.of_below h))
  have HE := Lib.hid (fun W (h : Below w.heap.size w W) => hE.gr (Gr.of_below h))
  have HT := Lib.hid (fun W (h : Below w.heap.size w W) => hT.later h)
  have HSH := Lib.hid (fun W (h : Below w.heap.size w W) => shaped_below hsh h)
  have HPL := Lib.hid (show (Lib.splitB ⟨#[32]⟩ 0 (min 4 (s.size + 1) - 1) s).length = (wdN 32 4 s).length from (wdN_pcs 32 4 s).symm)
  have HCC := Lib.hid (fun k p h => wdN_cell 32 4 s (min 4 (s.size + 1)) k p h)
  have HPC := Lib.hid (show Lib.cellsOf (Lib.splitB ⟨#[32]⟩ 0 (min 4 (s.size + 1) - 1) s) (min 4 (s.size + 1)) = Lib.cellsOf (pcN 32 4 s) (min 4 (s.size + 1)) from rfl)
  clear hM hE hT hsh
  go_enter Tryz.func44, Tryz.ntmps44
  go_wp2_with fail
  have Q := Blk.new w 26 #[.int .i64 0, .slice none 0 0, .slice none 0 0]
  have hb0 : Below w.heap.size w (w.alloc (.cells #[.int .i64 0, .slice none 0 0, .slice none 0 0] 26)) := (Below.refl _ _).alloc (Nat.le_refl _) _
  generalize w.alloc (.cells #[.int .i64 0, .slice none 0 0, .slice none 0 0] 26) = v at *
  have HS := Tryz.strings_SplitN_shaped s ⟨#[32]⟩ 4 v (HSH.out v hb0) (by omega) (by decide) (by omega) (by omega)
  rw [HPL.out, HPC.out] at HS
  generalize wdN 32 4 s = ws at *
  generalize Lib.cellsOf (pcN 32 4 s) (min 4 (s.size + 1)) = cs at *
  refine HS.mono ?_
  clear HS HPL HPC
  rintro e w1 ⟨rfl, rfl⟩
  have hcell : ∀ k p, ws[k]? = some p → (v.alloc (.cells cs 9)).cell? ⟨v.heap.size, k, none⟩ = some (sv p) := fun k p h => by
    rw [World.cell?_alloc_at _ _ _ _ rfl]; exact HCC.out k p h
  have hgw2 : v.heap.size < (v.alloc (.cells cs 9)).heap.size := by simp
  have hB1 := Lib.hid (hb0.alloc hb0.size (.cells cs 9))
  replace Q := Q.gr (show Gr v (v.alloc (.cells cs 9)) from (by repeat (first | with_reducible exact Gr.refl _ | with_reducible refine Gr.alloc ?_ _ | with_reducible refine Gr.gr ?_ _ _ | with_reducible refine Gr.drew ?_ | with_reducible refine Gr.drewN ?_ _)))
  generalize v.alloc (.cells cs 9) = w1 at *
  have hgw1 := hb0.size
  generalize v.heap.size = gw at *
  clear hb0 HCC
  by_cases h3 : ws.length = 3
  rotate_left
  · have H := Lib.hid (HR.out.trans (rrL_no _ _ _ h3))
    have hb3 : ((ws.length : Int) == 3) = false := by simp; omega
    generalize ws.length = n at *
    obtain ⟨q0, q1, q2, qf⟩ := Q.trio
    have ql := Q.lt
    clear Q hcell
    go_wp2_with fail
    ((try simp only [Exit.inBlock, Exit.then]); refine bodyPost_ret (v := .tuple #[.agg #[.int .i64 0, .slice none 0 0, .slice none 0 0], .int .i64 6]) (by simp [results, Tryz.results44, go_sem, q0, q1, q2, World.cell?_setCell_same']) rfl ?_)
    rw [H.out]
    exact ⟨rfl, ((hB1.out.setCell (by simp) _).setCell (by simp) _).setCell (by simp) _⟩
  obtain ⟨p, q, r, rfl⟩ : ∃ p q r, ws = [p, q, r] := by
    match ws, h3 with
    | [p, q, r], _ => exact ⟨p, q, r, rfl⟩
  have c0 := hcell 0 p rfl
  have c1 := hcell 1 q rfl
  have c2 := hcell 2 r rfl
  have hpz := HSP.out p (by simp)
  have hqz := HSP.out q (by simp)
  have hrz := HSP.out r (by simp)
  clear hcell h3 HSP
  have HR := Lib.hid (HR.out.trans (show rrL rvI (fun q => numR scF (wdN 44 7 ⟨q.toArray⟩)) [p, q, r] = rrM ((rvI p).1, (rvI p).2) (numR scF (wdN 44 7 ⟨q.toArray⟩)) (numR scF (wdN 44 7 ⟨r.toArray⟩)) from rfl))
  have HV := Lib.hid (fun W h => readValue_impl ⟨p.toArray⟩ W (by show (List.toArray p).size ≤ _; rw [List.size_toArray]; omega) (HE.out W h) (HT.out W h))
  have HNq := Lib.hid (fun W h => readScales_impl ⟨q.toArray⟩ W (by show (List.toArray q).size ≤ _; rw [List.size_toArray]; omega) (HM.out W h) (HSH.out W h))
  have HNr := Lib.hid (fun W h => readScales_impl ⟨r.toArray⟩ W (by show (List.toArray r).size ≤ _; rw [List.size_toArray]; omega) (HM.out W h) (HSH.out W h))
  have hnq : ∀ xs, numR scF (wdN 44 7 ⟨q.toArray⟩) = some xs → xs.length ≤ 1048577 := fun xs h => by have := numR_len h; have := wdN_len 44 7 ⟨q.toArray⟩ (by omega); omega
  have hnr : ∀ xs, numR scF (wdN 44 7 ⟨r.toArray⟩) = some xs → xs.length ≤ 1048577 := fun xs h => by have := numR_len h; have := wdN_len 44 7 ⟨r.toArray⟩ (by omega); omega
  clear hpz hqz hrz HM HE HT HSH
  have hv1 : rvI (ByteArray.mk p.toArray).data.toList = rvI p := rfl
  rw [hv1] at HV
  clear hv1
  generalize (rvI p).1 = L at *
  generalize (rvI p).2 = y at *
  generalize numR scF (wdN 44 7 ⟨q.toArray⟩) = rA at *
  generalize numR scF (wdN 44 7 ⟨r.toArray⟩) = rB at *
  go_wp2_with fail
  refine (HV.out _ hB1.out).mono ?_
  rintro e w2 ⟨rfl, hg2⟩
  replace c1 := cell_up hg2 c1
  replace c2 := cell_up hg2 c2
  replace Q := Q.gr hg2
  have hgp : w.heap.size < w2.heap.size := Q.lt
  have hB2 := Lib.hid (hB1.out.trans (hg2.below.mono hB1.out.size))
  have hgw3 : gw < w2.heap.size := Nat.lt_of_lt_of_le hgw2 hg2.below.size
  clear hg2 hB1 HV c0 hgw1 hgw2
  go_wp2_with fail
  refine (HNq.out _ hB2.out).mono ?_
  intro e w3 hn3
  obtain ⟨A, n, c, rfl, hl3, hA3⟩ := hn3.view
  replace c2 := hl3.cell (p := ⟨gw, 2, none⟩) hgw3 |>.trans c2
  have hgw4 := Nat.lt_of_lt_of_le hgw3 hl3.size
  replace Q := Q.below hl3 Q.lt
  have hB3 := Lib.hid (hB2.out.trans (hl3.mono hB2.out.size))
  clear hl3 hB2 HNq c1 hn3 hgw3
  go_wp2_with fail
  refine (HNr.out _ hB3.out).mono ?_
  intro e w4 hn4
  obtain ⟨B, m, d, rfl, hl4, hA4⟩ := hn4.view
  have hgq : w.heap.size < w3.heap.size := Q.lt
  have Q0 := Q
  replace Q := Q.below hl4 Q.lt
  have hB4 := Lib.hid (hB3.out.trans (hl4.mono hB3.out.size))
  clear hB3 HNr c2 hn4 hgw4
  by_cases hok : (y && rA.isSome && rB.isSome) = true
  rotate_left
  · have H := Lib.hid (HR.out.trans (show rrM (L, y) rA rB = none from by cases y <;> cases rA <;> cases rB <;> simp_all [rrM]))
    clear HR hA3 hA4 hnq hnr hl4
    generalize rA.isSome = ia at *
    generalize rB.isSome = ib at *
    obtain ⟨q0, q1, q2, qf⟩ := Q.trio
    have ql := Q.lt
    have q6 := ((Q.put3 (.int .i64 0) (.slice none 0 0) (.slice none 0 0)).alloc (.cells #[.int .i64 L, .slice A n c, .slice B m d] 26)).trio
    clear Q
    cases y <;> cases ia <;> cases ib
    all_goals first | exact absurd rfl hok | skip
    all_goals clear hok
    all_goals go_wp2_with fail
    all_goals ((try simp only [Exit.inBlock, Exit.then]); refine bodyPost_ret (v := .tuple #[.agg #[.int .i64 0, .slice none 0 0, .slice none 0 0], .int .i64 6]) (by simp [results, Tryz.results44, go_sem, q6.1, q6.2.1, q6.2.2.1, World.cell?_setCell_same']) rfl ?_)
    all_goals rw [H.out]
    all_goals exact ⟨rfl, (((hB4.out.setCell (by simp) _).setCell (by simp) _).setCell (by simp) _).alloc (by have := hB4.out.size; simpa using this) _⟩
  rw [Bool.and_eq_true, Bool.and_eq_true] at hok
  obtain ⟨⟨rfl, hi⟩, hj⟩ := hok
  obtain ⟨xs, rfl⟩ := Option.isSome_iff_exists.1 hi
  obtain ⟨ys, rfl⟩ := Option.isSome_iff_exists.1 hj
  obtain ⟨hx, hnc, ga, ra, rfl, hga, hRa⟩ := hA3 xs rfl
  obtain ⟨hy, hmd, gb, rb, rfl, hgb, hRb⟩ := hA4 ys rfl
  have hn := hnq xs rfl
  have hm := hnr ys rfl
  rw [hx] at hn
  rw [hy] at hm
  have hab : ga ≠ gb := by have := hRa.lt; omega
  have hRa4 := Lib.hid (hRa.below hl4 hRa.lt)
  have hRb4 := Lib.hid hRb
  have HRu := Lib.hid (fun W h h' => rule_impl L (some ⟨ga, 0, none⟩) (some ⟨gb, 0, none⟩) n c m d xs ys W hx hy (by omega) (by omega) hnc hmd h h')
  have hx4 := Lib.hid hx
  have hy4 := Lib.hid hy
  have hga2 : w.heap.size < ga := Nat.lt_of_lt_of_le hgp hga
  have hgb2 : w.heap.size < gb := Nat.lt_of_lt_of_le hgq hgb
  clear hA3 hA4 hi hj hnq hnr hRa hRb hl4 hx hy hn hm
  rw [rrM_some, Bool.true_and] at HR
  have P := Blk.new w4 26 #[.int .i64 L, .slice (some ⟨ga, 0, none⟩) n c, .slice (some ⟨gb, 0, none⟩) m d]
  clear Q0 hga hgb
  cases hrl : rlB L xs ys
  · rw [hrl] at HR HRu
    rw [if_neg (by simp)] at HR
    go_wp2_with fail
    refine (HRu.out _ (hRa4.out.readsL.gr (by repeat (first | with_reducible exact Gr.refl _ | with_reducible refine Gr.alloc ?_ _ | with_reducible refine Gr.gr ?_ _ _ | with_reducible refine Gr.drew ?_ | with_reducible refine Gr.drewN ?_ _))) (hRb4.out.readsL.gr (by repeat (first | with_reducible exact Gr.refl _ | with_reducible refine Gr.alloc ?_ _ | with_reducible refine Gr.gr ?_ _ _ | with_reducible refine Gr.drew ?_ | with_reducible refine Gr.drewN ?_ _)))).mono ?_
    rintro e w5 ⟨rfl, hg5⟩
    have hG5 := Lib.hid ((show Gr w4 _ from (by repeat (first | with_reducible exact Gr.refl _ | with_reducible refine Gr.alloc ?_ _ | with_reducible refine Gr.gr ?_ _ _ | with_reducible refine Gr.drew ?_ | with_reducible refine Gr.drewN ?_ _))).trans hg5)
    replace Q := Q.gr hG5.out
    have hB5 := Lib.hid (hB4.out.trans (hG5.out.below.mono hB4.out.size))
    obtain ⟨q0, q1, q2, qf⟩ := Q.trio
    have ql := Q.lt
    have q6 := (Q.put3 (.int .i64 0) (.slice none 0 0) (.slice none 0 0)).trio
    clear Q P hg5 hG5
    go_wp2_with fail
    ((try simp only [Exit.inBlock, Exit.then]); refine bodyPost_ret (v := .tuple #[.agg #[.int .i64 0, .slice none 0 0, .slice none 0 0], .int .i64 6]) (by simp [results, Tryz.results44, go_sem, q6.1, q6.2.1, q6.2.2.1, World.cell?_setCell_same']) rfl ?_)
    rw [HR.out]
    exact ⟨rfl, ((hB5.out.setCell (by simp) _).setCell (by simp) _).setCell (by simp) _⟩
  · rw [hrl] at HR HRu
    rw [if_pos rfl] at HR
    go_wp2_with fail
    refine (HRu.out _ (hRa4.out.readsL.gr (by repeat (first | with_reducible exact Gr.refl _ | with_reducible refine Gr.alloc ?_ _ | with_reducible refine Gr.gr ?_ _ _ | with_reducible refine Gr.drew ?_ | with_reducible refine Gr.drewN ?_ _))) (hRb4.out.readsL.gr (by repeat (first | with_reducible exact Gr.refl _ | with_reducible refine Gr.alloc ?_ _ | with_reducible refine Gr.gr ?_ _ _ | with_reducible refine Gr.drew ?_ | with_reducible refine Gr.drewN ?_ _)))).mono ?_
    rintro e w5 ⟨rfl, hg5⟩
    have hG5 := Lib.hid ((show Gr w4 _ from (by repeat (first | with_reducible exact Gr.refl _ | with_reducible refine Gr.alloc ?_ _ | with_reducible refine Gr.gr ?_ _ _ | with_reducible refine Gr.drew ?_ | with_reducible refine Gr.drewN ?_ _))).trans hg5)
    replace Q := Q.gr hG5.out
    replace P := P.gr hg5
    have hB5 := Lib.hid (hB4.out.trans (hG5.out.below.mono hB4.out.size))
    have hRa5 := Lib.hid (hRa4.out.gr hG5.out)
    have hRb5 := Lib.hid (hRb4.out.gr hG5.out)
    obtain ⟨q0, q1, q2, qf⟩ := Q.trio
    have ql := Q.lt
    obtain ⟨p0, p1, p2, pf⟩ := P.trio
    have pl := P.lt
    have q6 := (Q.put3 (.int .i64 L) (.slice (some ⟨ga, 0, none⟩) n c) (.slice (some ⟨gb, 0, none⟩) m d)).trio
    clear Q P hg5 hG5
    go_wp2_with fail
    ((try simp only [Exit.inBlock, Exit.then]); refine bodyPost_ret (v := .tuple #[.agg #[.int .i64 L, .slice (some ⟨ga, 0, none⟩) n c, .slice (some ⟨gb, 0, none⟩) m d], .int .i64 0]) (by simp [results, Tryz.results44, go_sem, q6.1, q6.2.1, q6.2.2.1, World.cell?_setCell_same']) rfl ?_)
    rw [HR.out]
    exact ⟨ga, c, gb, d, ra, rb, by rw [hx4.out, hy4.out], by rw [hx4.out]; exact hnc, by rw [hy4.out]; exact hmd, Nat.le_of_lt hga2, Nat.le_of_lt hgb2, hab, hRa5.out.far3 (by omega) _ _ _, hRb5.out.far3 (by omega) _ _ _, ((hB5.out.setCell (by simp) _).setCell (by simp) _).setCell (by simp) _⟩
end Go.Proofs.YtefhhigcplemaaaGreatDoor
