/- Contracts: a text split at commas, numbers out of pieces, in the model. -/
import Derived.Test.YtddnmhkhgpangaaDoorT6
import Derived.Test.YtddnmhkhgpangaaDoorT4
import Derived.Test.YtddnmhkhgpangaaDoorM11
import Derived.Maps.AppendAt
import Derived.RangeFuncBox
namespace Go.Proofs.YtddnmhkhgpangaaDoor
open Go.RowKit Go.ChangeShapes Go.WideShapes Go.ChangeAt
set_option linter.unusedVariables false
set_option linter.unusedSimpArgs false

def sv (p : List UInt8) : Value := .string ⟨p.toArray⟩
/-- A slice of the call's own, of some capacity. -/
def Owns (w : World) (base : Nat) (t : TypeId) (v : Value) (xs : List Value) : Prop := w.ownsRow base t 1 v xs.length xs ∧ ∃ g cap, v = .slice (some ⟨g, 0, none⟩) xs.length cap
theorem Owns.new (w : World) (t : TypeId) (base : Nat) (h : base ≤ w.heap.size) : Owns (w.alloc (.cells #[] t)) base t (.slice (some ⟨w.heap.size, 0, none⟩) 0 0) [] :=
  ⟨World.ownsRow_made w #[] 0 h (by simp [maxLen]) rfl, _, _, rfl⟩
theorem Owns.reads {w : World} {base : Nat} {t : TypeId} {v : Value} {xs : List Value} (h : Owns w base t v xs) : ∃ g cap, v = .slice (some ⟨g, 0, none⟩) xs.length cap ∧ base ≤ g ∧ g < w.heap.size ∧ Reads w w.heap.size (some ⟨g, 0, none⟩) xs := by
  obtain ⟨h1, g, cap, rfl⟩ := h
  have hl := h1.lt g rfl
  refine ⟨g, cap, rfl, hl.1, hl.2, fun k hk => ⟨g, 0, rfl, hl.2, ?_⟩⟩
  have := h1.cells (g := g) rfl k xs[k] (List.getElem?_eq_getElem hk)
  rw [show (⟨g, 0, none⟩ : Addr).add k = ⟨g, 0 + k, none⟩ from add_plain ..] at this
  exact this
/-- What an append of one element leaves. -/
theorem Owns.app {w wr w1 : World} {base : Nat} {t : TypeId} {v v' : Value} {xs : List Value} {x : Value} {o : Obj} (h : Owns wr base t v xs) (hb : Below base w wr) (h' : w1.ownsRow base t 1 v' (xs.length + 1) (xs ++ [x])) (hg : (wr.alloc o).grownBy w1 v.ownBlock) :
    Owns w1 base t v' (xs ++ [x]) ∧ Below base w w1 := by
  obtain ⟨g, cap, e⟩ := ownsRow_succ h'
  refine ⟨⟨by rw [List.length_append]; exact h', g, cap, by rw [List.length_append]; exact e⟩, ?_⟩
  have hl := h.1.lt
  have hB : base ≤ wr.heap.size := by
    obtain ⟨g0, cap0, e0⟩ := h.2
    have := hl g0 (by rw [e0]; rfl)
    omega
  have h2 := hb.alloc hB o
  exact ⟨hg.os.trans h2.os, hg.tape.trans h2.tape, hg.output.trans h2.output, Nat.le_trans h2.size hg.size, fun k hk => (hg.block k (by simp; omega) (fun e => by
    have := (hl k (by rw [← e])).1
    omega)).trans (h2.block k hk)⟩

theorem info_str : (Tryd.prog.info? 9).map (fun i => (i.zero, i.size, i.bytes)) = some (some (.string ⟨#[]⟩), 1, 16) := by kernel_rfl
theorem info_int : (Tryd.prog.info? 2).map (fun i => (i.zero, i.size, i.bytes)) = some (some (.int .i64 0), 1, 8) := by kernel_rfl

/-- What holds at the head of the loop that splits. -/
def SpI (s : ByteArray) (w wr : World) (k f : Nat) (v : Value) : Prop :=
  (k ≤ s.size ∧ f ≤ k ∧ ∃ done : List (List UInt8), spl (s.data.toList.take k) = done ++ [(s.data.toList.take k).drop f] ∧ done.length ≤ k ∧ Owns wr w.heap.size 9 v (done.map sv)) ∨
  (k = s.size + 1 ∧ Owns wr w.heap.size 9 v ((spl s.data.toList).map sv))

theorem ext_sv (s : ByteArray) (f k : Nat) : Value.string (s.extract f k) = sv ((s.data.toList.take k).drop f) := by
  unfold sv
  congr 1
  have h : (s.extract f k).data.toList = (s.data.toList.take k).drop f := by
    rw [Lib.extract_data, List.drop_take]
  rw [← h]

set_option maxHeartbeats 4000000 in
set_option maxRecDepth 100000 in
theorem split_spec (s : ByteArray) (w : World) (hs : s.size ≤ 1048576) :
    Calls Tryd.prog 58 #[.string s, .int .u8 44] w fun e w' => ∃ v, e = .returned v ∧ Owns w' w.heap.size 9 v ((spl s.data.toList).map sv) ∧ Below w.heap.size w w' := by
  obtain ⟨i0, hi, hz0, hz1, hz2⟩ := info_parts info_str
  go_enter Tryd.func58, Tryd.ntmps58
  go_wp2
  go_loopw [5, 6, 7] (fun v f i wr => ∃ k j : Nat, i = .int .i64 k ∧ f = .int .i64 j ∧ SpI s w wr k j v ∧ Below w.heap.size w wr) (fun _ _ i _ => s.size + 1 - (intOf i).toNat)
  case atStart => exact ⟨0, 0, rfl, rfl, .inl ⟨by omega, by omega, [], rfl, by simp, Owns.new w _ _ (Nat.le_refl _)⟩, (Below.refl _ _).alloc (Nat.le_refl _) _⟩
  case round =>
    obtain ⟨k, j, rfl, rfl, hI, hb⟩ := hrel
    rcases hI with ⟨hk, hj, done, hd, hdl, hown⟩ | ⟨rfl, hown⟩
    · have HLD := Lib.hid (show (done.map sv).length = done.length from List.length_map _)
      have hown1 := hown.1
      have HX := Lib.hid (ext_sv s j k)
      have HD := Lib.hid hd
      have HO := Lib.hid hown
      clear hd hown
      by_cases he : k = s.size
      · subst he
        have hb1 : ((s.size : Int) == (s.size : Int)) = true := by simp
        go_wp2_with (at_builtin; refine wpList_append_own _ rfl _ _ 65 rfl w.heap.size 9 i0 (.string ⟨#[]⟩) 1 16 Tryd.underlying65 hi hz0 hz1 hz2 rfl (by decide) _ _ _ rfl (hown1.alloc _) ⟨wr.heap.size, 0, none⟩ 1 1 [.string (s.extract j s.size)] rfl rfl (cell_one_new _ _ _) (by simp [Value.oneCell']) (by rw [HLD.out]; unfold maxLen; omega) (by rw [HLD.out]; omega) (by have := hb.size; simp; omega) ?_; intro v' w1 hown' hgrow _)
        have hA := HO.out.app hb hown' hgrow
        rw [HX.out] at hA
        have HA := Lib.hid hA
        clear hA hown' hgrow hown1
        go_wp2_with fail
        go_roundw
        case rel => exact ⟨s.size + 1, s.size + 1, by go_num, by go_num, .inr ⟨rfl, by
          have e : s.data.toList.take s.size = s.data.toList := List.take_of_length_le (by rw [len_data]; exact Nat.le_refl _)
          have h2 := HD.out
          have h3 := HA.out.1
          rw [e] at h2 h3
          rw [h2, List.map_append]
          exact h3⟩, HA.out.2⟩
        case measure => simp [intOf]
      · have hlt : k < s.size := by omega
        have hb1 : ((k : Int) == (s.size : Int)) = false := by simp; omega
        have hts := Lib.hid (take_snoc s k hlt)
        clear he
        by_cases hc : s[k].toNat = 44
        · have hb2 : ((s[k].toNat : Int) == 44) = true := by simp [hc]
          have HC := Lib.hid (show s[k] = 44 from UInt8.toNat_inj.1 hc)
          clear hc
          go_wp2_with (at_builtin; refine wpList_append_own _ rfl _ _ 65 rfl w.heap.size 9 i0 (.string ⟨#[]⟩) 1 16 Tryd.underlying65 hi hz0 hz1 hz2 rfl (by decide) _ _ _ rfl (hown1.alloc _) ⟨wr.heap.size, 0, none⟩ 1 1 [.string (s.extract j k)] rfl rfl (cell_one_new _ _ _) (by simp [Value.oneCell']) (by rw [HLD.out]; unfold maxLen; omega) (by rw [HLD.out]; omega) (by have := hb.size; simp; omega) ?_; intro v' w1 hown' hgrow _)
          have hA := HO.out.app hb hown' hgrow
          rw [HX.out] at hA
          have HA := Lib.hid hA
          clear hA hown' hgrow hown1
          go_wp2_with fail
          go_roundw
          case rel => exact ⟨k + 1, k + 1, by go_num, by go_num, .inl ⟨by omega, by omega, done ++ [(s.data.toList.take k).drop j], by
            rw [hts.out, HC.out, spl_snoc_comma, HD.out]
            congr 2
            rw [List.drop_of_length_le (by rw [List.length_append, List.length_take]; simp; omega)], by rw [List.length_append]; simp; omega, by rw [List.map_append]; exact HA.out.1⟩, HA.out.2⟩
          case measure => simp [intOf]; omega
        · have hb2 : ((s[k].toNat : Int) == 44) = false := by simp; omega
          have HC := Lib.hid (show s[k] ≠ 44 from fun h => hc (by rw [h]; rfl))
          clear hc
          go_wp2_with fail
          go_roundw
          case rel => exact ⟨k + 1, j, by go_num, rfl, .inl ⟨by omega, by omega, done, by
            rw [hts.out, spl_snoc _ _ HC.out _ _ HD.out]
            congr 2
            rw [List.drop_append_of_le_length (by rw [List.length_take, len_data]; omega)], by omega, HO.out⟩, hb⟩
          case measure => simp [intOf]; omega
    · go_wp2_with fail
      go_ret
      exact ⟨_, rfl, hown, hb⟩

/-- The numbers that the first k pieces spell. -/
def val (f : List UInt8 → Int × Bool) (ws : List (List UInt8)) : List Int := ws.map fun x => (f x).1
theorem val_snoc {f : List UInt8 → Int × Bool} {ws : List (List UInt8)} {k : Nat} {p : List UInt8} (h : ws[k]? = some p) : val f (ws.take (k + 1)) = val f (ws.take k) ++ [(f p).1] := by
  obtain ⟨hk, e⟩ := List.getElem?_eq_some_iff.1 h
  unfold val
  rw [List.take_succ_eq_append_getElem hk, List.map_append, e]; rfl
theorem oks_snoc {f : List UInt8 → Int × Bool} {ws : List (List UInt8)} {k : Nat} {p : List UInt8} (h : ws[k]? = some p) (ha : (ws.take k).all (fun x => (f x).2) = true) (hp : (f p).2 = true) : (ws.take (k + 1)).all (fun x => (f x).2) = true := by
  obtain ⟨hk, e⟩ := List.getElem?_eq_some_iff.1 h
  rw [List.take_succ_eq_append_getElem hk, List.all_append, ha, e]; simp [hp]
theorem numR_bad {f : List UInt8 → Int × Bool} {ws : List (List UInt8)} {k : Nat} {p : List UInt8} (h : ws[k]? = some p) (hp : (f p).2 = false) : numR f ws = none := by
  unfold numR
  rw [if_neg]
  intro hc
  rw [List.all_eq_true] at hc
  rw [hc p (List.mem_of_getElem? h)] at hp; cases hp
theorem numR_all {f : List UInt8 → Int × Bool} {ws : List (List UInt8)} (h : ws.all (fun x => (f x).2) = true) : numR f ws = some (val f ws) := if_pos h

/-- Numbers were read, or none. -/
def Nums (r : Option (List Int)) (w : World) (e : Ending) (w' : World) : Prop :=
  match r with
  | none => e = .returned (.tuple #[.slice none 0 0, .bool false]) ∧ Below w.heap.size w w'
  | some zs => ∃ v, e = .returned (.tuple #[v, .bool true]) ∧ Owns w' w.heap.size 2 v (zs.map vi) ∧ Below w.heap.size w w'

set_option maxHeartbeats 4000000 in
set_option maxRecDepth 100000 in
theorem numbers_spec (A : Option Addr) (n c : Nat) (ws : List (List UInt8)) (w : World) (hn : ws.length = n) (hN : n ≤ 1048577) (hs : ∀ p ∈ ws, p.length ≤ 1048576) (hA : Reads w w.heap.size A (ws.map sv)) :
    Calls Tryd.prog 57 #[.slice A n c] w (Nums (numR rds ws) w) := by
  obtain ⟨i0, hi, hz0, hz1, hz2⟩ := info_parts info_int
  have HN := Lib.hid hn
  have HSZ := Lib.hid hs
  clear hn hs
  go_enter Tryd.func57, Tryd.ntmps57
  go_wp2
  go_loopw [4, 5] (fun v i wr => ∃ k : Nat, k ≤ n ∧ i = .int .i64 k ∧ Hid ((ws.take k).all (fun x => (rds x).2) = true) ∧ Owns wr w.heap.size 2 v ((val rds (ws.take k)).map vi) ∧ Below w.heap.size w wr) (fun _ i _ => n - (intOf i).toNat)
  case atStart => exact ⟨0, by omega, rfl, Lib.hid (by simp), by simpa [val] using Owns.new w _ _ (Nat.le_refl _), (Below.refl _ _).alloc (Nat.le_refl _) _⟩
  case round =>
    obtain ⟨k, hk, rfl, hok, hown, hb⟩ := hrel
    by_cases hlt : k < n
    · obtain ⟨p, hp⟩ := some_at (l := ws) (k := k) (by rw [HN.out]; exact hlt)
      obtain ⟨g, o, rfl, hg, hc⟩ := hA.at_ (map_at hp)
      have hc' : wr.cell? ⟨g, o + k, none⟩ = some (.string ⟨p.toArray⟩) := (hb.cell (p := ⟨g, o + k, none⟩) hg).trans hc
      have hpl := HSZ.out p (List.mem_of_getElem? hp)
      have HP := Lib.hid hp
      have hsz : (ByteArray.mk p.toArray).size ≤ maxLen := by
        show (List.toArray p).size ≤ maxLen
        rw [List.size_toArray]; unfold maxLen; omega
      have hC : ∀ w, Calls Tryd.prog 40 #[.string ⟨p.toArray⟩] w fun e w' => e = .returned (.tuple #[.int .i64 (rds p).1, .bool (rds p).2]) ∧ Gr w w' := fun w => signed_spec ⟨p.toArray⟩ w hsz
      have HL := Lib.hid (show ((val rds (ws.take k)).map vi).length = k by
        unfold val
        rw [List.length_map, List.length_map, List.length_take, HN.out]; omega)
      clear hp hc hpl hsz
      cases hr : (rds p).2
      · have HR := Lib.hid (numR_bad HP.out hr)
        rw [hr] at hC
        clear hr
        go_wp2_with fail
        refine (hC _).mono ?_
        rintro e w1 ⟨rfl, hg1⟩
        go_wp2_with fail
        go_ret2
        rw [HR.out]
        exact ⟨rfl, hb.trans (hg1.below.mono hb.size)⟩
      · have HO := Lib.hid (oks_snoc HP.out hok.out hr)
        have HV := Lib.hid (val_snoc (f := rds) HP.out)
        rw [hr] at hC
        clear hr
        generalize (rds p).1 = z at *
        go_wp2_with fail
        refine (hC _).mono ?_
        rintro e w1 ⟨rfl, hg1⟩
        have hb1 := hb.trans (hg1.below.mono hb.size)
        have hown1 : Owns w1 w.heap.size 2 u4 ((val rds (ws.take k)).map vi) := by
          obtain ⟨h1, h2⟩ := hown
          exact ⟨h1.kept ⟨hg1.below.os, hg1.below.tape, hg1.below.output, hg1.below.size, fun k hk _ => hg1.below.block k hk⟩ (row := none) (by cases u4.ownBlock <;> simp), h2⟩
        clear hC hg1 hown hb
        have hrow := hown1.1
        have HW := Lib.hid hown1
        clear hown1
        go_wp2_with (at_builtin; refine wpList_append_own _ rfl _ _ 36 rfl w.heap.size 2 i0 (.int .i64 0) 1 8 Tryd.underlying36 hi hz0 hz1 hz2 rfl (by decide) _ _ _ rfl (hrow.alloc _) ⟨w1.heap.size, 0, none⟩ 1 1 [.int .i64 z] rfl rfl (cell_one_new _ _ _) (by simp [Value.oneCell']) (by rw [HL.out]; unfold maxLen; omega) (by rw [HL.out]; omega) (by have := hb1.size; simp; omega) ?_; intro v' w2 hown' hgrow _)
        have hA2 := HW.out.app hb1 hown' hgrow
        have HA := Lib.hid hA2
        clear hA2 hown' hgrow hrow
        go_wp2_with fail
        go_roundw
        case rel => exact ⟨k + 1, by omega, by go_num, HO, by rw [HV.out, List.map_append]; exact HA.out.1, HA.out.2⟩
        case measure => simp [intOf]; omega
    · obtain rfl : k = n := by omega
      have e : ws.take k = ws := List.take_of_length_le (by rw [HN.out]; omega)
      have HR := Lib.hid (show numR rds ws = some (val rds ws) from numR_all (by have := hok.out; rwa [e] at this))
      rw [e] at hown
      clear e
      go_wp2_with fail
      go_ret2
      rw [HR.out]
      exact ⟨_, rfl, hown, hb⟩
end Go.Proofs.YtddnmhkhgpangaaDoor
