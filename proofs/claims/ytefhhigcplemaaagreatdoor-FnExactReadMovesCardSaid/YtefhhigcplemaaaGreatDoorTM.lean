/- Plain mathematics, merged. -/
import Derived.Test.YtefhhigcplemaaaGreatDoorME
import Derived.Test.YtefhhigcplemaaaGreatDoorTA
import Derived.Test.YtefhhigcplemaaaGreatDoorT11
import Derived.Test.YtefhhigcplemaaaGreatDoorTT
import Derived.Test.YtefhhigcplemaaaGreatDoorTD
import Derived.Test.YtefhhigcplemaaaGreatDoorMG
/- Plain mathematics of moves read from texts: splitting at colons (as M29 at slashes). No program is imported here. -/
namespace Go.Proofs.YtefhhigcplemaaaGreatDoor
set_option linter.unusedSimpArgs false
set_option linter.unusedVariables false

/-- The pieces between colones. -/
def spC : List UInt8 → List (List UInt8)
  | [] => [[]]
  | c :: r => if c = 58 then [] :: spC r else match spC r with
    | [] => [[c]]
    | p :: ps => (c :: p) :: ps
theorem spC_ne (l : List UInt8) : spC l ≠ [] := by
  cases l with
  | nil => simp [spC]
  | cons c r =>
    unfold spC
    split
    · simp
    · split <;> simp
theorem spC_colon (r : List UInt8) : spC (58 :: r) = [] :: spC r := by rw [spC, if_pos rfl]
theorem spC_else (c : UInt8) (r p : List UInt8) (ps : List (List UInt8)) (h : c ≠ 58) (e : spC r = p :: ps) : spC (c :: r) = (c :: p) :: ps := by rw [spC, if_neg h, e]
theorem spC_cut (a b : List UInt8) (ha : ∀ c ∈ a, c ≠ 58) : spC (a ++ 58 :: b) = a :: spC b := by
  induction a with
  | nil => exact spC_colon b
  | cons c a ih => exact spC_else c _ _ _ (ha c (by simp)) (ih fun x hx => ha x (by simp [hx]))
theorem spC_none (a : List UInt8) (ha : ∀ c ∈ a, c ≠ 58) : spC a = [a] := by
  induction a with
  | nil => rfl
  | cons c a ih => exact spC_else c _ _ _ (ha c (by simp)) (ih fun x hx => ha x (by simp [hx]))
/-- One byte more at the end. -/
theorem spC_snoc_colon (l : List UInt8) : spC (l ++ [58]) = spC l ++ [[]] := by
  induction l with
  | nil => rfl
  | cons c r ih =>
    by_cases h : c = 58
    · subst h; rw [List.cons_append, spC_colon, spC_colon, ih]; rfl
    · obtain ⟨p, ps, e⟩ := List.exists_cons_of_ne_nil (spC_ne r)
      rw [List.cons_append, spC_else c r p ps h e, spC_else c _ p (ps ++ [[]]) h (by rw [ih, e]; rfl)]; rfl
theorem spC_snoc (l : List UInt8) (x : UInt8) (hx : x ≠ 58) (qs : List (List UInt8)) (q : List UInt8) (e : spC l = qs ++ [q]) : spC (l ++ [x]) = qs ++ [q ++ [x]] := by
  induction l generalizing qs q with
  | nil =>
    have hq : qs = [] ∧ q = [] := by
      have : ([[]] : List (List UInt8)) = qs ++ [q] := e
      cases qs with
      | nil => simp at this; exact ⟨rfl, this⟩
      | cons a b => have := congrArg List.length this; simp at this
    rw [hq.1, hq.2]
    exact spC_none [x] (by simp [hx])
  | cons c r ih =>
    by_cases h : c = 58
    · subst h
      rw [spC_colon] at e
      cases qs with
      | nil =>
        have := congrArg List.length e
        simp at this
        exact absurd this (spC_ne r)
      | cons a b =>
        rw [List.cons_append] at e
        injection e with e1 e2
        rw [List.cons_append, spC_colon, ih b q e2, ← e1]; rfl
    · obtain ⟨p, ps, e'⟩ := List.exists_cons_of_ne_nil (spC_ne r)
      rw [spC_else c r p ps h e'] at e
      cases qs with
      | nil =>
        rw [List.nil_append] at e
        injection e with e1 e2
        subst e2 e1
        have := ih [] p (by rw [e']; rfl)
        rw [List.cons_append, spC_else c _ _ _ h (by rw [this]; rfl)]; rfl
      | cons a b =>
        rw [List.cons_append] at e
        injection e with e1 e2
        subst e2 e1
        have := ih (p :: b) q (by rw [e']; rfl)
        rw [List.cons_append, spC_else c _ _ _ h (by rw [this]; rfl)]; rfl

/-- Where the first colon is. -/
theorem ibC_none (l : List UInt8) (h : Lib.indexByte l 58 = -1) : ∀ c ∈ l, c ≠ 58 := by
  induction l with
  | nil => simp
  | cons b r ih =>
    unfold Lib.indexByte at h
    split at h
    · omega
    · rename_i hb
      have hb' : b ≠ 58 := by simpa using hb
      split at h
      · rename_i h1
        intro c hc
        rcases List.mem_cons.1 hc with rfl | hc
        · exact hb'
        · exact ih (by simpa using h1) c hc
      · rename_i h1
        have := Lib.index_ge r [58]
        rw [Lib.index_one] at this
        have h1' : Lib.indexByte r 58 ≠ -1 := by simpa using h1
        omega
theorem ibC_some (l : List UInt8) (i : Nat) (h : Lib.indexByte l 58 = i) : ∃ a b, l = a ++ 58 :: b ∧ a.length = i ∧ ∀ c ∈ a, c ≠ 58 := by
  induction l generalizing i with
  | nil => unfold Lib.indexByte at h; omega
  | cons b r ih =>
    unfold Lib.indexByte at h
    split at h
    · rename_i hb
      have hb' : b = 58 := by simpa using hb
      exact ⟨[], r, by rw [hb']; rfl, by simp; omega, by simp⟩
    · rename_i hb
      have hb' : b ≠ 58 := by simpa using hb
      split at h
      · omega
      · have := Lib.index_ge r [58]
        rw [Lib.index_one] at this
        obtain ⟨j, hj⟩ : ∃ j : Nat, Lib.indexByte r 58 = j := by
          rename_i h1
          have h1' : Lib.indexByte r 58 ≠ -1 := by simpa using h1
          exact ⟨(Lib.indexByte r 58).toNat, by omega⟩
        obtain ⟨a, c, e, hl, ha⟩ := ih j hj
        refine ⟨b :: a, c, by rw [e]; rfl, by simp; omega, ?_⟩
        intro x hx
        rcases List.mem_cons.1 hx with rfl | hx
        · exact hb'
        · exact ha x hx
/-- A split into at most k + 1 pieces: all pieces, or k + 1 of them. -/
theorem splitK_spC : ∀ (k : Nat) (l : List UInt8), ((spC l).length ≤ k + 1 → Lib.splitK [58] 0 k l = spC l) ∧ (k + 1 < (spC l).length → (Lib.splitK [58] 0 k l).length = k + 1)
  | 0, l => by
    refine ⟨fun h => ?_, fun _ => rfl⟩
    have hi := Lib.index_ge l [58]
    rw [Lib.index_one] at hi
    by_cases hm : Lib.indexByte l 58 = -1
    · rw [spC_none l (ibC_none l hm)]; rfl
    · obtain ⟨a, b, e, -, ha⟩ := ibC_some l (Lib.indexByte l 58).toNat (by omega)
      rw [e, spC_cut a b ha, List.length_cons] at h
      have := List.length_pos_iff.2 (spC_ne b)
      omega
  | k + 1, l => by
    have hi := Lib.index_ge l [58]
    rw [Lib.index_one] at hi
    unfold Lib.splitK
    rw [Lib.index_one]
    by_cases hm : Lib.indexByte l 58 = -1
    · rw [if_pos (by rw [hm]; rfl), spC_none l (ibC_none l hm)]
      exact ⟨fun _ => rfl, fun h => by simp at h⟩
    · rw [if_neg (by simpa using hm)]
      obtain ⟨a, b, e, hl, ha⟩ := ibC_some l (Lib.indexByte l 58).toNat (by omega)
      generalize (Lib.indexByte l 58).toNat = i at *
      subst hl
      have e1 : l.take (a.length + 0) = a := by rw [e]; simp
      have e2 : l.drop (a.length + 1) = b := by rw [e]; simp
      show (_ → l.take (a.length + 0) :: Lib.splitK [58] 0 k (l.drop (a.length + 1)) = spC l) ∧ (_ → (l.take (a.length + 0) :: Lib.splitK [58] 0 k (l.drop (a.length + 1))).length = k + 1 + 1)
      rw [e1, e2, e, spC_cut a b ha]
      obtain ⟨ih1, ih2⟩ := splitK_spC k b
      constructor
      · intro h
        rw [ih1 (by simp at h; omega)]
      · intro h
        rw [List.length_cons, ih2 (by simp at h; omega)]
theorem spC_length (l : List UInt8) : (spC l).length ≤ l.length + 1 := by
  induction l with
  | nil => simp [spC]
  | cons c r ih =>
    by_cases h : c = 58
    · subst h; rw [spC_colon]; simp; omega
    · obtain ⟨p, ps, e⟩ := List.exists_cons_of_ne_nil (spC_ne r)
      rw [spC_else c r p ps h e]
      rw [e] at ih
      simp at ih ⊢
      omega
theorem spC_size (l : List UInt8) : ∀ p ∈ spC l, p.length ≤ l.length := by
  induction l with
  | nil => simp [spC]
  | cons c r ih =>
    by_cases h : c = 58
    · subst h; rw [spC_colon]
      intro p hp
      rcases List.mem_cons.1 hp with rfl | hp
      · simp
      · have := ih p hp; simp; omega
    · obtain ⟨p, ps, e⟩ := List.exists_cons_of_ne_nil (spC_ne r)
      rw [spC_else c r p ps h e]
      rw [e] at ih
      intro q hq
      rcases List.mem_cons.1 hq with rfl | hq
      · have := ih p (by simp); simp; omega
      · have := ih q (by simp [hq]); simp; omega

end Go.Proofs.YtefhhigcplemaaaGreatDoor

/- Contracts: a text split at colons, in the model. -/
namespace Go.Proofs.YtefhhigcplemaaaGreatDoor
open Go.RowKit Go.ChangeShapes Go.WideShapes Go.ChangeAt
set_option linter.unusedVariables false
set_option linter.unusedSimpArgs false

/-- What holds at the head of the loop that splits. -/
def SpCI (s : ByteArray) (w wr : World) (k f : Nat) (v : Value) : Prop :=
  (k ≤ s.size ∧ f ≤ k ∧ ∃ done : List (List UInt8), spC (s.data.toList.take k) = done ++ [(s.data.toList.take k).drop f] ∧ done.length ≤ k ∧ Owns wr w.heap.size 9 v (done.map sv)) ∨
  (k = s.size + 1 ∧ Owns wr w.heap.size 9 v ((spC s.data.toList).map sv))

set_option maxHeartbeats 4000000 in
set_option maxRecDepth 100000 in
theorem splitC_spec (s : ByteArray) (w : World) (hs : s.size ≤ 1048576) :
    Calls Tryz.prog 73 #[.string s, .int .u8 58] w fun e w' => ∃ v, e = .returned v ∧ Owns w' w.heap.size 9 v ((spC s.data.toList).map sv) ∧ Below w.heap.size w w' := by
  obtain ⟨i0, hi, hz0, hz1, hz2⟩ := info_parts info_str
  go_enter Tryz.func73, Tryz.ntmps73
  go_wp2
  go_loopw [5, 6, 7] (fun v f i wr => ∃ k j : Nat, i = .int .i64 k ∧ f = .int .i64 j ∧ SpCI s w wr k j v ∧ Below w.heap.size w wr) (fun _ _ i _ => s.size + 1 - (intOf i).toNat)
  case atStart => exact ⟨0, 0, rfl, rfl, .inl ⟨by omega, by omega, [], rfl, by simp, Owns.new w _ _ (Nat.le_refl _)⟩, (Below.refl _ _).alloc (Nat.le_refl _) _⟩
  case round =>
    obtain ⟨k, j, rfl, rfl, hI, hb⟩ := hrel
    rcases hI with ⟨hk, hj, done, hd, hdl, hown⟩ | ⟨rfl, hown⟩
    · have HLD := Lib.hid (show (done.map sv).length = done.length from List.length_map _)
      have hown1 := hown.1
      have HX := Lib.hid (ext_sv s j k)
      have HD := Lib.hid hd
      have HO := Lib.hid hown
      clear hd hown
      by_cases he : k = s.size
      · subst he
        have hb1 : ((s.size : Int) == (s.size : Int)) = true := by simp
        go_wp2_with (at_builtin; refine wpList_append_own _ rfl _ _ 93 rfl w.heap.size 9 i0 (.string ⟨#[]⟩) 1 16 Tryz.underlying93 hi hz0 hz1 hz2 rfl (by decide) _ _ _ rfl (hown1.alloc _) ⟨wr.heap.size, 0, none⟩ 1 1 [.string (s.extract j s.size)] rfl rfl (cell_one_new _ _ _) (by simp [Value.oneCell']) (by rw [HLD.out]; unfold maxLen; omega) (by rw [HLD.out]; omega) (by have := hb.size; simp; omega) ?_; intro v' w1 hown' hgrow _)
        have hA := HO.out.app hb hown' hgrow
        rw [HX.out] at hA
        have HA := Lib.hid hA
        clear hA hown' hgrow hown1
        go_wp2_with fail
        go_roundw
        case rel => exact ⟨s.size + 1, s.size + 1, by go_num, by go_num, .inr ⟨rfl, by
          have e : s.data.toList.take s.size = s.data.toList := List.take_of_length_le (by rw [len_data]; exact Nat.le_refl _)
          have h2 := HD.out
          have h3 := HA.out.1
          rw [e] at h2 h3
          rw [h2, List.map_append]
          exact h3⟩, HA.out.2⟩
        case measure => simp [intOf]
      · have hlt : k < s.size := by omega
        have hb1 : ((k : Int) == (s.size : Int)) = false := by simp; omega
        have hts := Lib.hid (take_snoc s k hlt)
        clear he
        by_cases hc : s[k].toNat = 58
        · have hb2 : ((s[k].toNat : Int) == 58) = true := by simp [hc]
          have HC := Lib.hid (show s[k] = 58 from UInt8.toNat_inj.1 hc)
          clear hc
          go_wp2_with (at_builtin; refine wpList_append_own _ rfl _ _ 93 rfl w.heap.size 9 i0 (.string ⟨#[]⟩) 1 16 Tryz.underlying93 hi hz0 hz1 hz2 rfl (by decide) _ _ _ rfl (hown1.alloc _) ⟨wr.heap.size, 0, none⟩ 1 1 [.string (s.extract j k)] rfl rfl (cell_one_new _ _ _) (by simp [Value.oneCell']) (by rw [HLD.out]; unfold maxLen; omega) (by rw [HLD.out]; omega) (by have := hb.size; simp; omega) ?_; intro v' w1 hown' hgrow _)
          have hA := HO.out.app hb hown' hgrow
          rw [HX.out] at hA
          have HA := Lib.hid hA
          clear hA hown' hgrow hown1
          go_wp2_with fail
          go_roundw
          case rel => exact ⟨k + 1, k + 1, by go_num, by go_num, .inl ⟨by omega, by omega, done ++ [(s.data.toList.take k).drop j], by
            rw [hts.out, HC.out, spC_snoc_colon, HD.out]
            congr 2
            rw [List.drop_of_length_le (by rw [List.length_append, List.length_take]; simp; omega)], by rw [List.length_append]; simp; omega, by rw [List.map_append]; exact HA.out.1⟩, HA.out.2⟩
          case measure => simp [intOf]; omega
        · have hb2 : ((s[k].toNat : Int) == 58) = false := by simp; omega
          have HC := Lib.hid (show s[k] ≠ 58 from fun h => hc (by rw [h]; rfl))
          clear hc
          go_wp2_with fail
          go_roundw
          case rel => exact ⟨k + 1, j, by go_num, rfl, .inl ⟨by omega, by omega, done, by
            rw [hts.out, spC_snoc _ _ HC.out _ _ HD.out]
            congr 2
            rw [List.drop_append_of_le_length (by rw [List.length_take, len_data]; omega)], by omega, HO.out⟩, hb⟩
          case measure => simp [intOf]; omega
    · go_wp2_with fail
      go_ret
      exact ⟨_, rfl, hown, hb⟩

end Go.Proofs.YtefhhigcplemaaaGreatDoor

/- Texts of moves: what they are, what is read of them. -/
namespace Go.Proofs.YtefhhigcplemaaaGreatDoor
open Go.RowKit
set_option linter.unusedVariables false
set_option linter.unusedSimpArgs false

/-- The letter of a kind; a move's text. -/
def mvL (k : Int) : UInt8 := if k = 0 then 80 else if k = 1 then 83 else if k = 2 then 84 else if k = 3 then 76 else if k = 4 then 82 else if k = 5 then 108 else 114
def mvT (m : Mv) : List UInt8 := mvL m.1 :: (if mvF m.1 = true then nmL m.2.1 ++ 58 :: (figB m.2.2.1 m.2.2.2).data.toList else [])
theorem mvT_fig {k s d t : Int} (h : mvF k = true) : mvT (k, s, d, t) = mvL k :: (nmL s ++ 58 :: (figB d t).data.toList) := by
  show mvL k :: (if mvF k = true then _ else _) = _
  rw [if_pos h]
theorem mvT_pl {k s d t : Int} (h : mvF k = false) : mvT (k, s, d, t) = [mvL k] := by
  show mvL k :: (if mvF k = true then _ else _) = _
  rw [if_neg (by rw [h]; simp)]
theorem figL_len (d t : Int) (h : fg d t = true) : (figB d t).data.toList.length ≤ 30 := by
  obtain ⟨⟨a1, a2⟩, t1, t2⟩ := (fg_iff d t).1 h
  rw [figB_data]
  have h4 : (Lib.itoa d).length = 4 := by rw [← itoaB_data, len_data, itoa_four d a1 a2]
  have ht : (Lib.itoa t).length ≤ 20 := by rw [← itoaB_data, len_data]; exact (itoa_len t (by omega) (by omega)).2
  simp; omega
theorem mvT_len {m : Mv} (h : mvB m = true) : (mvT m).length ≤ 34 := by
  obtain ⟨k, s, d, t⟩ := m
  rcases mvB_cases h with ⟨hk, h1, h2⟩ | ⟨hk, -⟩
  · rw [mvT_fig ((mvF_iff k).2 (by omega))]
    have := figL_len d t h2
    have hn : (nmL s).length ≤ 2 := (nmA_len s.toNat).1
    rw [List.length_cons, List.length_append, List.length_cons]; omega
  · rw [mvT_pl (by cases hc : mvF k; rfl; have := (mvF_iff k).1 hc; omega)]
    simp
theorem jnB_len (l : List (List UInt8)) (h : ∀ x ∈ l, x.length ≤ 34) : (Lib.join l [32]).length ≤ 35 * l.length := by
  have tail : ∀ r : List (List UInt8), (∀ x ∈ r, x.length ≤ 34) → (Lib.joinTail [32] r).length ≤ 35 * r.length := by
    intro r
    induction r with
    | nil => intro _; simp [Lib.joinTail]
    | cons a r ih =>
      intro h
      have h1 := h a (by simp)
      have h2 := ih (fun x hx => h x (by simp [hx]))
      unfold Lib.joinTail at *
      simp only [List.map_cons, List.flatten_cons, List.length_append, List.length_cons, List.length_nil] at *
      omega
  cases l with
  | nil => simp [Lib.join_nil]
  | cons a r =>
    have h1 := h a (by simp)
    have h2 := tail r (fun x hx => h x (by simp [hx]))
    rw [Lib.join_cons, List.length_append, List.length_cons]
    omega
/-- The texts of the first k moves, joined. -/
def mJ (ms : List Mv) (k : Nat) : ByteArray := ⟨(Lib.join ((ms.take k).map mvT) [32]).toArray⟩
theorem mJ_zero (ms : List Mv) : mJ ms 0 = ⟨#[]⟩ := by unfold mJ; simp [Lib.join_nil]
def mvS8 (m : Mv) : ByteArray := ⟨(mvT m).toArray⟩
theorem mJ_one {ms : List Mv} {m : Mv} (h : ms[0]? = some m) : mJ ms 1 = mvS8 m := by
  cases ms with
  | nil => cases h
  | cons a r => simp at h; subst h; unfold mJ; simp [Lib.join_one, mvS8]
theorem mJ_succ {ms : List Mv} {k : Nat} {m : Mv} (h : ms[k]? = some m) (hk : 0 < k) : mJ ms (k + 1) = mJ ms k ++ ⟨#[32]⟩ ++ mvS8 m := by
  obtain ⟨hl, e⟩ := List.getElem?_eq_some_iff.1 h
  unfold mJ mvS8
  rw [List.take_succ_eq_append_getElem hl, e, List.map_append, List.map_cons, List.map_nil, join_snoc, if_neg (by
    intro h0
    rw [List.map_eq_nil_iff, List.take_eq_nil_iff] at h0
    rcases h0 with h0 | h0
    · omega
    · rw [h0] at hl; simp at hl)]
  rw [ByteArray.mk_append_mk, ByteArray.mk_append_mk]
theorem mJ_size {ms : List Mv} (hv : ms.all mvB = true) (k : Nat) : (mJ ms k).size ≤ 35 * ms.length := by
  unfold mJ
  show (List.toArray _).size ≤ _
  rw [List.size_toArray]
  have := jnB_len ((ms.take k).map mvT) (fun x hx => by
    obtain ⟨z, hz, rfl⟩ := List.mem_map.1 hx
    exact mvT_len (List.all_eq_true.1 hv z (List.mem_of_mem_take hz)))
  rw [List.length_map, List.length_take] at this
  omega
theorem mvS8_fig {k s d t : Int} (h : mvF k = true) : mvS8 (k, s, d, t) = ⟨#[mvL k]⟩ ++ nmA s.toNat ++ ⟨#[58]⟩ ++ figB d t := by
  unfold mvS8
  apply ByteArray.ext
  apply Array.toList_inj.1
  rw [mvT_fig h]
  simp only [ByteArray.data_append, Array.toList_append, nmL]
  simp
theorem mvS8_pl {k s d t : Int} (h : mvF k = false) : mvS8 (k, s, d, t) = ⟨#[mvL k]⟩ := by unfold mvS8; rw [mvT_pl h]
theorem mvS8_size {m : Mv} (h : mvB m = true) : (mvS8 m).size ≤ 34 := by
  unfold mvS8
  show (List.toArray _).size ≤ _
  rw [List.size_toArray]
  exact mvT_len h

/-- What a text spells of a figure. -/
def rfM (s : ByteArray) : (Int × Int) × Int := rfT s (rf2 (rvI (rfx s)) (rvI (rfy s)))
theorem rfM_alt (s : ByteArray) : rfT s (rf2 (rdv (rfx s)) (rds (rfy s))) = rfM s := by unfold rfM; rw [rf2_same]
/-- The kind of a letter. -/
def mvQ (b : UInt8) : Option Int := if b = 80 then some 0 else if b = 83 then some 1 else if b = 84 then some 2 else if b = 76 then some 3 else if b = 82 then some 4 else if b = 108 then some 5 else if b = 114 then some 6 else none
theorem mvQ_L {k : Int} (h1 : 0 ≤ k) (h2 : k ≤ 6) : mvQ (mvL k) = some k := by
  rcases (show k = 0 ∨ k = 1 ∨ k = 2 ∨ k = 3 ∨ k = 4 ∨ k = 5 ∨ k = 6 by omega) with rfl | rfl | rfl | rfl | rfl | rfl | rfl <;> decide
theorem mvQ_some {b : UInt8} {k : Int} (h : mvQ b = some k) : (0 ≤ k ∧ k ≤ 6) ∧ mvL k = b := by
  unfold mvQ at h
  split at h
  · injection h with h; subst h; exact ⟨by omega, by rename_i e; rw [e]; decide⟩
  split at h
  · injection h with h; subst h; exact ⟨by omega, by rename_i e; rw [e]; decide⟩
  split at h
  · injection h with h; subst h; exact ⟨by omega, by rename_i e; rw [e]; decide⟩
  split at h
  · injection h with h; subst h; exact ⟨by omega, by rename_i e; rw [e]; decide⟩
  split at h
  · injection h with h; subst h; exact ⟨by omega, by rename_i e; rw [e]; decide⟩
  split at h
  · injection h with h; subst h; exact ⟨by omega, by rename_i e; rw [e]; decide⟩
  split at h
  · injection h with h; subst h; exact ⟨by omega, by rename_i e; rw [e]; decide⟩
  · cases h
/-- A move of a scale's name and a figure's text. -/
def rmV (k : Int) (x y : List UInt8) : Mv × Bool := ((k, (rsR ⟨x.toArray⟩).1, (rfM ⟨y.toArray⟩).1.1, (rfM ⟨y.toArray⟩).1.2), decide ((rsR ⟨x.toArray⟩).2 = 0) && decide ((rfM ⟨y.toArray⟩).2 = 0))
def rmP (k : Int) (ws : List (List UInt8)) : Mv × Bool := match ws with
  | [x, y] => rmV k x y
  | _ => ((0, 0, 0, 0), false)
theorem rmP_two (k : Int) (x y : List UInt8) : rmP k [x, y] = rmV k x y := rfl
theorem rmP_no (k : Int) (ws : List (List UInt8)) (h : ws.length ≠ 2) : rmP k ws = ((0, 0, 0, 0), false) := by
  unfold rmP
  split
  · exact absurd rfl h
  · rfl
/-- What the model reads of a word. -/
def rmS (p : List UInt8) : Mv × Bool := match p with
  | [] => ((0, 0, 0, 0), false)
  | b :: r => match mvQ b with
    | none => ((0, 0, 0, 0), false)
    | some k => if mvF k = true then rmP k (spC r) else ((k, 0, 0, 0), r.isEmpty)
/-- What stands before and behind the first colon. -/
def cutC (r : List UInt8) : List UInt8 × List UInt8 := match r with
  | [] => ([], [])
  | c :: l => if c = 58 then ([], l) else (c :: (cutC l).1, (cutC l).2)
theorem cutC_cut (a b : List UInt8) (ha : ∀ c ∈ a, c ≠ 58) : cutC (a ++ 58 :: b) = (a, b) := by
  induction a with
  | nil => show (if (58 : UInt8) = 58 then _ else _) = _; rw [if_pos rfl]
  | cons c a ih =>
    rw [List.cons_append]
    show (if c = 58 then _ else _) = _
    rw [if_neg (ha c (by simp)), ih (fun x hx => ha x (by simp [hx]))]
theorem cutC_none (a : List UInt8) (ha : ∀ c ∈ a, c ≠ 58) : cutC a = (a, []) := by
  induction a with
  | nil => rfl
  | cons c a ih =>
    show (if c = 58 then _ else _) = _
    rw [if_neg (ha c (by simp)), ih (fun x hx => ha x (by simp [hx]))]
/-- What the program reads of a word. -/
def rmI (p : List UInt8) : Mv × Bool := match p with
  | [] => ((0, 0, 0, 0), false)
  | b :: r => match mvQ b with
    | none => ((0, 0, 0, 0), false)
    | some k => if mvF k = true then rmV k (cutC r).1 (cutC r).2 else ((k, 0, 0, 0), r.isEmpty)
theorem dgt_n58 (c : UInt8) (h : dgt c) : c ≠ 58 := by
  obtain ⟨h1, h2⟩ := h
  intro e; rw [e] at h2; revert h2; decide
theorem itoa_n58 (z : Int) : ∀ c ∈ Lib.itoa z, c ≠ 58 := by
  intro c hc
  unfold Lib.itoa at hc
  split at hc
  · rcases List.mem_cons.1 hc with rfl | h
    · decide
    · exact dgt_n58 c (dec_dgt _ c h)
  · exact dgt_n58 c (dec_dgt _ c hc)
theorem figL_n58 (d t : Int) : ∀ c ∈ (figB d t).data.toList, c ≠ 58 := by
  intro c hc
  rw [figB_data] at hc
  simp only [List.mem_append, List.mem_cons] at hc
  rcases hc with (h | h | h) | h | h
  · exact itoa_n58 d c (List.mem_of_mem_take h)
  · rw [h]; decide
  · exact itoa_n58 d c (List.mem_of_mem_take (List.mem_of_mem_drop h))
  · rw [h]; decide
  · exact itoa_n58 t c h
theorem rfM_yes {y : List UInt8} (h : (rfM ⟨y.toArray⟩).2 = 0) : ∃ d t, fg d t = true ∧ rfM ⟨y.toArray⟩ = ((d, t), 0) ∧ y = (figB d t).data.toList := by
  rcases read_text ⟨y.toArray⟩ with e | ⟨d, t, h1, h2, h3⟩
  · exact absurd h e
  · exact ⟨d, t, h1, h2, by rw [h3]⟩
theorem rfM_nil : (rfM ⟨(List.toArray [] : Array UInt8)⟩).2 ≠ 0 := by
  unfold rfM
  rw [rfT_short _ _ (by decide)]
  decide
theorem rmV_no {k : Int} {x y : List UInt8} (h : (rfM ⟨y.toArray⟩).2 ≠ 0) : (rmV k x y).2 = false := by
  unfold rmV
  simp [h]
/-- Both read the same, where there is something to be read. -/
theorem rm_cut (k : Int) (r : List UInt8) : (rmP k (spC r)).2 = (rmV k (cutC r).1 (cutC r).2).2 ∧ ((rmP k (spC r)).2 = true → rmP k (spC r) = rmV k (cutC r).1 (cutC r).2) := by
  by_cases hn : ∀ c ∈ r, c ≠ 58
  · rw [spC_none r hn, cutC_none r hn, rmP_no _ _ (by simp)]
    have h2 : (rmV k r []).2 = false := rmV_no rfM_nil
    simp only [h2]
    exact ⟨trivial, fun h => by cases h⟩
  · obtain ⟨a, b, rfl, ha⟩ : ∃ a b, r = a ++ 58 :: b ∧ ∀ c ∈ a, c ≠ 58 := by
      clear k
      induction r with
      | nil => exact absurd (by simp) hn
      | cons c l ih =>
        by_cases hc : c = 58
        · subst hc; exact ⟨[], l, rfl, by simp⟩
        · obtain ⟨a, b, e, h1⟩ := ih (fun h => hn (by intro x hx; rcases List.mem_cons.1 hx with rfl | hx; exact hc; exact h x hx))
          refine ⟨c :: a, b, by rw [e]; rfl, ?_⟩
          intro x hx
          rcases List.mem_cons.1 hx with rfl | hx
          · exact hc
          · exact h1 x hx
    rw [spC_cut a b ha, cutC_cut a b ha]
    by_cases hb : ∀ c ∈ b, c ≠ 58
    · rw [spC_none b hb, rmP_two]
      exact ⟨rfl, fun _ => rfl⟩
    · have h3 : (a :: spC b).length ≠ 2 := by
        intro h
        obtain ⟨q, hq⟩ : ∃ q, spC b = [q] := by
          match hs : spC b, h with
          | [q], _ => exact ⟨q, rfl⟩
        refine hb ?_
        clear h hn ha
        induction b generalizing q with
        | nil => simp
        | cons c l ih =>
          by_cases hc : c = 58
          · subst hc; rw [spC_colon] at hq; injection hq with h1 h2; exact absurd h2 (spC_ne l)
          · obtain ⟨p, ps, e⟩ := List.exists_cons_of_ne_nil (spC_ne l)
            rw [spC_else c l p ps hc e] at hq
            injection hq with h1 h2
            subst h2
            intro x hx
            rcases List.mem_cons.1 hx with rfl | hx
            · exact hc
            · refine ih ?_ p e x hx
              intro hh
              refine hb ?_
              intro y hy
              rcases List.mem_cons.1 hy with rfl | hy
              · exact hc
              · exact hh y hy
      rw [rmP_no _ _ h3]
      have h2 : (rmV k a b).2 = false := by
        cases hc : (rmV k a b).2
        · rfl
        · have h4 : (rfM ⟨b.toArray⟩).2 = 0 := by
            unfold rmV at hc
            simp only [Bool.and_eq_true, decide_eq_true_eq] at hc
            exact hc.2
          obtain ⟨d, t, -, -, e⟩ := rfM_yes h4
          exact absurd (by rw [e]; exact figL_n58 d t) hb
      simp only [h2]
      exact ⟨trivial, fun h => by cases h⟩
theorem rm_same (p : List UInt8) : (rmS p).2 = (rmI p).2 ∧ ((rmS p).2 = true → rmS p = rmI p) := by
  cases p with
  | nil => exact ⟨rfl, fun _ => rfl⟩
  | cons b r =>
    unfold rmS rmI
    simp only
    cases mvQ b with
    | none => exact ⟨rfl, fun _ => rfl⟩
    | some k =>
      simp only
      by_cases h : mvF k = true
      · rw [if_pos h, if_pos h]; exact rm_cut k r
      · rw [if_neg h, if_neg h]; exact ⟨rfl, fun _ => rfl⟩
/-- What is read of words; of a text. -/
def rmW (f : List UInt8 → Mv × Bool) (ws : List (List UInt8)) : Option (List Mv) := if (ws.all (fun x => (f x).2) && decide (mvC (ws.map fun x => (f x).1) = 0)) = true then some (ws.map fun x => (f x).1) else none
theorem rmW_same (ws : List (List UInt8)) : rmW rmS ws = rmW rmI ws := by
  unfold rmW
  have h1 : ws.all (fun x => (rmS x).2) = ws.all (fun x => (rmI x).2) := by congr 1; funext x; exact (rm_same x).1
  rw [h1]
  cases hc : ws.all (fun x => (rmI x).2)
  · simp
  · have h2 : (ws.map fun x => (rmS x).1) = ws.map fun x => (rmI x).1 := by
      refine List.map_congr_left fun x hx => ?_
      have h3 := List.all_eq_true.1 hc x hx
      rw [(rm_same x).2 (by rw [(rm_same x).1]; exact h3)]
    rw [h2]
def rmO (s : ByteArray) : Option (List Mv) := if s.size = 0 then some [] else rmW rmS (spB s.data.toList)
theorem rmW_bad {f : List UInt8 → Mv × Bool} {ws : List (List UInt8)} {k : Nat} {p : List UInt8} (h : ws[k]? = some p) (hp : (f p).2 = false) : rmW f ws = none := by
  unfold rmW
  rw [if_neg]
  intro hc
  rw [Bool.and_eq_true, List.all_eq_true] at hc
  have := hc.1 p (List.mem_of_getElem? h)
  rw [hp] at this; cases this
theorem rmW_all {f : List UInt8 → Mv × Bool} {ws : List (List UInt8)} (h : ws.all (fun x => (f x).2) = true) : rmW f ws = if mvC (ws.map fun x => (f x).1) = 0 then some (ws.map fun x => (f x).1) else none := by
  unfold rmW
  rw [h, Bool.true_and]
  by_cases hm : mvC (ws.map fun x => (f x).1) = 0
  · rw [if_pos hm, if_pos (by simp [hm])]
  · rw [if_neg hm, if_neg (by simp [hm])]
theorem rmW_long {f : List UInt8 → Mv × Bool} {ws : List (List UInt8)} (h : 30 < ws.length) : rmW f ws = none := by
  unfold rmW
  rw [if_neg]
  intro hc
  rw [Bool.and_eq_true] at hc
  have h1 := (mvC_zero (of_decide_eq_true hc.2)).2
  rw [List.length_map] at h1
  omega
end Go.Proofs.YtefhhigcplemaaaGreatDoor
