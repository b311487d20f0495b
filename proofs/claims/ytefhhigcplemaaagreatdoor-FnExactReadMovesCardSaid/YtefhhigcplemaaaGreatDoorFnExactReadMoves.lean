/- For every string the program's ReadMoves answers as the model does and answers so again when the first answer was written over, and the law returns true. No condition beyond the library's and the program's tables and errors as their texts lay them. -/
import Derived.Test.YtefhhigcplemaaaGreatDoorTV
import Derived.Test.YtefhhigcplemaaaGreatDoor2A
import Derived.Test.YtefhhigcplemaaaGreatDoor1A
import Derived.Test.YtefhhigcplemaaaGreatDoorDr
import Derived.Test.YtefhhigcplemaaaGreatDoorTie
import Derived.Test.YtefhhigcplemaaaGreatDoorCards
import Derived.Test.YtefhhigcplemaaaGreatDoorD1
import Derived.Below
import Derived.Carry
import Derived.ChangeSlices
import Derived.OpenVars
import Derived.Test.YtefhhigcplemaaaGreatDoorRows
import Derived.WalkKit
import Derived.ProofKit
import Derived.OpenShut
import Derived.Test.YtefhhigcplemaaaGreatDoorDs
import Derived.HandedShaped
/- The frame of a law's proof: arguments read as before where nothing below the old heap has turned; opening a code of bytes. -/
namespace Go.Proofs.YtefhhigcplemaaaGreatDoor
open Go.RowKit Go.ChangeShapes Go.WideShapes Go.ChangeAt
set_option linter.unusedVariables false
set_option linter.unusedSimpArgs false

theorem laidOut : laidOutB Tryz.prog = true := by kernel_rfl

theorem u8_bd {z : Int} (hw : (Lit.int .u8 z).wf = true) : 0 ≤ z ∧ z < 256 := by
  simp only [Lit.wf, Bool.and_eq_true, decide_eq_true_eq] at hw
  have h1 : (0 : Int) ≤ z := hw.1
  have h2 : z ≤ (255 : Int) := hw.2
  omega

section
variable {P : Program} {H : Type} {enc : TypeId × Value → H} {W W' : World}

theorem trodAll_later (hl : laidOutB P = true) (hb : Below W.heap.size W W') : ∀ {ts : List TypeId} {vs : List Value} {ds : List (DataW H)} {ps : List MemPlace},
    (ts.all fun t => P.readableRec t && decide (t < P.types.size)) = true → (∀ x ∈ ps, x.block < W.heap.size) →
    DataW.TrodAll enc P W 0 (fun _ => true) true ts vs ds ps → DataW.TrodAll enc P W' 0 (fun b => decide (b < W.heap.size)) true ts vs ds ps
  | [], _, _, _, _, _, h => by
    obtain ⟨rfl, rfl, rfl⟩ := trodAll_nil h
    exact trodAll_mk0
  | t :: ts, _, _, _, hr, hlt, h => by
    obtain ⟨v, vs, d, ds, p, q, rfl, rfl, rfl, h1, h2⟩ := trodAll_cons h
    rw [List.all_cons, Bool.and_eq_true] at hr
    have h0 := hr.1
    rw [Bool.and_eq_true, decide_eq_true_eq] at h0
    exact trodAll_cons_mk (Below.trod hl h0.1 h0.2 h1 hb fun x hx => hlt x (List.mem_append.2 (.inl hx))) (trodAll_later hl hb hr.2 (fun x hx => hlt x (List.mem_append.2 (.inr hx))) h2)

/-- A law that answered true and left the old memory alone meets its row. -/
theorem law_post {f : Func} {s : ChangeSpec} {apart fresh handsOn : Bool} {args : Array Value} {ds gs : List (DataW H)} {before p q : List MemPlace} (hl : laidOutB P = true)
    (hW : DataW.Whole enc P f.params.toList s.vars apart W args.toList ds gs before)
    (hT : DataW.TrodAll enc P W 0 (fun _ => true) true f.params.toList args.toList ds p) (hq : before = p ++ q)
    (hread : (f.params.toList.all fun t => P.readableRec t && decide (t < P.types.size)) = true)
    (hvars : ∀ sp : Nat → Bool, (∀ x ∈ before, sp x.block = true) → DataW.TrodVars enc P W' sp s.vars (s.fn H (ds ++ gs)).vars q)
    (hfn : (s.fn H (ds ++ gs)).args = ds) (hres : (s.fn H (ds ++ gs)).results = [.lit (.bool true)]) {tb : TypeId} (hrt : f.resultTypes = #[tb]) (htb : P.underlying tb = some .bool)
    (hb : Below W.heap.size W W') : s.post enc P f apart fresh handsOn false W args (.bool true) W' := by
  have hlt : ∀ x ∈ before, x.block < W.heap.size := fun x hx => hW.lt x hx
  refine ⟨ds, gs, before, [], p, q, hW, ?_, ?_, hvars _ fun x hx => by simpa using hlt x hx, World.keptBut_mono (fun x hx => ⟨hx, by rw [hq, List.mem_append] at hx; exact .inr hx⟩) (hb.frame (· ∈ before)), fun h => nomatch h⟩
  · rw [hrt, hres]
    exact trodAll_cons_mk (shut_bool htb true) trodAll_mk0
  · rw [hfn]
    exact trodAll_later hl hb hread (fun x hx => hlt x (by rw [hq]; exact List.mem_append.2 (.inl hx))) hT

/-- A slice of bytes, opened. -/
theorem open_code {t e : TypeId} {v : Value} {d : DataW H} {ps : List MemPlace} (ht : P.underlying t = some (.slice e)) (he : P.underlying e = some (.int .u8)) (hc : P.cellsOf e = 1) {r : Reach} {b0 : Nat}
    (hval : Value.okWide P W r b0 t v) (h : DataW.Trod enc P W 0 (fun _ => true) true t v d ps) :
    ∃ (A : Option Addr) (n c : Nat), v = .slice A n c ∧ n ≤ maxLen ∧ Bytes W W.heap.size A n := by
  obtain ⟨A, n, c, rfl⟩ := okWide_slice ht hval
  obtain ⟨fuel, hf⟩ := h
  rcases open_ints ht he hc hf with ⟨hv, -⟩ | ⟨a, len, cap, zs, hv, hbase, hlen, hcap, hz, -, hcell, hwf⟩
  · simp [Value.cells] at hv
    obtain ⟨rfl, rfl, rfl⟩ := hv
    exact ⟨none, 0, 0, rfl, by simp [maxLen], fun k hk => absurd hk (by omega)⟩
  · simp [Value.cells] at hv
    obtain ⟨rfl, rfl, rfl⟩ := hv
    refine ⟨some a, n, c, rfl, by omega, fun k hk => ?_⟩
    simp at hz
    have hkz : k < zs.length := by omega
    have h1 := hcell k hkz
    have hs : a.spot = none := by
      have h0 := hcell 0 (by omega)
      cases hsp : a.spot with
      | none => rfl
      | some s =>
        have : (a.add 0) = a := by unfold Addr.add; simp
        rw [this] at h0
        unfold World.cell? at h0
        rw [hsp] at h0
        split at h0 <;> simp at h0
    obtain ⟨g, o, sp⟩ := a
    simp at hs
    subst hs
    have hadd : (⟨g, o, none⟩ : Addr).add k = ⟨g, o + k, none⟩ := add_plain ..
    rw [hadd] at h1
    have hw := hwf (zs.getD k 0) (by simp [List.getD, hkz])
    generalize zs.getD k 0 = z at *
    have hw := u8_bd hw
    obtain ⟨x, rfl⟩ := Int.eq_ofNat_of_zero_le (show 0 ≤ z by omega)
    exact ⟨g, o, x, rfl, World.block_lt_of_cell? W _ h1, by omega, h1⟩
end
/-- The law answered true, and the old memory is as it was. -/
def LawDone (w : World) (e : Ending) (w' : World) : Prop := e = .returned (.bool true) ∧ Below w.heap.size w w'
end Go.Proofs.YtefhhigcplemaaaGreatDoor

/- The frame of a law whose program reads tables of its own: what they hold is read behind the call as before. -/
namespace Go.Proofs.YtefhhigcplemaaaGreatDoor
open Go.RowKit Go.ChangeShapes Go.WideShapes Go.ChangeAt
set_option linter.unusedVariables false
set_option linter.unusedSimpArgs false

section
variable {P : Program} {H : Type} {enc : TypeId × Value → H} {W W' : World}
theorem law_postv {f : Func} {s : ChangeSpec} {apart fresh handsOn : Bool} {args : Array Value} {ds gs : List (DataW H)} {before p q : List MemPlace} (hl : laidOutB P = true)
    (hW : DataW.Whole enc P f.params.toList s.vars apart W args.toList ds gs before)
    (hT : DataW.TrodAll enc P W 0 (fun _ => true) true f.params.toList args.toList ds p) (hq : before = p ++ q)
    (hread : (f.params.toList.all fun t => P.readableRec t && decide (t < P.types.size)) = true)
    (hvr : varsRowed P s.vars = true) (hV : DataW.TrodVars enc P W (fun _ => true) s.vars gs q) (hvs : (s.fn H (ds ++ gs)).vars = gs)
    (hfn : (s.fn H (ds ++ gs)).args = ds) (hres : (s.fn H (ds ++ gs)).results = [.lit (.bool true)]) {tb : TypeId} (hrt : f.resultTypes = #[tb]) (htb : P.underlying tb = some .bool)
    (hb : Below W.heap.size W W') : s.post enc P f apart fresh handsOn false W args (.bool true) W' := by
  have hlt : ∀ x ∈ before, x.block < W.heap.size := fun x hx => hW.lt x hx
  refine ⟨ds, gs, before, [], p, q, hW, ?_, ?_, ?_, World.keptBut_mono (fun x hx => ⟨hx, by rw [hq, List.mem_append] at hx; exact .inr hx⟩) (hb.frame (· ∈ before)), fun h => nomatch h⟩
  · rw [hrt, hres]
    exact trodAll_cons_mk (shut_bool htb true) trodAll_mk0
  · rw [hfn]
    exact trodAll_later hl hb hread (fun x hx => hlt x (by rw [hq]; exact List.mem_append.2 (.inl hx))) hT
  · rw [hvs]
    exact Below.trodVars hl hb hvr hV
/-- How many named variables a law has: their data. -/
theorem vars_one {n : String} {gs : List (DataW H)} {q : List MemPlace} (h : DataW.TrodVars enc P W (fun _ => true) [n] gs q) : ∃ g, gs = [g] := by
  cases gs with
  | nil => exact h.elim
  | cons g r => cases r with
    | nil => exact ⟨g, rfl⟩
    | cons g' r' => obtain ⟨_, _, _, _, _, _, -, -, -, -, h, -⟩ := h; exact h.elim
theorem vars_two {n m : String} {gs : List (DataW H)} {q : List MemPlace} (h : DataW.TrodVars enc P W (fun _ => true) [n, m] gs q) : ∃ g g', gs = [g, g'] := by
  cases gs with
  | nil => exact h.elim
  | cons g r =>
    obtain ⟨_, _, _, _, _, _, -, -, -, -, h, -⟩ := h
    obtain ⟨g', rfl⟩ := vars_one h
    exact ⟨g, g', rfl⟩
theorem vars_three {n m k : String} {gs : List (DataW H)} {q : List MemPlace} (h : DataW.TrodVars enc P W (fun _ => true) [n, m, k] gs q) : ∃ g g' g'', gs = [g, g', g''] := by
  cases gs with
  | nil => exact h.elim
  | cons g r =>
    obtain ⟨_, _, _, _, _, _, -, -, -, -, h, -⟩ := h
    obtain ⟨g', g'', rfl⟩ := vars_two h
    exact ⟨g, g', g'', rfl⟩
theorem vars_four {n m k l : String} {gs : List (DataW H)} {q : List MemPlace} (h : DataW.TrodVars enc P W (fun _ => true) [n, m, k, l] gs q) : ∃ g g' g'' g3, gs = [g, g', g'', g3] := by
  cases gs with
  | nil => exact h.elim
  | cons g r =>
    obtain ⟨_, _, _, _, _, _, -, -, -, -, h, -⟩ := h
    obtain ⟨g', g'', g3, rfl⟩ := vars_three h
    exact ⟨g, g', g'', g3, rfl⟩
end
end Go.Proofs.YtefhhigcplemaaaGreatDoor
namespace Go.Proofs.YtefhhigcplemaaaGreatDoor.fnExactReadMoves
open Go.ChangeShapes Go.WideShapes Go.ChangeAt Go.RowKit
set_option linter.unusedVariables false
set_option linter.unusedSimpArgs false

theorem own : ownKnob Tryz.prog.godebug = none := by kernel_rfl

theorem tab {w : World} (hL : laidMet Tryz.prog Rows.fnExactReadMovesRow.laid w) : Tab w := by
  have h := hL.filter (fun x => x.1 == "internal/strconv.uint64pow10")
  have e : Rows.fnExactReadMovesRow.laid.filter (fun x => x.1 == "internal/strconv.uint64pow10") = [("internal/strconv.uint64pow10", Lib.tabData .u64 Lib.pow10Tab)] := by rfl
  rw [e] at h
  exact Lib.tabIs_of_head (g := 2) (by kernel_rfl) (by kernel_rfl) Tryz.underlying228 Tryz.underlying46 (by kernel_rfl) (by kernel_rfl) h

theorem errs {w : World} (hL : laidMet Tryz.prog Rows.fnExactReadMovesRow.laid w) : Errs w := by
  have h1 := hL.filter (fun x => x.1 == "strconv.ErrSyntax")
  have e1 : Rows.fnExactReadMovesRow.laid.filter (fun x => x.1 == "strconv.ErrSyntax") = [("strconv.ErrSyntax", Rows.laid_strconv_ErrSyntax)] := by rfl
  rw [e1] at h1
  have h2 := hL.filter (fun x => x.1 == "strconv.ErrRange")
  have e2 : Rows.fnExactReadMovesRow.laid.filter (fun x => x.1 == "strconv.ErrRange") = [("strconv.ErrRange", Rows.laid_strconv_ErrRange)] := by rfl
  rw [e2] at h2
  exact errs_of h1 h2

theorem nmsl {w : World} (hL : laidMet Tryz.prog Rows.fnExactReadMovesRow.laid w) : Nms w := by
  have h := hL.filter (fun x => x.1 == "loop.example/g00951/impl.scaleNames")
  have e : Rows.fnExactReadMovesRow.laid.filter (fun x => x.1 == "loop.example/g00951/impl.scaleNames") = [("loop.example/g00951/impl.scaleNames", strData [[67], [65], [75], [67, 73], [67, 70], [76]])] := by rfl
  rw [e] at h
  exact nms_of (strIs_of_head (g := 0) (by kernel_rfl) (by kernel_rfl) Tryz.underlying156 Tryz.underlying9 (by kernel_rfl) (by kernel_rfl) h)

theorem LstG.keep {T : TypeId} {w w' : World} {B : Nat} {v : Value} {xs : List Mv} (h : LstG mcl 4 T w B v xs) (hk : ∀ g, v.ownBlock = some g → g < w.heap.size → w'.heap[g]? = w.heap[g]?) : LstG mcl 4 T w' B v xs := by
  refine ⟨h.1, ?_⟩
  rcases h.2 with h0 | ⟨g, cap, cur, rfl, hB, hg, r⟩
  · exact .inl h0
  · exact .inr ⟨g, cap, cur, rfl, hB, (hk g rfl (Array.getElem?_eq_some_iff.1 hg).1).trans hg, r⟩
theorem rm_len {s : ByteArray} : ((rmO s).getD []).length ≤ 30 := by
  unfold rmO
  split
  · simp
  · unfold rmW
    split
    · rename_i h
      rw [Bool.and_eq_true] at h
      exact (mvC_zero (of_decide_eq_true h.2)).2
    · simp


set_option maxHeartbeats 4000000 in
set_option maxRecDepth 100000 in
theorem walk (w : World) (hL : laidMet Tryz.prog Rows.fnExactReadMovesRow.laid w) (hsh : w.ShapedOpen Tryz.prog) (s0 : ByteArray) (ws0 : s0.size ≤ maxLen) :
    Calls Tryz.prog 5 #[.string s0] w (LawDone w) := by
  have HT := Lib.hid (tab hL)
  have HE := Lib.hid (errs hL)
  have HM := Lib.hid (nmsl hL)
  have HSH := Lib.hid hsh
  clear hL hsh
  unfold maxLen at ws0
  by_cases hb : 1048576 < s0.size
  · go_enter Tryz.func5, Tryz.ntmps5
    go_wp2
    go_ret
    exact ⟨rfl, Below.refl _ _⟩
  have hsz : s0.size ≤ 1048576 := by omega
  have HI := Lib.hid (fun W (h : Below w.heap.size w W) => readMoves_impl s0 W hsz (HM.out.gr (Gr.of_below h)) (HE.out.gr (Gr.of_below h)) (HT.out.later h) (shaped_below HSH.out h))
  have HS := Lib.hid (readMoves_spec s0 w hsz)
  have hlen := rm_len (s := s0)
  unfold RmR at HI HS
  clear HT HE HM HSH
  generalize (rmO s0).getD [] = L at *
  generalize (if (rmO s0).isSome = true then (0 : Int) else 6) = cd at *
  go_enter Tryz.func5, Tryz.ntmps5
  go_wp2_with fail
  refine HS.out.mono ?_
  rintro e w1 ⟨⟨u, rfl, hu⟩, hW1⟩
  have hub := fun g e => (World.ownsRow.lt hu g e).2
  go_wp2_with fail
  refine (HI.out w1 hW1).mono ?_
  rintro e w2 ⟨⟨v, rfl, hv⟩, hd2⟩
  replace hu := LstG.below hu hd2
  have hW2 := hW1.trans (hd2.mono hW1.size)
  go_wp2_with fail
  refine (eqMovesLst_any v u L _ _ w2 hv hu (by omega)).mono ?_
  rintro e w3 ⟨rfl, hg3⟩
  replace hu := LstG.below hu hg3.below
  replace hv := LstG.below hv hg3.below
  have hW3 := hW2.trans (hg3.below.mono hW2.size)
  have hs3 := hg3.below.size
  have hs2 := hd2.size
  go_wp2_with fail
  refine (markMovesLst_any v L w1.heap.size w3 hv (by omega) (by omega)).mono ?_
  rintro e w4 ⟨rfl, hva, hb4⟩
  replace hu := LstG.keep hu (fun g e hg => hb4.block g (hub g e))
  have hW4 := hW3.trans (hb4.mono hW1.size)
  go_wp2_with fail
  refine (heldMovesLst_any v L.length _ w4 hva (by omega)).mono ?_
  rintro e w5 ⟨rfl, rfl⟩
  go_wp2_with fail
  refine (HI.out w4 hW4).mono ?_
  rintro e w6 ⟨⟨v2, rfl, hv2⟩, hd6⟩
  replace hu := LstG.below hu hd6
  replace hva := LstG.below hva hd6
  have hW6 := hW4.trans (hd6.mono hW4.size)
  go_wp2_with fail
  refine (eqMovesLst_any v2 u L _ _ w6 hv2 hu (by omega)).mono ?_
  rintro e w7 ⟨rfl, hg7⟩
  replace hva := LstG.below hva hg7.below
  have hW7 := hW6.trans (hg7.below.mono hW6.size)
  go_wp2_with fail
  refine (heldMovesLst_any v L.length _ w7 hva (by omega)).mono ?_
  rintro e w8 ⟨rfl, rfl⟩
  go_wp2_with fail
  go_ret
  exact ⟨rfl, hW7⟩

set_option maxRecDepth 100000 in
theorem lifted (os : Os) (started : os.Started) (H : Type) (enc : TypeId × Value → H) :
    ReturnsInHanded {} Tryz.checked os 5 .any (fun w args => (Rows.fnExactReadMovesSpec.pre enc Tryz.prog Tryz.f5 Rows.fnExactReadMovesRow.domain false w args ∧ laidMetH Tryz.prog Rows.fnExactReadMovesRow.laid w) ∧ sizedMet enc Tryz.prog Tryz.f5 (OpenSpec.ofChange Rows.fnExactReadMovesSpec) false w args) (Rows.fnExactReadMovesSpec.post enc Tryz.prog Tryz.f5 false true false false) := by
  refine handed_told (C := Tryz.checked) (X := fun w _ => laidMetH Tryz.prog Rows.fnExactReadMovesRow.laid w) (fun _ _ _ hh h => h.of_heap hh) own started (by kernel_rfl) Tryz.func5
    (ChangeSpec.witness_shaped (enc := enc) (C := Tryz.checked) (os := os) (X := fun w _ => laidMetH Tryz.prog Rows.fnExactReadMovesRow.laid w) false (World.laidAll Tryz.prog os Rows.fnExactReadMovesRow.laid) #[.string ⟨#[]⟩] 8 (World.laidAll_os _ _ _)
      (World.shaped_of_ZipB (by kernel_rfl) (by kernel_rfl)) (by kernel_rfl) (by kernel_rfl) (by kernel_rfl)
      (by rw [MakeChecks.laidMetH_plain _ _ _ (by kernel_rfl)]; exact laidMet_laidAll _ (by kernel_rfl) (by kernel_rfl))) ?_
  intro W args ds gs before hval0 hW hL hsh
  rw [MakeChecks.laidMetH_plain _ _ _ (by kernel_rfl)] at hL
  have hval : ∀ (j : Nat) t v, Tryz.f5.params[j]? = some t → args[j]? = some v → Value.okWide Tryz.prog W .any W.heap.size t v := hval0
  have hW' := hW
  obtain ⟨p, q, hA0, hV, hpq, hfz, hnd⟩ := hW
  have hA : DataW.TrodAll enc Tryz.prog W 0 (fun _ => true) true Tryz.f5.params.toList args.toList ds p := hA0
  have hT := hA
  obtain ⟨g1, g2, rfl⟩ := vars_two hV
  rw [Tryz.params5] at hA hval
  obtain ⟨v0, vs0, d0, ds0, p0, q0, hargs, rfl, rfl, h0, r0⟩ := trodAll_cons hA
  obtain ⟨rfl, rfl, rfl⟩ := trodAll_nil r0
  obtain rfl : args = #[v0] := by cases args; simp_all
  obtain ⟨s0, rfl, -, -, ws0⟩ := Go.ChangeMaps.open_string Tryz.underlying9 (hval 0 9 v0 rfl rfl) h0
  clear hA0 hval0
  refine (walk W hL hsh s0 ws0).mono fun e W' ⟨he, hb⟩ => ?_
  subst he
  exact ⟨_, rfl, law_postv laidOut hW' hT hpq (by kernel_rfl) (by kernel_rfl) hV rfl rfl rfl rfl Tryz.underlying4 hb⟩

theorem over : Rows.fnExactReadMovesRow.holds Tryz.pinned (OpenSpec.ofChange Rows.fnExactReadMovesSpec) :=
  OpenClaim.holds_of_wide 5 Tryz.f5 rfl rfl rfl rfl rfl rfl rfl ⟨rfl, rfl, rfl, rfl, rfl⟩ rfl rfl rfl rfl rfl (by kernel_rfl) Tryz.func5 (by kernel_rfl)
    (of_decide_eq_true (by kernel_rfl)) (by unfold Func.isWrapper; first | (rw [if_pos (by decide +kernel)]; kernel_rfl) | (rw [if_neg (by decide +kernel)]; exact ⟨rfl, rfl⟩))
    (fun os started H enc _ => lifted os started H enc)

theorem proved : Rows.FnExactReadMovesCardSaid :=
  Claim7.holds_tied_plain_at .later [] Rows.fnExactReadMovesCard.laidKinds true Rows.fnExactReadMovesCard.stood.harness Rows.fnExactReadMovesCard.stood.looks
    over (fun _ h => by cases h) (by kernel_rfl) (fun _ h => by cases h) fnExactReadMoves_row_tie rfl ⟨rfl, rfl⟩ (by kernel_rfl) rfl
    (fun f fn hf hfn => by
      obtain rfl : f = 5 := Option.some.inj ((show Tryz.prog.funcNamed Rows.fnExactReadMovesRow.func = some 5 by kernel_rfl).symm.trans hf) |>.symm
      obtain rfl : fn = Tryz.f5 := (Option.some.inj (Tryz.func5.symm.trans hfn)).symm
      exact ⟨by kernel_rfl, fun j t ht => by
        rw [Tryz.params5] at ht
        have hm : t ∈ [9] := by simpa using Array.mem_of_getElem? ht
        have hall : ([9].all fun u => !Tryz.prog.wantsStandIn u) = true := by kernel_rfl
        exact (show Tryz.prog.wantsStandIn t = false by simpa using List.all_eq_true.1 hall t hm)⟩)
    (by kernel_rfl)
end Go.Proofs.YtefhhigcplemaaaGreatDoor.fnExactReadMoves
