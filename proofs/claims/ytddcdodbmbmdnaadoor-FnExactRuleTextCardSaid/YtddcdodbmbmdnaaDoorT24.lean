/- Texts of rules, in the program and in the model. -/
import Derived.Test.YtddcdodbmbmdnaaDoorT23
import Derived.Test.YtddcdodbmbmdnaaDoorTA
import Derived.Test.YtddcdodbmbmdnaaDoorC11b
namespace Go.Proofs.YtddcdodbmbmdnaaDoor
open Go.RowKit
set_option linter.unusedVariables false
set_option linter.unusedSimpArgs false

def nsV (z : Int) : Value := .string (nmA z.toNat)
set_option maxHeartbeats 1000000 in
theorem scalesText_impl (A : Option Addr) (n c : Nat) (zs : List Int) (w : World) (hn : zs.length = n) (hN : n ≤ 6) (hz : ∀ z ∈ zs, 0 ≤ z ∧ z ≤ 5) (hA : Reads w w.heap.size A (zs.map vi)) (hNm : Nms w) :
    Calls Tryd.prog 59 #[.slice A n c] w fun e w' => e = .returned (.string (nJ zs n)) ∧ Gr w w' := by
  have HN := Lib.hid hn
  have HZ := Lib.hid hz
  have HNm := Lib.hid hNm
  have hl : (zs.map nsV).length = n := by rw [List.length_map]; exact hn
  have HL := Lib.hid hl
  have hmk := mkStrs n (by omega)
  clear hn hz hNm hl
  go_enter Tryd.func59, Tryd.ntmps59
  go_wp2_with fail
  clear hmk
  go_loopw [11] (fun i wr => ∃ k : Nat, k ≤ n ∧ i = .int .i64 k ∧ Row wr w.heap.size 9 (fillV (zs.map nsV) (.string ⟨#[]⟩) k) ∧ Below w.heap.size w wr) (fun i _ => n - (intOf i).toNat)
  case atStart => exact ⟨0, by omega, rfl, by rw [fillV_zero, HL.out]; exact Row.new w _ _, (Below.refl _ _).alloc (Nat.le_refl _) _⟩
  case round =>
    obtain ⟨k, hk, rfl, hrow, hbl⟩ := hrel
    by_cases hlt : k < n
    · have hk2 : k < (zs.map nsV).length := by rw [HL.out]; exact hlt
      obtain ⟨z, hz⟩ := some_at (l := zs) (k := k) (by rw [HN.out]; exact hlt)
      obtain ⟨z1, z2⟩ := HZ.out z (List.mem_of_getElem? hz)
      obtain ⟨zk, rfl⟩ := Int.eq_ofNat_of_zero_le z1
      have zk6 : zk < 6 := by omega
      obtain ⟨g, o, rfl, hg, hc⟩ := hA.at_ (map_at hz)
      have FS := Lib.hid (fillV_put (zs.map nsV) (.string ⟨#[]⟩) (nsV zk) k (map_at hz))
      have hc' : wr.cell? ⟨g, o + k, none⟩ = some (vi zk) := (hbl.cell (p := ⟨g, o + k, none⟩) hg).trans hc
      have c0 := hrow.cell k
      rw [fillV_at _ _ _ hk2] at c0
      have f0 := hrow.free k
      have hlb := hrow.lt
      have n0 := HNm.out.gr (Gr.of_below hbl) zk zk6
      have nl := World.block_lt_of_cell? wr _ n0
      have HS := Lib.hid (show Value.string (nmA zk) = nsV zk from rfl)
      clear hz hk2 hc
      go_wp2_with fail
      go_roundw
      case rel =>
        refine ⟨k + 1, by omega, by go_num, ?_, ?_⟩
        · rw [← FS.out, ← HS.out]
          exact hrow.set k _
        · exact hbl.setCell (p := ⟨w.heap.size, k, none⟩) (Nat.le_refl _) _
      case measure => simp [intOf]; omega
    · obtain rfl : k = n := by omega
      have HF := Lib.hid (fillV_all (zs.map nsV) (.string ⟨#[]⟩))
      rw [HL.out] at HF
      have hcells : ∀ (j : Nat) x, (zs.map (fun z => nmA z.toNat))[j]? = some x → wr.cell? ⟨w.heap.size, 0 + j, none⟩ = some (.string x) := by
        intro j x hx
        rw [Nat.zero_add, hrow.cell, HF.out]
        rw [List.getElem?_map] at hx ⊢
        cases h : zs[j]? with
        | none => rw [h] at hx; cases hx
        | some z => rw [h] at hx; simp at hx; subst hx; rfl
      have hjl : (Lib.join ((zs.map (fun z => nmA z.toNat)).map (·.data.toList)) [44]).length ≤ 140737488355328 := by
        have := join_len ((zs.map (fun z => nmA z.toNat)).map (·.data.toList)) (fun x hx => by
          obtain ⟨s, hs, rfl⟩ := List.mem_map.1 hx
          obtain ⟨z, hz, rfl⟩ := List.mem_map.1 hs
          have := (nmA_len z.toNat).1
          omega)
        rw [List.length_map, List.length_map, HN.out] at this
        omega
      have hJ := Tryd.strings_Join w.heap.size 0 k (zs.map (fun z => nmA z.toNat)) ⟨#[44]⟩ wr hcells hrow.lt (by rw [List.length_map, HN.out]; omega) (by rw [List.length_map, HN.out]; omega) hjl
      rw [List.length_map, HN.out] at hJ
      have HJ := Lib.hid hJ
      have HE := Lib.hid (show nJ zs k = ⟨(Lib.join ((zs.map (fun z => nmA z.toNat)).map (·.data.toList)) (ByteArray.mk #[44]).data.toList).toArray⟩ by
        unfold nJ
        rw [List.take_of_length_le (by rw [HN.out]; omega), List.map_map]
        rfl)
      clear hJ hcells hjl
      go_wp2_with fail
      refine HJ.out.mono ?_
      rintro e w' ⟨rfl, hb2⟩
      go_wp2_with fail
      go_ret
      exact ⟨ret_str (by rw [HE.out, List.map_map]), Gr.of_below (hbl.trans (hb2.mono hbl.size))⟩

/-- A rule's text. -/
def ruB (L : Int) (xs ys : List Int) : ByteArray := itoaB L ++ ⟨#[32]⟩ ++ nJ xs xs.length ++ ⟨#[32]⟩ ++ nJ ys ys.length
def ruS (L : Int) (xs ys : List Int) : ByteArray := if rlB L xs ys = true then ruB L xs ys else ⟨#[]⟩
def ruC (L : Int) (xs ys : List Int) : Int := if rlB L xs ys = true then 0 else 1
theorem ru_ok {L : Int} {xs ys : List Int} (h : rlB L xs ys = true) : ruS L xs ys = ruB L xs ys ∧ ruC L xs ys = 0 := ⟨if_pos h, if_pos h⟩
theorem ru_no {L : Int} {xs ys : List Int} (h : rlB L xs ys = false) : ruS L xs ys = ⟨#[]⟩ ∧ ruC L xs ys = 1 := ⟨if_neg (by rw [h]; simp), if_neg (by rw [h]; simp)⟩
theorem rl_names {L : Int} {xs ys : List Int} (h : rlB L xs ys = true) : (1 ≤ L ∧ L ≤ 100000) ∧ (xs.length ≤ 6 ∧ ∀ z ∈ xs, 0 ≤ z ∧ z ≤ 5) ∧ (ys.length ≤ 6 ∧ ∀ z ∈ ys, 0 ≤ z ∧ z ≤ 5) := by
  obtain ⟨h1, h2, h3⟩ := (rlB_iff L xs ys).1 h
  refine ⟨(ln_iff L).1 h1, ⟨((arS_iff xs).1 h2).1.2, fun z hz => ?_⟩, ⟨((arS_iff ys).1 h3).1.2, fun z hz => ?_⟩⟩
  · have := (lsc_iff z).1 (arS_mem h2 ((hasI_iff _ _).2 hz)); omega
  · have := (lsc_iff z).1 (arS_mem h3 ((hasI_iff _ _).2 hz)); omega
set_option maxRecDepth 100000 in
set_option maxHeartbeats 2000000 in
theorem text11_spec (L : Int) (A B : Option Addr) (n c m d : Nat) (xs ys : List Int) (w : World) (hx : xs.length = n) (hy : ys.length = m) (hn : n ≤ 16777216) (hm : m ≤ 16777216) (hnc : n ≤ c) (hmd : m ≤ d) (hX : Reads w w.heap.size A (xs.map vi)) (hY : Reads w w.heap.size B (ys.map vi)) (hr : rlB L xs ys = true) :
    Calls Tryd.prog 56 #[.agg #[.int .i64 L, .slice A n c, .slice B m d]] w fun e w' => e = .returned (.string (ruB L xs ys)) ∧ Gr w w' := by
  obtain ⟨⟨l1, l2⟩, ⟨x1, x2⟩, y1, y2⟩ := rl_names hr
  have HD := Lib.hid (fun W => dec_g L W (by omega) (by omega))
  have HX := Lib.hid (fun W h => names11_spec A n c xs W hx (by omega) x2 h)
  have HY := Lib.hid (fun W h => names11_spec B m d ys W hy (by omega) y2 h)
  have HR := Lib.hid (show ruB L xs ys = itoaB L ++ ⟨#[32]⟩ ++ nJ xs n ++ ⟨#[32]⟩ ++ nJ ys m by unfold ruB; rw [hx, hy])
  have s1 := (itoa_len L (by omega) (by omega)).2
  have s2 := nJ_size xs n
  have s3 := nJ_size ys m
  rw [hx] at s2 x1
  rw [hy] at s3 y1
  have RX := Lib.hid hX
  have RY := Lib.hid hY
  clear hx hy hX hY x2 y2
  generalize ruB L xs ys = R at *
  generalize itoaB L = t1 at *
  generalize nJ xs n = t2 at *
  generalize nJ ys m = t3 at *
  have k1 : ¬ ((9223372036854775807 : Int) < (t1.size : Int) + 1) := by omega
  have j1 : ¬ (9223372036854775807 < t1.size + 1) := by omega
  have j2 : ¬ (9223372036854775807 < t1.size + 1 + t2.size) := by omega
  have j3 : ¬ (9223372036854775807 < t1.size + 1 + t2.size + 1) := by omega
  have j4 : ¬ (9223372036854775807 < t1.size + 1 + t2.size + 1 + t3.size) := by omega
  have k2 : ¬ ((9223372036854775807 : Int) < (t1.size : Int) + 1 + t2.size) := by omega
  have k3 : ¬ ((9223372036854775807 : Int) < (t1.size : Int) + 1 + t2.size + 1) := by omega
  have k4 : ¬ ((9223372036854775807 : Int) < (t1.size : Int) + 1 + t2.size + 1 + t3.size) := by omega
  go_enter Tryd.func56, Tryd.ntmps56
  go_wp2_with fail
  have P := Blk.new w 37 #[.int .i64 L, .slice A n c, .slice B m d]
  have hG : Gr w (w.alloc (.cells #[.int .i64 L, .slice A n c, .slice B m d] 37)) := (by repeat (first | with_reducible exact Gr.refl _ | with_reducible refine Gr.alloc ?_ _ | with_reducible refine Gr.gr ?_ _ _ | with_reducible refine Gr.drew ?_ | with_reducible refine Gr.drewN ?_ _))
  generalize w.alloc (.cells #[.int .i64 L, .slice A n c, .slice B m d] 37) = v at *
  have HP := Lib.hid (fun wz (hz : Gr v wz) => (P.gr hz).trio)
  have hXY := And.intro (RX.out.gr hG) (RY.out.gr hG)
  refine region_grows [(2, .is (.string t1)), (6, .is (.string t2)), (11, .is (.string t3))] (by kernel_rfl) (by kernel_rfl) ?_
  (refine lz_one rfl (fun K hK => ?_); refine ⟨rfl, ?_⟩; apply Exists.intro; refine ⟨fun wz hz => ?_, ?_⟩; (focus (skip; go_simp; (first | done | exact rfl | exact ⟨rfl, rfl⟩))); (go_simp; refine hK _ _ ?_; clear hK K))
  (refine lz_one rfl (fun K hK => ?_); refine ⟨rfl, ?_⟩; apply Exists.intro; refine ⟨fun wz hz => ?_, ?_⟩; (focus (obtain ⟨p0, p1, p2, -⟩ := HP.out wz hz; go_simp; (first | done | exact rfl | exact ⟨rfl, rfl⟩))); (go_simp; refine hK _ _ ?_; clear hK K))
  (refine lz_many _ rfl (fun K hK => ?_); refine ⟨rfl, fun wz hz ha => ?_, fun vz wz hz hf => ?_⟩; (focus (go_simp; exact lg_call hz (HD.out _))); (obtain rfl := hf; clear hz wz; go_simp; refine hK _ _ ?_; clear hK K))
  (refine lz_one rfl (fun K hK => ?_); refine ⟨rfl, ?_⟩; apply Exists.intro; refine ⟨fun wz hz => ?_, ?_⟩; (focus (skip; go_simp; (first | done | exact rfl | exact ⟨rfl, rfl⟩))); (go_simp; refine hK _ _ ?_; clear hK K))
  (refine lz_one rfl (fun K hK => ?_); refine ⟨rfl, ?_⟩; apply Exists.intro; refine ⟨fun wz hz => ?_, ?_⟩; (focus (skip; go_simp; (first | done | exact rfl | exact ⟨rfl, rfl⟩))); (go_simp; refine hK _ _ ?_; clear hK K))
  (refine lz_one rfl (fun K hK => ?_); refine ⟨rfl, ?_⟩; apply Exists.intro; refine ⟨fun wz hz => ?_, ?_⟩; (focus (obtain ⟨p0, p1, p2, -⟩ := HP.out wz hz; go_simp; (first | done | exact rfl | exact ⟨rfl, rfl⟩))); (go_simp; refine hK _ _ ?_; clear hK K))
  (refine lz_many _ rfl (fun K hK => ?_); refine ⟨rfl, fun wz hz ha => ?_, fun vz wz hz hf => ?_⟩; (focus (go_simp; exact lg_call hz (HX.out _ (hXY.1.gr hz)))); (obtain rfl := hf; clear hz wz; go_simp; refine hK _ _ ?_; clear hK K))
  (refine lz_one rfl (fun K hK => ?_); refine ⟨rfl, ?_⟩; apply Exists.intro; refine ⟨fun wz hz => ?_, ?_⟩; (focus (skip; go_simp; (first | done | exact rfl | exact ⟨rfl, rfl⟩))); (go_simp; refine hK _ _ ?_; clear hK K))
  (refine lz_one rfl (fun K hK => ?_); refine ⟨rfl, ?_⟩; apply Exists.intro; refine ⟨fun wz hz => ?_, ?_⟩; (focus (skip; go_simp; (first | done | exact rfl | exact ⟨rfl, rfl⟩))); (go_simp; refine hK _ _ ?_; clear hK K))
  (refine lz_one rfl (fun K hK => ?_); refine ⟨rfl, ?_⟩; apply Exists.intro; refine ⟨fun wz hz => ?_, ?_⟩; (focus (skip; go_simp; (first | done | exact rfl | exact ⟨rfl, rfl⟩))); (go_simp; refine hK _ _ ?_; clear hK K))
  (refine lz_one rfl (fun K hK => ?_); refine ⟨rfl, ?_⟩; apply Exists.intro; refine ⟨fun wz hz => ?_, ?_⟩; (focus (obtain ⟨p0, p1, p2, -⟩ := HP.out wz hz; go_simp; (first | done | exact rfl | exact ⟨rfl, rfl⟩))); (go_simp; refine hK _ _ ?_; clear hK K))
  (refine lz_many _ rfl (fun K hK => ?_); refine ⟨rfl, fun wz hz ha => ?_, fun vz wz hz hf => ?_⟩; (focus (go_simp; exact lg_call hz (HY.out _ (hXY.2.gr hz)))); (obtain rfl := hf; clear hz wz; go_simp; refine hK _ _ ?_; clear hK K))
  (refine lz_one rfl (fun K hK => ?_); refine ⟨rfl, ?_⟩; apply Exists.intro; refine ⟨fun wz hz => ?_, ?_⟩; (focus (skip; go_simp; (first | done | exact rfl | exact ⟨rfl, rfl⟩))); (go_simp; refine hK _ _ ?_; clear hK K))
  (refine lz_one rfl (fun K hK => ?_); refine ⟨rfl, ?_⟩; apply Exists.intro; refine ⟨fun wz hz => ?_, ?_⟩; (focus (skip; go_simp; (first | done | exact rfl | exact ⟨rfl, rfl⟩))); (go_simp; refine hK _ _ ?_; clear hK K))
  refine lz_nil ?_
  intro w3 hz hgg
  clear hgg
  go_wp2_with fail
  go_ret
  exact ⟨ret_str HR.out.symm, hG.trans hz⟩
theorem ruT_spec (L : Int) (A B : Option Addr) (n c m d : Nat) (xs ys : List Int) (w : World) (hx : xs.length = n) (hy : ys.length = m) (hn : n ≤ 16777216) (hm : m ≤ 16777216) (hnc : n ≤ c) (hmd : m ≤ d) (hX : Reads w w.heap.size A (xs.map vi)) (hY : Reads w w.heap.size B (ys.map vi)) :
    Calls Tryd.prog 27 #[.agg #[.int .i64 L, .slice A n c, .slice B m d]] w fun e w' => e = .returned (.tuple #[.string (ruS L xs ys), .int .i64 (ruC L xs ys)]) ∧ Gr w w' := by
  have HR := Lib.hid (fun W h h' => rule_spec L A B n c m d xs ys W hx hy hn hm hnc hmd h h')
  have HT := Lib.hid (fun W h h' hr => text11_spec L A B n c m d xs ys W hx hy hn hm hnc hmd h h' hr)
  have RX := Lib.hid hX
  have RY := Lib.hid hY
  clear hx hy hX hY
  rcases rlB_tf L xs ys with h | h
  · have H := Lib.hid (ru_ok h)
    have E := Lib.hid h
    rw [h] at HR
    clear h
    go_enter Tryd.func27, Tryd.ntmps27
    go_wp2_with (first | (go_at_call 55; (with_reducible refine (HR.out _ (RX.out.gr (by repeat (first | with_reducible exact Gr.refl _ | with_reducible refine Gr.alloc ?_ _ | with_reducible refine Gr.gr ?_ _ _ | with_reducible refine Gr.drew ?_ | with_reducible refine Gr.drewN ?_ _))) (RY.out.gr (by repeat (first | with_reducible exact Gr.refl _ | with_reducible refine Gr.alloc ?_ _ | with_reducible refine Gr.gr ?_ _ _ | with_reducible refine Gr.drew ?_ | with_reducible refine Gr.drewN ?_ _)))).mono ?_); rintro e w' ⟨rfl, k, os, rfl⟩) | (go_at_call 56; (with_reducible refine (HT.out _ (RX.out.gr (by repeat (first | with_reducible exact Gr.refl _ | with_reducible refine Gr.alloc ?_ _ | with_reducible refine Gr.gr ?_ _ _ | with_reducible refine Gr.drew ?_ | with_reducible refine Gr.drewN ?_ _))) (RY.out.gr (by repeat (first | with_reducible exact Gr.refl _ | with_reducible refine Gr.alloc ?_ _ | with_reducible refine Gr.gr ?_ _ _ | with_reducible refine Gr.drew ?_ | with_reducible refine Gr.drewN ?_ _))) E.out).mono ?_); rintro e w' ⟨rfl, k2, os2, rfl⟩))
    go_ret2
    exact ⟨ret_sc (by rw [H.out.1]) (by rw [H.out.2]), (by repeat (first | with_reducible exact Gr.refl _ | with_reducible refine Gr.alloc ?_ _ | with_reducible refine Gr.gr ?_ _ _ | with_reducible refine Gr.drew ?_ | with_reducible refine Gr.drewN ?_ _))⟩
  · have H := Lib.hid (ru_no h)
    rw [h] at HR
    clear h
    go_enter Tryd.func27, Tryd.ntmps27
    go_wp2_with (go_at_call 55; (with_reducible refine (HR.out _ (RX.out.gr (by repeat (first | with_reducible exact Gr.refl _ | with_reducible refine Gr.alloc ?_ _ | with_reducible refine Gr.gr ?_ _ _ | with_reducible refine Gr.drew ?_ | with_reducible refine Gr.drewN ?_ _))) (RY.out.gr (by repeat (first | with_reducible exact Gr.refl _ | with_reducible refine Gr.alloc ?_ _ | with_reducible refine Gr.gr ?_ _ _ | with_reducible refine Gr.drew ?_ | with_reducible refine Gr.drewN ?_ _)))).mono ?_); rintro e w' ⟨rfl, k, os, rfl⟩)
    go_ret2
    exact ⟨ret_sc (by rw [H.out.1]) (by rw [H.out.2]), (by repeat (first | with_reducible exact Gr.refl _ | with_reducible refine Gr.alloc ?_ _ | with_reducible refine Gr.gr ?_ _ _ | with_reducible refine Gr.drew ?_ | with_reducible refine Gr.drewN ?_ _))⟩
set_option maxRecDepth 100000 in
set_option maxHeartbeats 2000000 in
theorem ruT_impl (L : Int) (A B : Option Addr) (n c m d : Nat) (xs ys : List Int) (w : World) (hx : xs.length = n) (hy : ys.length = m) (hn : n ≤ 16777216) (hm : m ≤ 16777216) (hnc : n ≤ c) (hmd : m ≤ d) (hX : Reads w w.heap.size A (xs.map vi)) (hY : Reads w w.heap.size B (ys.map vi)) (hNm : Nms w) (hT : Tab w) :
    Calls Tryd.prog 28 #[.agg #[.int .i64 L, .slice A n c, .slice B m d]] w fun e w' => e = .returned (.tuple #[.string (ruS L xs ys), .int .i64 (ruC L xs ys)]) ∧ Gr w w' := by
  have HR := Lib.hid (fun W h h' => rule_impl L A B n c m d xs ys W hx hy hn hm hnc hmd h h')
  have RX := Lib.hid hX
  have RY := Lib.hid hY
  have HNm := Lib.hid hNm
  have HTb := Lib.hid hT
  rcases rlB_tf L xs ys with h | h
  · have H := Lib.hid (ru_ok h)
    obtain ⟨⟨l1, l2⟩, ⟨x1, x2⟩, y1, y2⟩ := rl_names h
    have HD := Lib.hid (fun W h => formatInt_g L W (by omega) (by omega) h)
    have HX := Lib.hid (fun W h h' => scalesText_impl A n c xs W hx (by omega) x2 h h')
    have HY := Lib.hid (fun W h h' => scalesText_impl B m d ys W hy (by omega) y2 h h')
    have HB := Lib.hid (show ruB L xs ys = itoaB L ++ ⟨#[32]⟩ ++ nJ xs n ++ ⟨#[32]⟩ ++ nJ ys m by unfold ruB; rw [hx, hy])
    have s1 := (itoa_len L (by omega) (by omega)).2
    have s2 := nJ_size xs n
    have s3 := nJ_size ys m
    rw [hx] at s2 x1
    rw [hy] at s3 y1
    rw [h] at HR
    clear hx hy hX hY x2 y2 h hNm hT
    generalize ruS L xs ys = R at *
    generalize ruC L xs ys = RC at *
    generalize ruB L xs ys = RB at *
    generalize itoaB L = t1 at *
    generalize nJ xs n = t2 at *
    generalize nJ ys m = t3 at *
    have k1 : ¬ ((9223372036854775807 : Int) < (t1.size : Int) + 1) := by omega
    have j1 : ¬ (9223372036854775807 < t1.size + 1) := by omega
    have j2 : ¬ (9223372036854775807 < t1.size + 1 + t2.size) := by omega
    have j3 : ¬ (9223372036854775807 < t1.size + 1 + t2.size + 1) := by omega
    have j4 : ¬ (9223372036854775807 < t1.size + 1 + t2.size + 1 + t3.size) := by omega
    have k2 : ¬ ((9223372036854775807 : Int) < (t1.size : Int) + 1 + t2.size) := by omega
    have k3 : ¬ ((9223372036854775807 : Int) < (t1.size : Int) + 1 + t2.size + 1) := by omega
    have k4 : ¬ ((9223372036854775807 : Int) < (t1.size : Int) + 1 + t2.size + 1 + t3.size) := by omega
    go_enter Tryd.func28, Tryd.ntmps28
    go_wp2_with fail
    have P := Blk.new w 37 #[.int .i64 L, .slice A n c, .slice B m d]
    have hG0 : Gr w (w.alloc (.cells #[.int .i64 L, .slice A n c, .slice B m d] 37)) := (by repeat (first | with_reducible exact Gr.refl _ | with_reducible refine Gr.alloc ?_ _ | with_reducible refine Gr.gr ?_ _ _ | with_reducible refine Gr.drew ?_ | with_reducible refine Gr.drewN ?_ _))
    generalize w.alloc (.cells #[.int .i64 L, .slice A n c, .slice B m d] 37) = v0 at *
    refine (HR.out v0 (RX.out.gr hG0) (RY.out.gr hG0)).mono ?_
    rintro e v ⟨rfl, hgv⟩
    have hG := hG0.trans hgv
    replace P := P.gr hgv
    clear hG0 hgv
    go_wp2_with fail
    have HP := Lib.hid (fun wz (hz : Gr v wz) => (P.gr hz).trio)
    have hXY := And.intro (RX.out.gr hG) (RY.out.gr hG)
    have hNT := And.intro (HNm.out.gr hG) (HTb.out.gr hG)
    refine region_grows [(2, .is (.string t1)), (6, .is (.string t2)), (11, .is (.string t3))] (by kernel_rfl) (by kernel_rfl) ?_
    (refine lz_one rfl (fun K hK => ?_); refine ⟨rfl, ?_⟩; apply Exists.intro; refine ⟨fun wz hz => ?_, ?_⟩; (focus (skip; go_simp; (first | done | exact rfl | exact ⟨rfl, rfl⟩))); (go_simp; refine hK _ _ ?_; clear hK K))
    (refine lz_one rfl (fun K hK => ?_); refine ⟨rfl, ?_⟩; apply Exists.intro; refine ⟨fun wz hz => ?_, ?_⟩; (focus (obtain ⟨p0, p1, p2, -⟩ := HP.out wz hz; go_simp; (first | done | exact rfl | exact ⟨rfl, rfl⟩))); (go_simp; refine hK _ _ ?_; clear hK K))
    (refine lz_many _ rfl (fun K hK => ?_); refine ⟨rfl, fun wz hz ha => ?_, fun vz wz hz hf => ?_⟩; (focus (go_simp; exact lg_call hz (HD.out _ (hNT.2.gr hz)))); (obtain rfl := hf; clear hz wz; go_simp; refine hK _ _ ?_; clear hK K))
    (refine lz_one rfl (fun K hK => ?_); refine ⟨rfl, ?_⟩; apply Exists.intro; refine ⟨fun wz hz => ?_, ?_⟩; (focus (skip; go_simp; (first | done | exact rfl | exact ⟨rfl, rfl⟩))); (go_simp; refine hK _ _ ?_; clear hK K))
    (refine lz_one rfl (fun K hK => ?_); refine ⟨rfl, ?_⟩; apply Exists.intro; refine ⟨fun wz hz => ?_, ?_⟩; (focus (skip; go_simp; (first | done | exact rfl | exact ⟨rfl, rfl⟩))); (go_simp; refine hK _ _ ?_; clear hK K))
    (refine lz_one rfl (fun K hK => ?_); refine ⟨rfl, ?_⟩; apply Exists.intro; refine ⟨fun wz hz => ?_, ?_⟩; (focus (obtain ⟨p0, p1, p2, -⟩ := HP.out wz hz; go_simp; (first | done | exact rfl | exact ⟨rfl, rfl⟩))); (go_simp; refine hK _ _ ?_; clear hK K))
    (refine lz_many _ rfl (fun K hK => ?_); refine ⟨rfl, fun wz hz ha => ?_, fun vz wz hz hf => ?_⟩; (focus (go_simp; exact lg_call hz (HX.out _ (hXY.1.gr hz) (hNT.1.gr hz)))); (obtain rfl := hf; clear hz wz; go_simp; refine hK _ _ ?_; clear hK K))
    (refine lz_one rfl (fun K hK => ?_); refine ⟨rfl, ?_⟩; apply Exists.intro; refine ⟨fun wz hz => ?_, ?_⟩; (focus (skip; go_simp; (first | done | exact rfl | exact ⟨rfl, rfl⟩))); (go_simp; refine hK _ _ ?_; clear hK K))
    (refine lz_one rfl (fun K hK => ?_); refine ⟨rfl, ?_⟩; apply Exists.intro; refine ⟨fun wz hz => ?_, ?_⟩; (focus (skip; go_simp; (first | done | exact rfl | exact ⟨rfl, rfl⟩))); (go_simp; refine hK _ _ ?_; clear hK K))
    (refine lz_one rfl (fun K hK => ?_); refine ⟨rfl, ?_⟩; apply Exists.intro; refine ⟨fun wz hz => ?_, ?_⟩; (focus (skip; go_simp; (first | done | exact rfl | exact ⟨rfl, rfl⟩))); (go_simp; refine hK _ _ ?_; clear hK K))
    (refine lz_one rfl (fun K hK => ?_); refine ⟨rfl, ?_⟩; apply Exists.intro; refine ⟨fun wz hz => ?_, ?_⟩; (focus (obtain ⟨p0, p1, p2, -⟩ := HP.out wz hz; go_simp; (first | done | exact rfl | exact ⟨rfl, rfl⟩))); (go_simp; refine hK _ _ ?_; clear hK K))
    (refine lz_many _ rfl (fun K hK => ?_); refine ⟨rfl, fun wz hz ha => ?_, fun vz wz hz hf => ?_⟩; (focus (go_simp; exact lg_call hz (HY.out _ (hXY.2.gr hz) (hNT.1.gr hz)))); (obtain rfl := hf; clear hz wz; go_simp; refine hK _ _ ?_; clear hK K))
    (refine lz_one rfl (fun K hK => ?_); refine ⟨rfl, ?_⟩; apply Exists.intro; refine ⟨fun wz hz => ?_, ?_⟩; (focus (skip; go_simp; (first | done | exact rfl | exact ⟨rfl, rfl⟩))); (go_simp; refine hK _ _ ?_; clear hK K))
    (refine lz_one rfl (fun K hK => ?_); refine ⟨rfl, ?_⟩; apply Exists.intro; refine ⟨fun wz hz => ?_, ?_⟩; (focus (skip; go_simp; (first | done | exact rfl | exact ⟨rfl, rfl⟩))); (go_simp; refine hK _ _ ?_; clear hK K))
    (refine lz_one rfl (fun K hK => ?_); refine ⟨rfl, ?_⟩; apply Exists.intro; refine ⟨fun wz hz => ?_, ?_⟩; (focus (skip; go_simp; (first | done | exact rfl | exact ⟨rfl, rfl⟩))); (go_simp; refine hK _ _ ?_; clear hK K))
    refine lz_nil ?_
    intro w3 hz hgg
    clear hgg
    go_wp2_with fail
    go_ret2
    exact ⟨ret_sc (by rw [H.out.1, HB.out]) (by rw [H.out.2]), hG.trans hz⟩
  · have H := Lib.hid (ru_no h)
    rw [h] at HR
    clear hx hy hX hY h hNm hT
    go_enter Tryd.func28, Tryd.ntmps28
    go_wp2_with (go_at_call 57; (with_reducible refine (HR.out _ (RX.out.gr (by repeat (first | with_reducible exact Gr.refl _ | with_reducible refine Gr.alloc ?_ _ | with_reducible refine Gr.gr ?_ _ _ | with_reducible refine Gr.drew ?_ | with_reducible refine Gr.drewN ?_ _))) (RY.out.gr (by repeat (first | with_reducible exact Gr.refl _ | with_reducible refine Gr.alloc ?_ _ | with_reducible refine Gr.gr ?_ _ _ | with_reducible refine Gr.drew ?_ | with_reducible refine Gr.drewN ?_ _)))).mono ?_); rintro e w' ⟨rfl, k, os, rfl⟩)
    go_ret2
    exact ⟨ret_sc (by rw [H.out.1]) (by rw [H.out.2]), (by repeat (first | with_reducible exact Gr.refl _ | with_reducible refine Gr.alloc ?_ _ | with_reducible refine Gr.gr ?_ _ _ | with_reducible refine Gr.drew ?_ | with_reducible refine Gr.drewN ?_ _))⟩
end Go.Proofs.YtddcdodbmbmdnaaDoor
