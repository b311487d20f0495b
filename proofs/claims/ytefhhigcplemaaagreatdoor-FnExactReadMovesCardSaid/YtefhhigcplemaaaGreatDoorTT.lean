/- Plain mathematics, merged. -/
import Derived.Test.YtefhhigcplemaaaGreatDoorC11d
import Derived.Test.YtefhhigcplemaaaGreatDoorC05e
import Derived.Test.YtefhhigcplemaaaGreatDoorTA
import Derived.Test.YtefhhigcplemaaaGreatDoorC11b
/- Texts of rules: names of scales joined, in the model. -/
namespace Go.Proofs.YtefhhigcplemaaaGreatDoor
open Go.RowKit
set_option linter.unusedVariables false
set_option linter.unusedSimpArgs false

/-- A scale's name; the names of the first k scales, joined. -/
def nmL (z : Int) : List UInt8 := (nmA z.toNat).data.toList
theorem nmL_mk (z : Int) : (⟨(nmL z).toArray⟩ : ByteArray) = nmA z.toNat := rfl
theorem nmA_len (k : Nat) : (nmA k).data.toList.length ≤ 2 ∧ 1 ≤ (nmA k).data.toList.length := by
  unfold nmA; split <;> simp
def nJ (zs : List Int) (k : Nat) : ByteArray := ⟨(Lib.join ((zs.take k).map nmL) [44]).toArray⟩
theorem nJ_zero (zs : List Int) : nJ zs 0 = ⟨#[]⟩ := by unfold nJ; simp [Lib.join_nil]
theorem nJ_one {zs : List Int} {z : Int} (h : zs[0]? = some z) : nJ zs 1 = nmA z.toNat := by
  cases zs with
  | nil => cases h
  | cons a r => simp at h; subst h; unfold nJ; simp [Lib.join_one, nmL]
theorem nJ_succ {zs : List Int} {k : Nat} {z : Int} (h : zs[k]? = some z) (hk : 0 < k) : nJ zs (k + 1) = nJ zs k ++ ⟨#[44]⟩ ++ nmA z.toNat := by
  obtain ⟨hl, e⟩ := List.getElem?_eq_some_iff.1 h
  unfold nJ
  rw [List.take_succ_eq_append_getElem hl, e, List.map_append, List.map_cons, List.map_nil, join_snoc, if_neg (by
    intro h0
    rw [List.map_eq_nil_iff, List.take_eq_nil_iff] at h0
    rcases h0 with h0 | h0
    · omega
    · rw [h0] at hl; simp at hl), ← nmL_mk]
  rw [ByteArray.mk_append_mk, ByteArray.mk_append_mk]
theorem nJ_size (zs : List Int) (k : Nat) : (nJ zs k).size ≤ 21 * zs.length := by
  unfold nJ
  show (List.toArray _).size ≤ _
  rw [List.size_toArray]
  have := join_len ((zs.take k).map nmL) (fun x hx => by
    obtain ⟨z, hz, rfl⟩ := List.mem_map.1 hx
    have := (nmA_len z.toNat).1
    show (nmA z.toNat).data.toList.length ≤ 20
    omega)
  rw [List.length_map, List.length_take] at this
  omega
theorem nmA_sz (k : Nat) : (nmA k).size ≤ 2 := by
  have := (nmA_len k).1
  show (nmA k).data.size ≤ 2
  rwa [Array.length_toList] at this

/-- The list of names that the model makes. -/
def NmF (v : Value) (w : World) : Prop := ∃ g : Nat, v = .slice (some ⟨g, 0, none⟩) 6 6 ∧ ∀ i : Nat, i < 6 → w.cell? ⟨g, i, none⟩ = some (.string (nmA i))
theorem NmF.gr (v : Value) (w w' : World) (hg : Gr w w') (h : NmF v w) : NmF v w' := by
  obtain ⟨g, e, h1⟩ := h
  exact ⟨g, e, fun i hi => cell_up hg (h1 i hi)⟩
theorem names_ever (w : World) : Calls Tryz.prog 123 #[] w fun e w' => ∃ v, e = .returned v ∧ NmF v w' ∧ Gr w w' :=
  (names_spec w).mono fun e w' ⟨h1, h2⟩ => ⟨_, h1, ⟨_, rfl, fun i hi => by rw [h2]; exact nmObj_cell w i hi⟩, by rw [h2]; exact (by repeat (first | with_reducible exact Gr.refl _ | with_reducible refine Gr.alloc ?_ _ | with_reducible refine Gr.gr ?_ _ _ | with_reducible refine Gr.drew ?_ | with_reducible refine Gr.drewN ?_ _))⟩
def NmP (i : Nat) (v : Value) (w : World) : Prop := ∃ g : Nat, v = .pointer (some ⟨g, i, none⟩) ∧ w.cell? ⟨g, i, none⟩ = some (.string (nmA i))
theorem NmP.gr {i : Nat} (v : Value) (w w' : World) (hg : Gr w w') (h : NmP i v w) : NmP i v w' := by
  obtain ⟨g, e, h1⟩ := h
  exact ⟨g, e, cell_up hg h1⟩

set_option maxRecDepth 100000 in
set_option maxHeartbeats 4000000 in
theorem names11_spec (A : Option Addr) (n c : Nat) (zs : List Int) (w : World) (hn : zs.length = n) (hN : n ≤ 6) (hz : ∀ z ∈ zs, 0 ≤ z ∧ z ≤ 5) (hA : Reads w w.heap.size A (zs.map vi)) :
    Calls Tryz.prog 94 #[.slice A n c] w fun e w' => e = .returned (.string (nJ zs n)) ∧ Gr w w' := by
  have HL := Lib.hid hn
  have HZ := Lib.hid hz
  have HSz := Lib.hid (fun k => nJ_size zs k)
  rw [hn] at HSz
  clear hn hz
  go_enter Tryz.func94, Tryz.ntmps94
  go_wp2
  go_loopw [3, 4] (fun o i wr => ∃ k : Nat, k ≤ n ∧ i = .int .i64 k ∧ o = .string (nJ zs k) ∧ Gr w wr) (fun o i _ => n - (intOf i).toNat)
  case atStart => exact ⟨0, by omega, rfl, by rw [nJ_zero], Gr.refl w⟩
  case round =>
    obtain ⟨k, hk, rfl, rfl, hg⟩ := hrel
    by_cases hlt : k < n
    · obtain ⟨z, hz⟩ := some_at (l := zs) (k := k) (by rw [HL.out]; exact hlt)
      obtain ⟨z1, z2⟩ := HZ.out z (List.mem_of_getElem? hz)
      obtain ⟨zk, rfl⟩ := Int.eq_ofNat_of_zero_le z1
      have zk6 : zk < 6 := by omega
      have zk7 : (zk : Int) < 6 := by omega
      obtain ⟨g, o, rfl, hgl, hc⟩ := (hA.gr hg).at_ (map_at hz)
      have hsz := HSz.out k
      have hys := nmA_sz zk
      by_cases h0 : k = 0
      · subst h0
        have HJ := Lib.hid (nJ_one hz)
        have HE := Lib.hid (app_empty (nmA zk))
        rw [Int.toNat_natCast] at HJ
        clear hz hsz
        rw [Nat.add_zero] at hc
        rw [nJ_zero]
        have k1 : ¬ ((9223372036854775807 : Int) < 0 + (nmA zk).size) := by omega
        have k3 : ¬ (9223372036854775807 < (nmA zk).size) := by omega
        have k4 : ¬ ((9223372036854775807 : Int) < ((nmA zk).size : Int)) := by omega
        go_wp2
        have HC := Lib.hid (fun wz (hz : Gr wr wz) => And.intro (cell_up hz hc) (World.block_lt_of_cell? wz _ (cell_up hz hc)))
        have HY := Lib.hid (show NmF = NmF from rfl)
        refine region_grows [(1, .ever NmF (fun _ _ _ => NmF.gr _ _ _)), (6, .ever (NmP zk) (fun _ _ _ => NmP.gr _ _ _)), (7, .is (.string (nmA zk)))] (by kernel_rfl) (by kernel_rfl) ?_
        (refine lz_one rfl (fun K hK => ?_); refine ⟨rfl, ?_⟩; apply Exists.intro; refine ⟨fun wz hz => ?_, ?_⟩; (focus (skip; go_simp; (first | done | exact ⟨rfl, rfl⟩ | trivial))); (go_simp; refine hK _ _ ?_; clear hK K))
        (refine lz_many _ rfl (fun K hK => ?_); refine ⟨rfl, fun wz hz ha => ?_, fun vz wz hz hf => ?_⟩; (focus (go_simp; exact lg_ever hz (names_ever _))); (obtain ⟨gn, rfl, -⟩ := hf; clear hz wz; go_simp; refine hK _ _ ?_; clear hK K))
        (refine lz_one rfl (fun K hK => ?_); refine ⟨rfl, ?_⟩; apply Exists.intro; refine ⟨fun wz hz => ?_, ?_⟩; (focus (skip; go_simp; (first | done | exact ⟨rfl, rfl⟩ | trivial))); (go_simp; refine hK _ _ ?_; clear hK K))
        (refine lz_one rfl (fun K hK => ?_); refine ⟨rfl, ?_⟩; apply Exists.intro; refine ⟨fun wz hz => ?_, ?_⟩; (focus (skip; go_simp; (first | done | exact ⟨rfl, rfl⟩ | trivial))); (go_simp; refine hK _ _ ?_; clear hK K))
        (refine lz_one rfl (fun K hK => ?_); refine ⟨rfl, ?_⟩; apply Exists.intro; refine ⟨fun wz hz => ?_, ?_⟩; (focus (skip; go_simp; (first | done | exact ⟨rfl, rfl⟩ | trivial))); (go_simp; refine hK _ _ ?_; clear hK K))
        (refine lz_one rfl (fun K hK => ?_); refine ⟨rfl, ?_⟩; apply Exists.intro; refine ⟨fun wz hz => ?_, ?_⟩; (focus (obtain ⟨d0, dl⟩ := HC.out wz hz; go_simp; (first | done | exact ⟨rfl, rfl⟩ | trivial))); (go_simp; refine hK _ _ ?_; clear hK K))
        (refine lz_many _ rfl (fun K hK => ?_); refine ⟨rfl, fun wz hz ha => ?_, fun vz wz hz hf => ?_⟩; (focus (obtain ⟨gm, e7, h7⟩ := ha ⟨1, .data⟩ (by simp) rfl; cases e7; go_simp; (first | exact ⟨hz, Gr.refl _, gn, rfl, h7 zk zk6⟩ | exact ⟨Gr.refl _, gn, rfl, h7 zk zk6⟩))); (obtain ⟨gp, rfl, -⟩ := hf; clear hz wz; go_simp; refine hK _ _ ?_; clear hK K))
        (refine lz_many _ rfl (fun K hK => ?_); refine ⟨rfl, fun wz hz ha => ?_, fun vz wz hz hf => ?_⟩; (focus (obtain ⟨gm, e7, h7⟩ := ha ⟨6, .data⟩ (by simp) rfl; cases e7; go_simp; (first | exact ⟨hz, Gr.refl _, rfl⟩ | exact ⟨Gr.refl _, rfl⟩ | exact Gr.refl _))); (obtain rfl := hf; clear hz wz; go_simp; refine hK _ _ ?_; clear hK K))
        (refine lz_one rfl (fun K hK => ?_); refine ⟨rfl, ?_⟩; apply Exists.intro; refine ⟨fun wz hz => ?_, ?_⟩; (focus (skip; go_simp; (first | done | exact ⟨rfl, rfl⟩ | trivial))); (go_simp; refine hK _ _ ?_; clear hK K))
        (refine lz_one rfl (fun K hK => ?_); refine ⟨rfl, ?_⟩; apply Exists.intro; refine ⟨fun wz hz => ?_, ?_⟩; (focus (skip; go_simp; (first | done | exact ⟨rfl, rfl⟩ | trivial))); (go_simp; refine hK _ _ ?_; clear hK K))
        refine lz_nil ?_
        intro w3 hz hgg
        clear hgg
        go_wp2
        go_roundw
        case rel => exact ⟨1, by omega, by go_num, by rw [HJ.out]; first | rfl | (rw [HE.out]), hg.trans hz⟩
        case measure => simp [intOf]; omega
      · have HJ := Lib.hid (nJ_succ hz (by omega))
        rw [Int.toNat_natCast] at HJ
        have h0' : (0 : Int) < k := by omega
        clear hz h0
        generalize nJ zs k = s at *
        have k1 : ¬ ((9223372036854775807 : Int) < (s.size : Int) + 1) := by omega
        go_wp2
        obtain ⟨s2, hs2⟩ : ∃ s2, s2 = s ++ ⟨#[44]⟩ := ⟨_, rfl⟩
        have hs3 : s2.size = s.size + 1 := by rw [hs2, ByteArray.size_append]; rfl
        rw [← hs2]
        have HS := Lib.hid hs2
        clear hs2
        have k3 : ¬ (9223372036854775807 < s2.size + (nmA zk).size) := by omega
        have k2 : ¬ ((9223372036854775807 : Int) < (s2.size : Int) + (nmA zk).size) := by omega
        clear hs3
        have HC := Lib.hid (fun wz (hz : Gr wr wz) => And.intro (cell_up hz hc) (World.block_lt_of_cell? wz _ (cell_up hz hc)))
        refine region_grows [(1, .ever NmF (fun _ _ _ => NmF.gr _ _ _)), (6, .ever (NmP zk) (fun _ _ _ => NmP.gr _ _ _)), (7, .is (.string (nmA zk)))] (by kernel_rfl) (by kernel_rfl) ?_
        (refine lz_one rfl (fun K hK => ?_); refine ⟨rfl, ?_⟩; apply Exists.intro; refine ⟨fun wz hz => ?_, ?_⟩; (focus (skip; go_simp; (first | done | exact rfl | exact ⟨rfl, rfl⟩))); (go_simp; refine hK _ _ ?_; clear hK K))
        (refine lz_many _ rfl (fun K hK => ?_); refine ⟨rfl, fun wz hz ha => ?_, fun vz wz hz hf => ?_⟩; (focus (go_simp; exact lg_ever hz (names_ever _))); (obtain ⟨gn, rfl, -⟩ := hf; clear hz wz; go_simp; refine hK _ _ ?_; clear hK K))
        (refine lz_one rfl (fun K hK => ?_); refine ⟨rfl, ?_⟩; apply Exists.intro; refine ⟨fun wz hz => ?_, ?_⟩; (focus (skip; go_simp; (first | done | exact rfl | exact ⟨rfl, rfl⟩))); (go_simp; refine hK _ _ ?_; clear hK K))
        (refine lz_one rfl (fun K hK => ?_); refine ⟨rfl, ?_⟩; apply Exists.intro; refine ⟨fun wz hz => ?_, ?_⟩; (focus (skip; go_simp; (first | done | exact rfl | exact ⟨rfl, rfl⟩))); (go_simp; refine hK _ _ ?_; clear hK K))
        (refine lz_one rfl (fun K hK => ?_); refine ⟨rfl, ?_⟩; apply Exists.intro; refine ⟨fun wz hz => ?_, ?_⟩; (focus (skip; go_simp; (first | done | exact rfl | exact ⟨rfl, rfl⟩))); (go_simp; refine hK _ _ ?_; clear hK K))
        (refine lz_one rfl (fun K hK => ?_); refine ⟨rfl, ?_⟩; apply Exists.intro; refine ⟨fun wz hz => ?_, ?_⟩; (focus (obtain ⟨d0, dl⟩ := HC.out wz hz; go_simp; (first | done | exact rfl | exact ⟨rfl, rfl⟩))); (go_simp; refine hK _ _ ?_; clear hK K))
        (refine lz_many _ rfl (fun K hK => ?_); refine ⟨rfl, fun wz hz ha => ?_, fun vz wz hz hf => ?_⟩; (focus (obtain ⟨gm, e7, h7⟩ := ha ⟨1, .data⟩ (by simp) rfl; cases e7; go_simp; (first | exact ⟨hz, Gr.refl _, gn, rfl, h7 zk zk6⟩ | exact ⟨Gr.refl _, gn, rfl, h7 zk zk6⟩))); (obtain ⟨gp, rfl, -⟩ := hf; clear hz wz; go_simp; refine hK _ _ ?_; clear hK K))
        (refine lz_many _ rfl (fun K hK => ?_); refine ⟨rfl, fun wz hz ha => ?_, fun vz wz hz hf => ?_⟩; (focus (obtain ⟨gm, e7, h7⟩ := ha ⟨6, .data⟩ (by simp) rfl; cases e7; go_simp; (first | exact ⟨hz, Gr.refl _, rfl⟩ | exact ⟨Gr.refl _, rfl⟩ | exact Gr.refl _))); (obtain rfl := hf; clear hz wz; go_simp; refine hK _ _ ?_; clear hK K))
        (refine lz_one rfl (fun K hK => ?_); refine ⟨rfl, ?_⟩; apply Exists.intro; refine ⟨fun wz hz => ?_, ?_⟩; (focus (skip; go_simp; (first | done | exact rfl | exact ⟨rfl, rfl⟩))); (go_simp; refine hK _ _ ?_; clear hK K))
        (refine lz_one rfl (fun K hK => ?_); refine ⟨rfl, ?_⟩; apply Exists.intro; refine ⟨fun wz hz => ?_, ?_⟩; (focus (skip; go_simp; (first | done | exact rfl | exact ⟨rfl, rfl⟩))); (go_simp; refine hK _ _ ?_; clear hK K))
        refine lz_nil ?_
        intro w3 hz hgg
        clear hgg
        go_wp2
        go_roundw
        case rel => exact ⟨k + 1, by omega, by go_num, by rw [HJ.out, HS.out], hg.trans hz⟩
        case measure => simp [intOf]; omega
    · obtain rfl : k = n := by omega
      go_wp2
      go_ret
      exact ⟨rfl, hg⟩
end Go.Proofs.YtefhhigcplemaaaGreatDoor

/- Texts of rules, in the program and in the model. -/
namespace Go.Proofs.YtefhhigcplemaaaGreatDoor
open Go.RowKit
set_option linter.unusedVariables false
set_option linter.unusedSimpArgs false

def nsV (z : Int) : Value := .string (nmA z.toNat)
set_option maxHeartbeats 1000000 in
theorem scalesText_impl (A : Option Addr) (n c : Nat) (zs : List Int) (w : World) (hn : zs.length = n) (hN : n ≤ 6) (hz : ∀ z ∈ zs, 0 ≤ z ∧ z ≤ 5) (hA : Reads w w.heap.size A (zs.map vi)) (hNm : Nms w) :
    Calls Tryz.prog 91 #[.slice A n c] w fun e w' => e = .returned (.string (nJ zs n)) ∧ Gr w w' := by
  have HN := Lib.hid hn
  have HZ := Lib.hid hz
  have HNm := Lib.hid hNm
  have hl : (zs.map nsV).length = n := by rw [List.length_map]; exact hn
  have HL := Lib.hid hl
  have hmk := mkStrs n (by omega)
  clear hn hz hNm hl
  go_enter Tryz.func91, Tryz.ntmps91
  go_wp2_with fail
  clear hmk
  go_loopw [11] (fun i wr => ∃ k : Nat, k ≤ n ∧ i = .int .i64 k ∧ Row wr w.heap.size 9 (fillV (zs.map nsV) (.string ⟨#[]⟩) k) ∧ Below w.heap.size w wr) (fun i _ => n - (intOf i).toNat)
  case atStart => exact ⟨0, by omega, rfl, by rw [fillV_zero, HL.out]; exact Row.new w _ _, (Below.refl _ _).alloc (Nat.le_refl _) _⟩
  case round =>
    obtain ⟨k, hk, rfl, hrow, hbl⟩ := hrel
    by_cases hlt : k < n
    · have hk2 : k < (zs.map nsV).length := by rw [HL.out]; exact hlt
      obtain ⟨z, hz⟩ := some_at (l := zs) (k := k) (by rw [HN.out]; exact hlt)
      obtain ⟨z1, z2⟩ := HZ.out z (List.mem_of_getElem? hz)
      obtain ⟨zk, rfl⟩ := Int.eq_ofNat_of_zero_le z1
      have zk6 : zk < 6 := by omega
      obtain ⟨g, o, rfl, hg, hc⟩ := hA.at_ (map_at hz)
      have FS := Lib.hid (fillV_put (zs.map nsV) (.string ⟨#[]⟩) (nsV zk) k (map_at hz))
      have hc' : wr.cell? ⟨g, o + k, none⟩ = some (vi zk) := (hbl.cell (p := ⟨g, o + k, none⟩) hg).trans hc
      have c0 := hrow.cell k
      rw [fillV_at _ _ _ hk2] at c0
      have f0 := hrow.free k
      have hlb := hrow.lt
      have n0 := HNm.out.gr (Gr.of_below hbl) zk zk6
      have nl := World.block_lt_of_cell? wr _ n0
      have HS := Lib.hid (show Value.string (nmA zk) = nsV zk from rfl)
      clear hz hk2 hc
      go_wp2_with fail
      go_roundw
      case rel =>
        refine ⟨k + 1, by omega, by go_num, ?_, ?_⟩
        · rw [← FS.out, ← HS.out]
          exact hrow.set k _
        · exact hbl.setCell (p := ⟨w.heap.size, k, none⟩) (Nat.le_refl _) _
      case measure => simp [intOf]; omega
    · obtain rfl : k = n := by omega
      have HF := Lib.hid (fillV_all (zs.map nsV) (.string ⟨#[]⟩))
      rw [HL.out] at HF
      have hcells : ∀ (j : Nat) x, (zs.map (fun z => nmA z.toNat))[j]? = some x → wr.cell? ⟨w.heap.size, 0 + j, none⟩ = some (.string x) := by
        intro j x hx
        rw [Nat.zero_add, hrow.cell, HF.out]
        rw [List.getElem?_map] at hx ⊢
        cases h : zs[j]? with
        | none => rw [h] at hx; cases hx
        | some z => rw [h] at hx; simp at hx; subst hx; rfl
      have hjl : (Lib.join ((zs.map (fun z => nmA z.toNat)).map (·.data.toList)) [44]).length ≤ 140737488355328 := by
        have := join_len ((zs.map (fun z => nmA z.toNat)).map (·.data.toList)) (fun x hx => by
          obtain ⟨s, hs, rfl⟩ := List.mem_map.1 hx
          obtain ⟨z, hz, rfl⟩ := List.mem_map.1 hs
          have := (nmA_len z.toNat).1
          omega)
        rw [List.length_map, List.length_map, HN.out] at this
        omega
      have hJ := Tryz.strings_Join w.heap.size 0 k (zs.map (fun z => nmA z.toNat)) ⟨#[44]⟩ wr hcells hrow.lt (by rw [List.length_map, HN.out]; omega) (by rw [List.length_map, HN.out]; omega) hjl
      rw [List.length_map, HN.out] at hJ
      have HJ := Lib.hid hJ
      have HE := Lib.hid (show nJ zs k = ⟨(Lib.join ((zs.map (fun z => nmA z.toNat)).map (·.data.toList)) (ByteArray.mk #[44]).data.toList).toArray⟩ by
        unfold nJ
        rw [List.take_of_length_le (by rw [HN.out]; omega), List.map_map]
        rfl)
      clear hJ hcells hjl
      go_wp2_with fail
      refine HJ.out.mono ?_
      rintro e w' ⟨rfl, hb2⟩
      go_wp2_with fail
      go_ret
      exact ⟨ret_str (by rw [HE.out, List.map_map]), Gr.of_below (hbl.trans (hb2.mono hbl.size))⟩

/-- A rule's text. -/
def ruB (L : Int) (xs ys : List Int) : ByteArray := itoaB L ++ ⟨#[32]⟩ ++ nJ xs xs.length ++ ⟨#[32]⟩ ++ nJ ys ys.length
def ruS (L : Int) (xs ys : List Int) : ByteArray := if rlB L xs ys = true then ruB L xs ys else ⟨#[]⟩
def ruC (L : Int) (xs ys : List Int) : Int := if rlB L xs ys = true then 0 else 1
theorem ru_ok {L : Int} {xs ys : List Int} (h : rlB L xs ys = true) : ruS L xs ys = ruB L xs ys ∧ ruC L xs ys = 0 := ⟨if_pos h, if_pos h⟩
theorem ru_no {L : Int} {xs ys : List Int} (h : rlB L xs ys = false) : ruS L xs ys = ⟨#[]⟩ ∧ ruC L xs ys = 1 := ⟨if_neg (by rw [h]; simp), if_neg (by rw [h]; simp)⟩
theorem rl_names {L : Int} {xs ys : List Int} (h : rlB L xs ys = true) : (1 ≤ L ∧ L ≤ 100000) ∧ (xs.length ≤ 6 ∧ ∀ z ∈ xs, 0 ≤ z ∧ z ≤ 5) ∧ (ys.length ≤ 6 ∧ ∀ z ∈ ys, 0 ≤ z ∧ z ≤ 5) := by
  obtain ⟨h1, h2, h3⟩ := (rlB_iff L xs ys).1 h
  refine ⟨(ln_iff L).1 h1, ⟨((arS_iff xs).1 h2).1.2, fun z hz => ?_⟩, ⟨((arS_iff ys).1 h3).1.2, fun z hz => ?_⟩⟩
  · have := (lsc_iff z).1 (arS_mem h2 ((hasI_iff _ _).2 hz)); omega
  · have := (lsc_iff z).1 (arS_mem h3 ((hasI_iff _ _).2 hz)); omega
set_option maxRecDepth 100000 in
set_option maxHeartbeats 2000000 in
theorem text11_spec (L : Int) (A B : Option Addr) (n c m d : Nat) (xs ys : List Int) (w : World) (hx : xs.length = n) (hy : ys.length = m) (hn : n ≤ 16777216) (hm : m ≤ 16777216) (hnc : n ≤ c) (hmd : m ≤ d) (hX : Reads w w.heap.size A (xs.map vi)) (hY : Reads w w.heap.size B (ys.map vi)) (hr : rlB L xs ys = true) :
    Calls Tryz.prog 93 #[.agg #[.int .i64 L, .slice A n c, .slice B m d]] w fun e w' => e = .returned (.string (ruB L xs ys)) ∧ Gr w w' := by
  obtain ⟨⟨l1, l2⟩, ⟨x1, x2⟩, y1, y2⟩ := rl_names hr
  have HD := Lib.hid (fun W => dec_g L W (by omega) (by omega))
  have HX := Lib.hid (fun W h => names11_spec A n c xs W hx (by omega) x2 h)
  have HY := Lib.hid (fun W h => names11_spec B m d ys W hy (by omega) y2 h)
  have HR := Lib.hid (show ruB L xs ys = itoaB L ++ ⟨#[32]⟩ ++ nJ xs n ++ ⟨#[32]⟩ ++ nJ ys m by unfold ruB; rw [hx, hy])
  have s1 := (itoa_len L (by omega) (by omega)).2
  have s2 := nJ_size xs n
  have s3 := nJ_size ys m
  rw [hx] at s2 x1
  rw [hy] at s3 y1
  have RX := Lib.hid hX
  have RY := Lib.hid hY
  clear hx hy hX hY x2 y2
  generalize ruB L xs ys = R at *
  generalize itoaB L = t1 at *
  generalize nJ xs n = t2 at *
  generalize nJ ys m = t3 at *
  have k1 : ¬ ((9223372036854775807 : Int) < (t1.size : Int) + 1) := by omega
  have j1 : ¬ (9223372036854775807 < t1.size + 1) := by omega
  have j2 : ¬ (9223372036854775807 < t1.size + 1 + t2.size) := by omega
  have j3 : ¬ (9223372036854775807 < t1.size + 1 + t2.size + 1) := by omega
  have j4 : ¬ (9223372036854775807 < t1.size + 1 + t2.size + 1 + t3.size) := by omega
  have k2 : ¬ ((9223372036854775807 : Int) < (t1.size : Int) + 1 + t2.size) := by omega
  have k3 : ¬ ((9223372036854775807 : Int) < (t1.size : Int) + 1 + t2.size + 1) := by omega
  have k4 : ¬ ((9223372036854775807 : Int) < (t1.size : Int) + 1 + t2.size + 1 + t3.size) := by omega
  go_enter Tryz.func93, Tryz.ntmps93
  go_wp2_with fail
  have P := Blk.new w 26 #[.int .i64 L, .slice A n c, .slice B m d]
  have hG : Gr w (w.alloc (.cells #[.int .i64 L, .slice A n c, .slice B m d] 26)) := (by repeat (first | with_reducible exact Gr.refl _ | with_reducible refine Gr.alloc ?_ _ | with_reducible refine Gr.gr ?_ _ _ | with_reducible refine Gr.drew ?_ | with_reducible refine Gr.drewN ?_ _))
  generalize w.alloc (.cells #[.int .i64 L, .slice A n c, .slice B m d] 26) = v at *
  have HP := Lib.hid (fun wz (hz : Gr v wz) => (P.gr hz).trio)
  have hXY := And.intro (RX.out.gr hG) (RY.out.gr hG)
  refine region_grows [(2, .is (.string t1)), (6, .is (.string t2)), (11, .is (.string t3))] (by kernel_rfl) (by kernel_rfl) ?_
  (refine lz_one rfl (fun K hK => ?_); refine ⟨rfl, ?_⟩; apply Exists.intro; refine ⟨fun wz hz => ?_, ?_⟩; (focus (skip; go_simp; (first | done | exact rfl | exact ⟨rfl, rfl⟩))); (go_simp; refine hK _ _ ?_; clear hK K))
  (refine lz_one rfl (fun K hK => ?_); refine ⟨rfl, ?_⟩; apply Exists.intro; refine ⟨fun wz hz => ?_, ?_⟩; (focus (obtain ⟨p0, p1, p2, -⟩ := HP.out wz hz; go_simp; (first | done | exact rfl | exact ⟨rfl, rfl⟩))); (go_simp; refine hK _ _ ?_; clear hK K))
  (refine lz_many _ rfl (fun K hK => ?_); refine ⟨rfl, fun wz hz ha => ?_, fun vz wz hz hf => ?_⟩; (focus (go_simp; exact lg_call hz (HD.out _))); (obtain rfl := hf; clear hz wz; go_simp; refine hK _ _ ?_; clear hK K))
  (refine lz_one rfl (fun K hK => ?_); refine ⟨rfl, ?_⟩; apply Exists.intro; refine ⟨fun wz hz => ?_, ?_⟩; (focus (skip; go_simp; (first | done | exact rfl | exact ⟨rfl, rfl⟩))); (go_simp; refine hK _ _ ?_; clear hK K))
  (refine lz_one rfl (fun K hK => ?_); refine ⟨rfl, ?_⟩; apply Exists.intro; refine ⟨fun wz hz => ?_, ?_⟩; (focus (skip; go_simp; (first | done | exact rfl | exact ⟨rfl, rfl⟩))); (go_simp; refine hK _ _ ?_; clear hK K))
  (refine lz_one rfl (fun K hK => ?_); refine ⟨rfl, ?_⟩; apply Exists.intro; refine ⟨fun wz hz => ?_, ?_⟩; (focus (obtain ⟨p0, p1, p2, -⟩ := HP.out wz hz; go_simp; (first | done | exact rfl | exact ⟨rfl, rfl⟩))); (go_simp; refine hK _ _ ?_; clear hK K))
  (refine lz_many _ rfl (fun K hK => ?_); refine ⟨rfl, fun wz hz ha => ?_, fun vz wz hz hf => ?_⟩; (focus (go_simp; exact lg_call hz (HX.out _ (hXY.1.gr hz)))); (obtain rfl := hf; clear hz wz; go_simp; refine hK _ _ ?_; clear hK K))
  (refine lz_one rfl (fun K hK => ?_); refine ⟨rfl, ?_⟩; apply Exists.intro; refine ⟨fun wz hz => ?_, ?_⟩; (focus (skip; go_simp; (first | done | exact rfl | exact ⟨rfl, rfl⟩))); (go_simp; refine hK _ _ ?_; clear hK K))
  (refine lz_one rfl (fun K hK => ?_); refine ⟨rfl, ?_⟩; apply Exists.intro; refine ⟨fun wz hz => ?_, ?_⟩; (focus (skip; go_simp; (first | done | exact rfl | exact ⟨rfl, rfl⟩))); (go_simp; refine hK _ _ ?_; clear hK K))
  (refine lz_one rfl (fun K hK => ?_); refine ⟨rfl, ?_⟩; apply Exists.intro; refine ⟨fun wz hz => ?_, ?_⟩; (focus (skip; go_simp; (first | done | exact rfl | exact ⟨rfl, rfl⟩))); (go_simp; refine hK _ _ ?_; clear hK K))
  (refine lz_one rfl (fun K hK => ?_); refine ⟨rfl, ?_⟩; apply Exists.intro; refine ⟨fun wz hz => ?_, ?_⟩; (focus (obtain ⟨p0, p1, p2, -⟩ := HP.out wz hz; go_simp; (first | done | exact rfl | exact ⟨rfl, rfl⟩))); (go_simp; refine hK _ _ ?_; clear hK K))
  (refine lz_many _ rfl (fun K hK => ?_); refine ⟨rfl, fun wz hz ha => ?_, fun vz wz hz hf => ?_⟩; (focus (go_simp; exact lg_call hz (HY.out _ (hXY.2.gr hz)))); (obtain rfl := hf; clear hz wz; go_simp; refine hK _ _ ?_; clear hK K))
  (refine lz_one rfl (fun K hK => ?_); refine ⟨rfl, ?_⟩; apply Exists.intro; refine ⟨fun wz hz => ?_, ?_⟩; (focus (skip; go_simp; (first | done | exact rfl | exact ⟨rfl, rfl⟩))); (go_simp; refine hK _ _ ?_; clear hK K))
  (refine lz_one rfl (fun K hK => ?_); refine ⟨rfl, ?_⟩; apply Exists.intro; refine ⟨fun wz hz => ?_, ?_⟩; (focus (skip; go_simp; (first | done | exact rfl | exact ⟨rfl, rfl⟩))); (go_simp; refine hK _ _ ?_; clear hK K))
  refine lz_nil ?_
  intro w3 hz hgg
  clear hgg
  go_wp2_with fail
  go_ret
  exact ⟨ret_str HR.out.symm, hG.trans hz⟩
theorem ruT_spec (L : Int) (A B : Option Addr) (n c m d : Nat) (xs ys : List Int) (w : World) (hx : xs.length = n) (hy : ys.length = m) (hn : n ≤ 16777216) (hm : m ≤ 16777216) (hnc : n ≤ c) (hmd : m ≤ d) (hX : Reads w w.heap.size A (xs.map vi)) (hY : Reads w w.heap.size B (ys.map vi)) :
    Calls Tryz.prog 42 #[.agg #[.int .i64 L, .slice A n c, .slice B m d]] w fun e w' => e = .returned (.tuple #[.string (ruS L xs ys), .int .i64 (ruC L xs ys)]) ∧ Gr w w' := by
  have HR := Lib.hid (fun W h h' => rule_spec L A B n c m d xs ys W hx hy hn hm hnc hmd h h')
  have HT := Lib.hid (fun W h h' hr => text11_spec L A B n c m d xs ys W hx hy hn hm hnc hmd h h' hr)
  have RX := Lib.hid hX
  have RY := Lib.hid hY
  clear hx hy hX hY
  rcases rlB_tf L xs ys with h | h
  · have H := Lib.hid (ru_ok h)
    have E := Lib.hid h
    rw [h] at HR
    clear h
    go_enter Tryz.func42, Tryz.ntmps42
    go_wp2_with (first | (go_at_call 92; (with_reducible refine (HR.out _ (RX.out.gr (by repeat (first | with_reducible exact Gr.refl _ | with_reducible refine Gr.alloc ?_ _ | with_reducible refine Gr.gr ?_ _ _ | with_reducible refine Gr.drew ?_ | with_reducible refine Gr.drewN ?_ _))) (RY.out.gr (by repeat (first | with_reducible exact Gr.refl _ | with_reducible refine Gr.alloc ?_ _ | with_reducible refine Gr.gr ?_ _ _ | with_reducible refine Gr.drew ?_ | with_reducible refine Gr.drewN ?_ _)))).mono ?_); rintro e w' ⟨rfl, k, os, rfl⟩) | (go_at_call 93; (with_reducible refine (HT.out _ (RX.out.gr (by repeat (first | with_reducible exact Gr.refl _ | with_reducible refine Gr.alloc ?_ _ | with_reducible refine Gr.gr ?_ _ _ | with_reducible refine Gr.drew ?_ | with_reducible refine Gr.drewN ?_ _))) (RY.out.gr (by repeat (first | with_reducible exact Gr.refl _ | with_reducible refine Gr.alloc ?_ _ | with_reducible refine Gr.gr ?_ _ _ | with_reducible refine Gr.drew ?_ | with_reducible refine Gr.drewN ?_ _))) E.out).mono ?_); rintro e w' ⟨rfl, k2, os2, rfl⟩))
    go_ret2
    exact ⟨ret_sc (by rw [H.out.1]) (by rw [H.out.2]), (by repeat (first | with_reducible exact Gr.refl _ | with_reducible refine Gr.alloc ?_ _ | with_reducible refine Gr.gr ?_ _ _ | with_reducible refine Gr.drew ?_ | with_reducible refine Gr.drewN ?_ _))⟩
  · have H := Lib.hid (ru_no h)
    rw [h] at HR
    clear h
    go_enter Tryz.func42, Tryz.ntmps42
    go_wp2_with (go_at_call 92; (with_reducible refine (HR.out _ (RX.out.gr (by repeat (first | with_reducible exact Gr.refl _ | with_reducible refine Gr.alloc ?_ _ | with_reducible refine Gr.gr ?_ _ _ | with_reducible refine Gr.drew ?_ | with_reducible refine Gr.drewN ?_ _))) (RY.out.gr (by repeat (first | with_reducible exact Gr.refl _ | with_reducible refine Gr.alloc ?_ _ | with_reducible refine Gr.gr ?_ _ _ | with_reducible refine Gr.drew ?_ | with_reducible refine Gr.drewN ?_ _)))).mono ?_); rintro e w' ⟨rfl, k, os, rfl⟩)
    go_ret2
    exact ⟨ret_sc (by rw [H.out.1]) (by rw [H.out.2]), (by repeat (first | with_reducible exact Gr.refl _ | with_reducible refine Gr.alloc ?_ _ | with_reducible refine Gr.gr ?_ _ _ | with_reducible refine Gr.drew ?_ | with_reducible refine Gr.drewN ?_ _))⟩
set_option maxRecDepth 100000 in
set_option maxHeartbeats 2000000 in
theorem ruT_impl (L : Int) (A B : Option Addr) (n c m d : Nat) (xs ys : List Int) (w : World) (hx : xs.length = n) (hy : ys.length = m) (hn : n ≤ 16777216) (hm : m ≤ 16777216) (hnc : n ≤ c) (hmd : m ≤ d) (hX : Reads w w.heap.size A (xs.map vi)) (hY : Reads w w.heap.size B (ys.map vi)) (hNm : Nms w) (hT : Tab w) :
    Calls Tryz.prog 41 #[.agg #[.int .i64 L, .slice A n c, .slice B m d]] w fun e w' => e = .returned (.tuple #[.string (ruS L xs ys), .int .i64 (ruC L xs ys)]) ∧ Gr w w' := by
  have HR := Lib.hid (fun W h h' => rule_impl L A B n c m d xs ys W hx hy hn hm hnc hmd h h')
  have RX := Lib.hid hX
  have RY := Lib.hid hY
  have HNm := Lib.hid hNm
  have HTb := Lib.hid hT
  rcases rlB_tf L xs ys with h | h
  · have H := Lib.hid (ru_ok h)
    obtain ⟨⟨l1, l2⟩, ⟨x1, x2⟩, y1, y2⟩ := rl_names h
    have HD := Lib.hid (fun W h => formatInt_g L W (by omega) (by omega) h)
    have HX := Lib.hid (fun W h h' => scalesText_impl A n c xs W hx (by omega) x2 h h')
    have HY := Lib.hid (fun W h h' => scalesText_impl B m d ys W hy (by omega) y2 h h')
    have HB := Lib.hid (show ruB L xs ys = itoaB L ++ ⟨#[32]⟩ ++ nJ xs n ++ ⟨#[32]⟩ ++ nJ ys m by unfold ruB; rw [hx, hy])
    have s1 := (itoa_len L (by omega) (by omega)).2
    have s2 := nJ_size xs n
    have s3 := nJ_size ys m
    rw [hx] at s2 x1
    rw [hy] at s3 y1
    rw [h] at HR
    clear hx hy hX hY x2 y2 h hNm hT
    generalize ruS L xs ys = R at *
    generalize ruC L xs ys = RC at *
    generalize ruB L xs ys = RB at *
    generalize itoaB L = t1 at *
    generalize nJ xs n = t2 at *
    generalize nJ ys m = t3 at *
    have k1 : ¬ ((9223372036854775807 : Int) < (t1.size : Int) + 1) := by omega
    have j1 : ¬ (9223372036854775807 < t1.size + 1) := by omega
    have j2 : ¬ (9223372036854775807 < t1.size + 1 + t2.size) := by omega
    have j3 : ¬ (9223372036854775807 < t1.size + 1 + t2.size + 1) := by omega
    have j4 : ¬ (9223372036854775807 < t1.size + 1 + t2.size + 1 + t3.size) := by omega
    have k2 : ¬ ((9223372036854775807 : Int) < (t1.size : Int) + 1 + t2.size) := by omega
    have k3 : ¬ ((9223372036854775807 : Int) < (t1.size : Int) + 1 + t2.size + 1) := by omega
    have k4 : ¬ ((9223372036854775807 : Int) < (t1.size : Int) + 1 + t2.size + 1 + t3.size) := by omega
    go_enter Tryz.func41, Tryz.ntmps41
    go_wp2_with fail
    have P := Blk.new w 26 #[.int .i64 L, .slice A n c, .slice B m d]
    have hG0 : Gr w (w.alloc (.cells #[.int .i64 L, .slice A n c, .slice B m d] 26)) := (by repeat (first | with_reducible exact Gr.refl _ | with_reducible refine Gr.alloc ?_ _ | with_reducible refine Gr.gr ?_ _ _ | with_reducible refine Gr.drew ?_ | with_reducible refine Gr.drewN ?_ _))
    generalize w.alloc (.cells #[.int .i64 L, .slice A n c, .slice B m d] 26) = v0 at *
    refine (HR.out v0 (RX.out.gr hG0) (RY.out.gr hG0)).mono ?_
    rintro e v ⟨rfl, hgv⟩
    have hG := hG0.trans hgv
    replace P := P.gr hgv
    clear hG0 hgv
    go_wp2_with fail
    have HP := Lib.hid (fun wz (hz : Gr v wz) => (P.gr hz).trio)
    have hXY := And.intro (RX.out.gr hG) (RY.out.gr hG)
    have hNT := And.intro (HNm.out.gr hG) (HTb.out.gr hG)
    refine region_grows [(2, .is (.string t1)), (6, .is (.string t2)), (11, .is (.string t3))] (by kernel_rfl) (by kernel_rfl) ?_
    (refine lz_one rfl (fun K hK => ?_); refine ⟨rfl, ?_⟩; apply Exists.intro; refine ⟨fun wz hz => ?_, ?_⟩; (focus (skip; go_simp; (first | done | exact rfl | exact ⟨rfl, rfl⟩))); (go_simp; refine hK _ _ ?_; clear hK K))
    (refine lz_one rfl (fun K hK => ?_); refine ⟨rfl, ?_⟩; apply Exists.intro; refine ⟨fun wz hz => ?_, ?_⟩; (focus (obtain ⟨p0, p1, p2, -⟩ := HP.out wz hz; go_simp; (first | done | exact rfl | exact ⟨rfl, rfl⟩))); (go_simp; refine hK _ _ ?_; clear hK K))
    (refine lz_many _ rfl (fun K hK => ?_); refine ⟨rfl, fun wz hz ha => ?_, fun vz wz hz hf => ?_⟩; (focus (go_simp; exact lg_call hz (HD.out _ (hNT.2.gr hz)))); (obtain rfl := hf; clear hz wz; go_simp; refine hK _ _ ?_; clear hK K))
    (refine lz_one rfl (fun K hK => ?_); refine ⟨rfl, ?_⟩; apply Exists.intro; refine ⟨fun wz hz => ?_, ?_⟩; (focus (skip; go_simp; (first | done | exact rfl | exact ⟨rfl, rfl⟩))); (go_simp; refine hK _ _ ?_; clear hK K))
    (refine lz_one rfl (fun K hK => ?_); refine ⟨rfl, ?_⟩; apply Exists.intro; refine ⟨fun wz hz => ?_, ?_⟩; (focus (skip; go_simp; (first | done | exact rfl | exact ⟨rfl, rfl⟩))); (go_simp; refine hK _ _ ?_; clear hK K))
    (refine lz_one rfl (fun K hK => ?_); refine ⟨rfl, ?_⟩; apply Exists.intro; refine ⟨fun wz hz => ?_, ?_⟩; (focus (obtain ⟨p0, p1, p2, -⟩ := HP.out wz hz; go_simp; (first | done | exact rfl | exact ⟨rfl, rfl⟩))); (go_simp; refine hK _ _ ?_; clear hK K))
    (refine lz_many _ rfl (fun K hK => ?_); refine ⟨rfl, fun wz hz ha => ?_, fun vz wz hz hf => ?_⟩; (focus (go_simp; exact lg_call hz (HX.out _ (hXY.1.gr hz) (hNT.1.gr hz)))); (obtain rfl := hf; clear hz wz; go_simp; refine hK _ _ ?_; clear hK K))
    (refine lz_one rfl (fun K hK => ?_); refine ⟨rfl, ?_⟩; apply Exists.intro; refine ⟨fun wz hz => ?_, ?_⟩; (focus (skip; go_simp; (first | done | exact rfl | exact ⟨rfl, rfl⟩))); (go_simp; refine hK _ _ ?_; clear hK K))
    (refine lz_one rfl (fun K hK => ?_); refine ⟨rfl, ?_⟩; apply Exists.intro; refine ⟨fun wz hz => ?_, ?_⟩; (focus (skip; go_simp; (first | done | exact rfl | exact ⟨rfl, rfl⟩))); (go_simp; refine hK _ _ ?_; clear hK K))
    (refine lz_one rfl (fun K hK => ?_); refine ⟨rfl, ?_⟩; apply Exists.intro; refine ⟨fun wz hz => ?_, ?_⟩; (focus (skip; go_simp; (first | done | exact rfl | exact ⟨rfl, rfl⟩))); (go_simp; refine hK _ _ ?_; clear hK K))
    (refine lz_one rfl (fun K hK => ?_); refine ⟨rfl, ?_⟩; apply Exists.intro; refine ⟨fun wz hz => ?_, ?_⟩; (focus (obtain ⟨p0, p1, p2, -⟩ := HP.out wz hz; go_simp; (first | done | exact rfl | exact ⟨rfl, rfl⟩))); (go_simp; refine hK _ _ ?_; clear hK K))
    (refine lz_many _ rfl (fun K hK => ?_); refine ⟨rfl, fun wz hz ha => ?_, fun vz wz hz hf => ?_⟩; (focus (go_simp; exact lg_call hz (HY.out _ (hXY.2.gr hz) (hNT.1.gr hz)))); (obtain rfl := hf; clear hz wz; go_simp; refine hK _ _ ?_; clear hK K))
    (refine lz_one rfl (fun K hK => ?_); refine ⟨rfl, ?_⟩; apply Exists.intro; refine ⟨fun wz hz => ?_, ?_⟩; (focus (skip; go_simp; (first | done | exact rfl | exact ⟨rfl, rfl⟩))); (go_simp; refine hK _ _ ?_; clear hK K))
    (refine lz_one rfl (fun K hK => ?_); refine ⟨rfl, ?_⟩; apply Exists.intro; refine ⟨fun wz hz => ?_, ?_⟩; (focus (skip; go_simp; (first | done | exact rfl | exact ⟨rfl, rfl⟩))); (go_simp; refine hK _ _ ?_; clear hK K))
    (refine lz_one rfl (fun K hK => ?_); refine ⟨rfl, ?_⟩; apply Exists.intro; refine ⟨fun wz hz => ?_, ?_⟩; (focus (skip; go_simp; (first | done | exact rfl | exact ⟨rfl, rfl⟩))); (go_simp; refine hK _ _ ?_; clear hK K))
    refine lz_nil ?_
    intro w3 hz hgg
    clear hgg
    go_wp2_with fail
    go_ret2
    exact ⟨ret_sc (by rw [H.out.1, HB.out]) (by rw [H.out.2]), hG.trans hz⟩
  · have H := Lib.hid (ru_no h)
    rw [h] at HR
    clear hx hy hX hY h hNm hT
    go_enter Tryz.func41, Tryz.ntmps41
    go_wp2_with (go_at_call 50; (with_reducible refine (HR.out _ (RX.out.gr (by repeat (first | with_reducible exact Gr.refl _ | with_reducible refine Gr.alloc ?_ _ | with_reducible refine Gr.gr ?_ _ _ | with_reducible refine Gr.drew ?_ | with_reducible refine Gr.drewN ?_ _))) (RY.out.gr (by repeat (first | with_reducible exact Gr.refl _ | with_reducible refine Gr.alloc ?_ _ | with_reducible refine Gr.gr ?_ _ _ | with_reducible refine Gr.drew ?_ | with_reducible refine Gr.drewN ?_ _)))).mono ?_); rintro e w' ⟨rfl, k, os, rfl⟩)
    go_ret2
    exact ⟨ret_sc (by rw [H.out.1]) (by rw [H.out.2]), (by repeat (first | with_reducible exact Gr.refl _ | with_reducible refine Gr.alloc ?_ _ | with_reducible refine Gr.gr ?_ _ _ | with_reducible refine Gr.drew ?_ | with_reducible refine Gr.drewN ?_ _))⟩
end Go.Proofs.YtefhhigcplemaaaGreatDoor
