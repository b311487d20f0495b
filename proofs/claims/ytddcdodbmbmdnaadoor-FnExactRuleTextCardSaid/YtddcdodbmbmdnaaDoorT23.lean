/- Texts of rules: names of scales joined, in the model. -/
import Derived.Test.YtddcdodbmbmdnaaDoorC11d
import Derived.Test.YtddcdodbmbmdnaaDoorC05e
import Derived.Test.YtddcdodbmbmdnaaDoorTA
namespace Go.Proofs.YtddcdodbmbmdnaaDoor
open Go.RowKit
set_option linter.unusedVariables false
set_option linter.unusedSimpArgs false

/-- A scale's name; the names of the first k scales, joined. -/
def nmL (z : Int) : List UInt8 := (nmA z.toNat).data.toList
theorem nmL_mk (z : Int) : (⟨(nmL z).toArray⟩ : ByteArray) = nmA z.toNat := rfl
theorem nmA_len (k : Nat) : (nmA k).data.toList.length ≤ 2 ∧ 1 ≤ (nmA k).data.toList.length := by
  unfold nmA; split <;> simp
def nJ (zs : List Int) (k : Nat) : ByteArray := ⟨(Lib.join ((zs.take k).map nmL) [44]).toArray⟩
theorem nJ_zero (zs : List Int) : nJ zs 0 = ⟨#[]⟩ := by unfold nJ; simp [Lib.join_nil]
theorem nJ_one {zs : List Int} {z : Int} (h : zs[0]? = some z) : nJ zs 1 = nmA z.toNat := by
  cases zs with
  | nil => cases h
  | cons a r => simp at h; subst h; unfold nJ; simp [Lib.join_one, nmL]
theorem nJ_succ {zs : List Int} {k : Nat} {z : Int} (h : zs[k]? = some z) (hk : 0 < k) : nJ zs (k + 1) = nJ zs k ++ ⟨#[44]⟩ ++ nmA z.toNat := by
  obtain ⟨hl, e⟩ := List.getElem?_eq_some_iff.1 h
  unfold nJ
  rw [List.take_succ_eq_append_getElem hl, e, List.map_append, List.map_cons, List.map_nil, join_snoc, if_neg (by
    intro h0
    rw [List.map_eq_nil_iff, List.take_eq_nil_iff] at h0
    rcases h0 with h0 | h0
    · omega
    · rw [h0] at hl; simp at hl), ← nmL_mk]
  rw [ByteArray.mk_append_mk, ByteArray.mk_append_mk]
theorem nJ_size (zs : List Int) (k : Nat) : (nJ zs k).size ≤ 21 * zs.length := by
  unfold nJ
  show (List.toArray _).size ≤ _
  rw [List.size_toArray]
  have := join_len ((zs.take k).map nmL) (fun x hx => by
    obtain ⟨z, hz, rfl⟩ := List.mem_map.1 hx
    have := (nmA_len z.toNat).1
    show (nmA z.toNat).data.toList.length ≤ 20
    omega)
  rw [List.length_map, List.length_take] at this
  omega
theorem nmA_sz (k : Nat) : (nmA k).size ≤ 2 := by
  have := (nmA_len k).1
  show (nmA k).data.size ≤ 2
  rwa [Array.length_toList] at this

/-- The list of names that the model makes. -/
def NmF (v : Value) (w : World) : Prop := ∃ g : Nat, v = .slice (some ⟨g, 0, none⟩) 6 6 ∧ ∀ i : Nat, i < 6 → w.cell? ⟨g, i, none⟩ = some (.string (nmA i))
theorem NmF.gr (v : Value) (w w' : World) (hg : Gr w w') (h : NmF v w) : NmF v w' := by
  obtain ⟨g, e, h1⟩ := h
  exact ⟨g, e, fun i hi => cell_up hg (h1 i hi)⟩
theorem names_ever (w : World) : Calls Tryd.prog 117 #[] w fun e w' => ∃ v, e = .returned v ∧ NmF v w' ∧ Gr w w' :=
  (names_spec w).mono fun e w' ⟨h1, h2⟩ => ⟨_, h1, ⟨_, rfl, fun i hi => by rw [h2]; exact nmObj_cell w i hi⟩, by rw [h2]; exact (by repeat (first | with_reducible exact Gr.refl _ | with_reducible refine Gr.alloc ?_ _ | with_reducible refine Gr.gr ?_ _ _ | with_reducible refine Gr.drew ?_ | with_reducible refine Gr.drewN ?_ _))⟩
def NmP (i : Nat) (v : Value) (w : World) : Prop := ∃ g : Nat, v = .pointer (some ⟨g, i, none⟩) ∧ w.cell? ⟨g, i, none⟩ = some (.string (nmA i))
theorem NmP.gr {i : Nat} (v : Value) (w w' : World) (hg : Gr w w') (h : NmP i v w) : NmP i v w' := by
  obtain ⟨g, e, h1⟩ := h
  exact ⟨g, e, cell_up hg h1⟩

set_option maxRecDepth 100000 in
set_option maxHeartbeats 4000000 in
theorem names11_spec (A : Option Addr) (n c : Nat) (zs : List Int) (w : World) (hn : zs.length = n) (hN : n ≤ 6) (hz : ∀ z ∈ zs, 0 ≤ z ∧ z ≤ 5) (hA : Reads w w.heap.size A (zs.map vi)) :
    Calls Tryd.prog 91 #[.slice A n c] w fun e w' => e = .returned (.string (nJ zs n)) ∧ Gr w w' := by
  have HL := Lib.hid hn
  have HZ := Lib.hid hz
  have HSz := Lib.hid (fun k => nJ_size zs k)
  rw [hn] at HSz
  clear hn hz
  go_enter Tryd.func91, Tryd.ntmps91
  go_wp2
  go_loopw [3, 4] (fun o i wr => ∃ k : Nat, k ≤ n ∧ i = .int .i64 k ∧ o = .string (nJ zs k) ∧ Gr w wr) (fun o i _ => n - (intOf i).toNat)
  case atStart => exact ⟨0, by omega, rfl, by rw [nJ_zero], Gr.refl w⟩
  case round =>
    obtain ⟨k, hk, rfl, rfl, hg⟩ := hrel
    by_cases hlt : k < n
    · obtain ⟨z, hz⟩ := some_at (l := zs) (k := k) (by rw [HL.out]; exact hlt)
      obtain ⟨z1, z2⟩ := HZ.out z (List.mem_of_getElem? hz)
      obtain ⟨zk, rfl⟩ := Int.eq_ofNat_of_zero_le z1
      have zk6 : zk < 6 := by omega
      have zk7 : (zk : Int) < 6 := by omega
      obtain ⟨g, o, rfl, hgl, hc⟩ := (hA.gr hg).at_ (map_at hz)
      have hsz := HSz.out k
      have hys := nmA_sz zk
      by_cases h0 : k = 0
      · subst h0
        have HJ := Lib.hid (nJ_one hz)
        have HE := Lib.hid (app_empty (nmA zk))
        rw [Int.toNat_natCast] at HJ
        clear hz hsz
        rw [Nat.add_zero] at hc
        rw [nJ_zero]
        have k1 : ¬ ((9223372036854775807 : Int) < 0 + (nmA zk).size) := by omega
        have k3 : ¬ (9223372036854775807 < (nmA zk).size) := by omega
        have k4 : ¬ ((9223372036854775807 : Int) < ((nmA zk).size : Int)) := by omega
        go_wp2
        have HC := Lib.hid (fun wz (hz : Gr wr wz) => And.intro (cell_up hz hc) (World.block_lt_of_cell? wz _ (cell_up hz hc)))
        have HY := Lib.hid (show NmF = NmF from rfl)
        refine region_grows [(1, .ever NmF (fun _ _ _ => NmF.gr _ _ _)), (6, .ever (NmP zk) (fun _ _ _ => NmP.gr _ _ _)), (7, .is (.string (nmA zk)))] (by kernel_rfl) (by kernel_rfl) ?_
        (refine lz_one rfl (fun K hK => ?_); refine ⟨rfl, ?_⟩; apply Exists.intro; refine ⟨fun wz hz => ?_, ?_⟩; (focus (skip; go_simp; (first | done | exact ⟨rfl, rfl⟩ | trivial))); (go_simp; refine hK _ _ ?_; clear hK K))
        (refine lz_many _ rfl (fun K hK => ?_); refine ⟨rfl, fun wz hz ha => ?_, fun vz wz hz hf => ?_⟩; (focus (go_simp; exact lg_ever hz (names_ever _))); (obtain ⟨gn, rfl, -⟩ := hf; clear hz wz; go_simp; refine hK _ _ ?_; clear hK K))
        (refine lz_one rfl (fun K hK => ?_); refine ⟨rfl, ?_⟩; apply Exists.intro; refine ⟨fun wz hz => ?_, ?_⟩; (focus (skip; go_simp; (first | done | exact ⟨rfl, rfl⟩ | trivial))); (go_simp; refine hK _ _ ?_; clear hK K))
        (refine lz_one rfl (fun K hK => ?_); refine ⟨rfl, ?_⟩; apply Exists.intro; refine ⟨fun wz hz => ?_, ?_⟩; (focus (skip; go_simp; (first | done | exact ⟨rfl, rfl⟩ | trivial))); (go_simp; refine hK _ _ ?_; clear hK K))
        (refine lz_one rfl (fun K hK => ?_); refine ⟨rfl, ?_⟩; apply Exists.intro; refine ⟨fun wz hz => ?_, ?_⟩; (focus (skip; go_simp; (first | done | exact ⟨rfl, rfl⟩ | trivial))); (go_simp; refine hK _ _ ?_; clear hK K))
        (refine lz_one rfl (fun K hK => ?_); refine ⟨rfl, ?_⟩; apply Exists.intro; refine ⟨fun wz hz => ?_, ?_⟩; (focus (obtain ⟨d0, dl⟩ := HC.out wz hz; go_simp; (first | done | exact ⟨rfl, rfl⟩ | trivial))); (go_simp; refine hK _ _ ?_; clear hK K))
        (refine lz_many _ rfl (fun K hK => ?_); refine ⟨rfl, fun wz hz ha => ?_, fun vz wz hz hf => ?_⟩; (focus (obtain ⟨gm, e7, h7⟩ := ha ⟨1, .data⟩ (by simp) rfl; cases e7; go_simp; (first | exact ⟨hz, Gr.refl _, gn, rfl, h7 zk zk6⟩ | exact ⟨Gr.refl _, gn, rfl, h7 zk zk6⟩))); (obtain ⟨gp, rfl, -⟩ := hf; clear hz wz; go_simp; refine hK _ _ ?_; clear hK K))
        (refine lz_many _ rfl (fun K hK => ?_); refine ⟨rfl, fun wz hz ha => ?_, fun vz wz hz hf => ?_⟩; (focus (obtain ⟨gm, e7, h7⟩ := ha ⟨6, .data⟩ (by simp) rfl; cases e7; go_simp; (first | exact ⟨hz, Gr.refl _, rfl⟩ | exact ⟨Gr.refl _, rfl⟩ | exact Gr.refl _))); (obtain rfl := hf; clear hz wz; go_simp; refine hK _ _ ?_; clear hK K))
        (refine lz_one rfl (fun K hK => ?_); refine ⟨rfl, ?_⟩; apply Exists.intro; refine ⟨fun wz hz => ?_, ?_⟩; (focus (skip; go_simp; (first | done | exact ⟨rfl, rfl⟩ | trivial))); (go_simp; refine hK _ _ ?_; clear hK K))
        (refine lz_one rfl (fun K hK => ?_); refine ⟨rfl, ?_⟩; apply Exists.intro; refine ⟨fun wz hz => ?_, ?_⟩; (focus (skip; go_simp; (first | done | exact ⟨rfl, rfl⟩ | trivial))); (go_simp; refine hK _ _ ?_; clear hK K))
        refine lz_nil ?_
        intro w3 hz hgg
        clear hgg
        go_wp2
        go_roundw
        case rel => exact ⟨1, by omega, by go_num, by rw [HJ.out]; first | rfl | (rw [HE.out]), hg.trans hz⟩
        case measure => simp [intOf]; omega
      · have HJ := Lib.hid (nJ_succ hz (by omega))
        rw [Int.toNat_natCast] at HJ
        have h0' : (0 : Int) < k := by omega
        clear hz h0
        generalize nJ zs k = s at *
        have k1 : ¬ ((9223372036854775807 : Int) < (s.size : Int) + 1) := by omega
        go_wp2
        obtain ⟨s2, hs2⟩ : ∃ s2, s2 = s ++ ⟨#[44]⟩ := ⟨_, rfl⟩
        have hs3 : s2.size = s.size + 1 := by rw [hs2, ByteArray.size_append]; rfl
        rw [← hs2]
        have HS := Lib.hid hs2
        clear hs2
        have k3 : ¬ (9223372036854775807 < s2.size + (nmA zk).size) := by omega
        have k2 : ¬ ((9223372036854775807 : Int) < (s2.size : Int) + (nmA zk).size) := by omega
        clear hs3
        have HC := Lib.hid (fun wz (hz : Gr wr wz) => And.intro (cell_up hz hc) (World.block_lt_of_cell? wz _ (cell_up hz hc)))
        refine region_grows [(1, .ever NmF (fun _ _ _ => NmF.gr _ _ _)), (6, .ever (NmP zk) (fun _ _ _ => NmP.gr _ _ _)), (7, .is (.string (nmA zk)))] (by kernel_rfl) (by kernel_rfl) ?_
        (refine lz_one rfl (fun K hK => ?_); refine ⟨rfl, ?_⟩; apply Exists.intro; refine ⟨fun wz hz => ?_, ?_⟩; (focus (skip; go_simp; (first | done | exact rfl | exact ⟨rfl, rfl⟩))); (go_simp; refine hK _ _ ?_; clear hK K))
        (refine lz_many _ rfl (fun K hK => ?_); refine ⟨rfl, fun wz hz ha => ?_, fun vz wz hz hf => ?_⟩; (focus (go_simp; exact lg_ever hz (names_ever _))); (obtain ⟨gn, rfl, -⟩ := hf; clear hz wz; go_simp; refine hK _ _ ?_; clear hK K))
        (refine lz_one rfl (fun K hK => ?_); refine ⟨rfl, ?_⟩; apply Exists.intro; refine ⟨fun wz hz => ?_, ?_⟩; (focus (skip; go_simp; (first | done | exact rfl | exact ⟨rfl, rfl⟩))); (go_simp; refine hK _ _ ?_; clear hK K))
        (refine lz_one rfl (fun K hK => ?_); refine ⟨rfl, ?_⟩; apply Exists.intro; refine ⟨fun wz hz => ?_, ?_⟩; (focus (skip; go_simp; (first | done | exact rfl | exact ⟨rfl, rfl⟩))); (go_simp; refine hK _ _ ?_; clear hK K))
        (refine lz_one rfl (fun K hK => ?_); refine ⟨rfl, ?_⟩; apply Exists.intro; refine ⟨fun wz hz => ?_, ?_⟩; (focus (skip; go_simp; (first | done | exact rfl | exact ⟨rfl, rfl⟩))); (go_simp; refine hK _ _ ?_; clear hK K))
        (refine lz_one rfl (fun K hK => ?_); refine ⟨rfl, ?_⟩; apply Exists.intro; refine ⟨fun wz hz => ?_, ?_⟩; (focus (obtain ⟨d0, dl⟩ := HC.out wz hz; go_simp; (first | done | exact rfl | exact ⟨rfl, rfl⟩))); (go_simp; refine hK _ _ ?_; clear hK K))
        (refine lz_many _ rfl (fun K hK => ?_); refine ⟨rfl, fun wz hz ha => ?_, fun vz wz hz hf => ?_⟩; (focus (obtain ⟨gm, e7, h7⟩ := ha ⟨1, .data⟩ (by simp) rfl; cases e7; go_simp; (first | exact ⟨hz, Gr.refl _, gn, rfl, h7 zk zk6⟩ | exact ⟨Gr.refl _, gn, rfl, h7 zk zk6⟩))); (obtain ⟨gp, rfl, -⟩ := hf; clear hz wz; go_simp; refine hK _ _ ?_; clear hK K))
        (refine lz_many _ rfl (fun K hK => ?_); refine ⟨rfl, fun wz hz ha => ?_, fun vz wz hz hf => ?_⟩; (focus (obtain ⟨gm, e7, h7⟩ := ha ⟨6, .data⟩ (by simp) rfl; cases e7; go_simp; (first | exact ⟨hz, Gr.refl _, rfl⟩ | exact ⟨Gr.refl _, rfl⟩ | exact Gr.refl _))); (obtain rfl := hf; clear hz wz; go_simp; refine hK _ _ ?_; clear hK K))
        (refine lz_one rfl (fun K hK => ?_); refine ⟨rfl, ?_⟩; apply Exists.intro; refine ⟨fun wz hz => ?_, ?_⟩; (focus (skip; go_simp; (first | done | exact rfl | exact ⟨rfl, rfl⟩))); (go_simp; refine hK _ _ ?_; clear hK K))
        (refine lz_one rfl (fun K hK => ?_); refine ⟨rfl, ?_⟩; apply Exists.intro; refine ⟨fun wz hz => ?_, ?_⟩; (focus (skip; go_simp; (first | done | exact rfl | exact ⟨rfl, rfl⟩))); (go_simp; refine hK _ _ ?_; clear hK K))
        refine lz_nil ?_
        intro w3 hz hgg
        clear hgg
        go_wp2
        go_roundw
        case rel => exact ⟨k + 1, by omega, by go_num, by rw [HJ.out, HS.out], hg.trans hz⟩
        case measure => simp [intOf]; omega
    · obtain rfl : k = n := by omega
      go_wp2
      go_ret
      exact ⟨rfl, hg⟩
end Go.Proofs.YtddcdodbmbmdnaaDoor
