/- Plain mathematics, merged. -/
import Derived.Test.YtefhhigcplemaaaDoorTM
import Derived.Test.YtefhhigcplemaaaDoorTT
import Derived.Test.YtefhhigcplemaaaDoor12A
import Derived.Test.YtefhhigcplemaaaDoorLm
import Derived.Laws.EntriesVeiled
import Derived.Test.YtefhhigcplemaaaDoorTA
/- Texts of moves, in the model and in the program. -/
namespace Go.Proofs.YtefhhigcplemaaaDoor
open Go.RowKit
set_option linter.unusedVariables false
set_option linter.unusedSimpArgs false

/-- What stands ahead of the next move's text. -/
def mPre (ms : List Mv) (k : Nat) : ByteArray := if k = 0 then ⟨#[]⟩ else mJ ms k ++ ⟨#[32]⟩
theorem mPre_put {ms : List Mv} {k : Nat} {m : Mv} (h : ms[k]? = some m) : mJ ms (k + 1) = mPre ms k ++ mvS8 m := by
  unfold mPre
  by_cases hk : k = 0
  · subst hk; rw [if_pos rfl, mJ_one h, app_empty]
  · rw [if_neg hk, mJ_succ h (by omega)]
theorem mPre_fig {ms : List Mv} {i : Nat} {k s d t : Int} (h : ms[i]? = some (k, s, d, t)) (hk : mvF k = true) : mJ ms (i + 1) = mPre ms i ++ ⟨#[mvL k]⟩ ++ nmA s.toNat ++ ⟨#[58]⟩ ++ figB d t := by
  rw [mPre_put h, mvS8_fig hk]
  simp only [ByteArray.append_assoc]
theorem mPre_pl {ms : List Mv} {i : Nat} {k s d t : Int} (h : ms[i]? = some (k, s, d, t)) (hk : mvF k = false) : mJ ms (i + 1) = mPre ms i ++ ⟨#[mvL k]⟩ := by rw [mPre_put h, mvS8_pl hk]
theorem mPre_size {ms : List Mv} (hv : ms.all mvB = true) (k : Nat) : (mPre ms k).size ≤ 35 * ms.length + 1 := by
  unfold mPre
  split
  · exact Nat.zero_le _
  · rw [ByteArray.size_append]
    have := mJ_size hv k
    show _ + 1 ≤ _
    omega
theorem letter_ext (kn : Nat) (h : kn < 7) : (ByteArray.mk #[80, 83, 84, 76, 82, 108, 114]).extract kn (kn + 1) = ⟨#[mvL kn]⟩ := by
  rcases (show kn = 0 ∨ kn = 1 ∨ kn = 2 ∨ kn = 3 ∨ kn = 4 ∨ kn = 5 ∨ kn = 6 by omega) with rfl | rfl | rfl | rfl | rfl | rfl | rfl <;> decide
theorem one_size (b : UInt8) : (ByteArray.mk #[b]).size = 1 := rfl

set_option maxRecDepth 100000 in
set_option maxHeartbeats 8000000 in
theorem text12_spec (M : Option Addr) (p cp : Nat) (ms : List Mv) (w : World) (hml : ms.length = p) (hp : p ≤ 16777216) (hM : Reads w w.heap.size M (mcells ms)) (hv : ms.all mvB = true) (hp30 : p ≤ 30) :
    Calls Tryd.prog 51 #[.slice M p cp] w fun e w' => e = .returned (.string (mJ ms p)) ∧ Gr w w' := by
  have HL := Lib.hid hml
  have RM := Lib.hid hM
  have HV := Lib.hid hv
  have HSz := Lib.hid (fun k => mPre_size hv k)
  rw [hml] at HSz
  clear hml hM hv
  go_enter Tryd.func51, Tryd.ntmps51
  go_wp2
  go_loopw [3, 4] (fun o i wr => ∃ k : Nat, k ≤ p ∧ i = .int .i64 k ∧ o = .string (mJ ms k) ∧ Gr w wr) (fun o i _ => p - (intOf i).toNat)
  case atStart => exact ⟨0, by omega, rfl, by rw [mJ_zero], Gr.refl w⟩
  case round =>
    obtain ⟨k, hk, rfl, rfl, hG⟩ := hrel
    by_cases hlt : k < p
    · obtain ⟨mv, hmv⟩ := some_at (l := ms) (k := k) (by rw [HL.out]; exact hlt)
      obtain ⟨g, o, rfl, hg, x0, x1, x2, x3⟩ := (RM.out.gr hG).at4 hmv
      have hval := all_at HV.out hmv
      obtain ⟨mk, s, u, t⟩ := mv
      simp only at x0 x1 x2 x3
      have hsz := HSz.out k
      have HPt := Lib.hid (mPre_fig hmv)
      have HPp := Lib.hid (mPre_pl hmv)
      have HP0 := Lib.hid (show k = 0 → mPre ms k = ⟨#[]⟩ from fun h => if_pos h)
      have HP1 := Lib.hid (show k ≠ 0 → mPre ms k = mJ ms k ++ ⟨#[32]⟩ from fun h => if_neg h)
      have hkk : 0 ≤ mk ∧ mk ≤ 6 := by rcases mvB_cases hval with ⟨hk2, -, -⟩ | ⟨hk2, -⟩ <;> omega
      obtain ⟨kn, rfl⟩ := Int.eq_ofNat_of_zero_le hkk.1
      have kn7 : kn < 7 := by omega
      have HX := Lib.hid (letter_ext kn kn7)
      clear hmv
      have k0 : (0 : Int) ≤ (kn : Int) := by omega
      have k1 : (kn : Int) ≤ (kn : Int) + 1 := by omega
      have k2 : (kn : Int) + 1 ≤ 7 := by omega
      have hX := HX.out
      generalize mvL (kn : Int) = lt at *
      rcases (show mvF (kn : Int) = true ∨ mvF (kn : Int) = false by cases mvF (kn : Int) <;> simp) with hf | hf
      · have hle : (kn : Int) ≤ 2 := ((mvF_iff _).1 hf).2
        rw [mvB_fig hf, Bool.and_eq_true] at hval
        obtain ⟨z1, z2⟩ := (lsc_iff s).1 hval.1
        obtain ⟨zk, rfl⟩ := Int.eq_ofNat_of_zero_le (show 0 ≤ s by omega)
        have zk6 : zk < 6 := by omega
        have zk7 : (zk : Int) < 6 := by omega
        have HF := Lib.hid (HPt.out hf)
        rw [Int.toNat_natCast] at HF
        have HT := Lib.hid (fun W => text_spec u t W hval.2)
        have hfs := figL_len u t hval.2
        rw [len_data] at hfs
        have hys := nmA_sz zk
        clear hval hf HPt HPp z1 z2
        by_cases h0 : k = 0
        · subst h0
          have hpre := HP0.out rfl
          have hS := Lib.hid (show mPre ms 0 ++ ⟨#[lt]⟩ = (⟨#[]⟩ : ByteArray) ++ ⟨#[lt]⟩ by rw [hpre])
          have hsz2 : ((⟨#[]⟩ : ByteArray) ++ ⟨#[lt]⟩).size ≤ 35 * p + 2 := by rw [app_empty, one_size]; omega
          rw [mJ_zero]
          simp only [Nat.zero_mul, Nat.add_zero] at x0 x1 x2 x3
          clear HP0 HP1 hpre
          go_wp2
          have N1 := Blk.new wr 47 #[.int .i64 kn, .int .i64 zk, .int .i64 u, .int .i64 t]
          have hG1 := hG.alloc (.cells #[.int .i64 kn, .int .i64 zk, .int .i64 u, .int .i64 t] 47)
          generalize wr.alloc (.cells #[.int .i64 kn, .int .i64 zk, .int .i64 u, .int .i64 t] 47) = v1 at *
          have HN1 := Lib.hid N1
          obtain ⟨s2, hs2⟩ : ∃ s2, s2 = (⟨#[]⟩ : ByteArray) ++ ⟨#[lt]⟩ := ⟨_, rfl⟩
          have hs3 : s2.size ≤ 35 * p + 2 := by rw [hs2]; exact hsz2
          rw [← hs2]
          have HS := Lib.hid (hS.out.trans hs2.symm)
          clear hs2 hS hsz2
          have k5 : ¬ (9223372036854775807 < s2.size + (nmA zk).size) := by omega
          have k6 : ¬ ((9223372036854775807 : Int) < (s2.size : Int) + (nmA zk).size) := by omega
          have k7 : ¬ (9223372036854775807 < s2.size + (nmA zk).size + 1) := by omega
          have k8 : ¬ ((9223372036854775807 : Int) < (s2.size : Int) + (nmA zk).size + 1) := by omega
          have k9 : ¬ (9223372036854775807 < s2.size + (nmA zk).size + 1 + (figB u t).size) := by omega
          have k10 : ¬ ((9223372036854775807 : Int) < (s2.size : Int) + (nmA zk).size + 1 + (figB u t).size) := by omega
          refine region_grows [(1, .ever NmF (fun _ _ _ => NmF.gr _ _ _)), (4, .ever (NmP zk) (fun _ _ _ => NmP.gr _ _ _)), (5, .is (.string (nmA zk))), (10, .is (.string (figB u t)))] (by kernel_rfl) (by kernel_rfl) ?_
          (refine lz_one rfl (fun K hK => ?_); refine ⟨rfl, ?_⟩; apply Exists.intro; refine ⟨fun wz hz => ?_, ?_⟩; (focus (skip; go_simp; (first | done | exact rfl | exact ⟨rfl, rfl⟩))); (go_simp; refine hK _ _ ?_; clear hK K))
          (refine lz_many _ rfl (fun K hK => ?_); refine ⟨rfl, fun wz hz ha => ?_, fun vz wz hz hf => ?_⟩; (focus (go_simp; exact lg_ever hz (names_ever _))); (obtain ⟨gn, rfl, -⟩ := hf; clear hz wz; go_simp; refine hK _ _ ?_; clear hK K))
          (refine lz_one rfl (fun K hK => ?_); refine ⟨rfl, ?_⟩; apply Exists.intro; refine ⟨fun wz hz => ?_, ?_⟩; (focus (skip; go_simp; (first | done | exact rfl | exact ⟨rfl, rfl⟩))); (go_simp; refine hK _ _ ?_; clear hK K))
          (refine lz_one rfl (fun K hK => ?_); refine ⟨rfl, ?_⟩; apply Exists.intro; refine ⟨fun wz hz => ?_, ?_⟩; (focus (obtain ⟨d0, d1, d2, d3, -⟩ := (HN1.out.gr hz).four; go_simp; (first | done | exact rfl | exact ⟨rfl, rfl⟩))); (go_simp; refine hK _ _ ?_; clear hK K))
          (refine lz_many _ rfl (fun K hK => ?_); refine ⟨rfl, fun wz hz ha => ?_, fun vz wz hz hf => ?_⟩; (focus (obtain ⟨gm, e7, h7⟩ := ha ⟨1, .data⟩ (by simp) rfl; cases e7; go_simp; (first | exact ⟨hz, Gr.refl _, gn, rfl, h7 zk zk6⟩ | exact ⟨Gr.refl _, gn, rfl, h7 zk zk6⟩))); (obtain ⟨gp, rfl, -⟩ := hf; clear hz wz; go_simp; refine hK _ _ ?_; clear hK K))
          (refine lz_many _ rfl (fun K hK => ?_); refine ⟨rfl, fun wz hz ha => ?_, fun vz wz hz hf => ?_⟩; (focus (obtain ⟨gm, e7, h7⟩ := ha ⟨4, .data⟩ (by simp) rfl; cases e7; go_simp; (first | exact ⟨hz, Gr.refl _, rfl⟩ | exact ⟨Gr.refl _, rfl⟩ | exact Gr.refl _))); (obtain rfl := hf; clear hz wz; go_simp; refine hK _ _ ?_; clear hK K))
          (refine lz_one rfl (fun K hK => ?_); refine ⟨rfl, ?_⟩; apply Exists.intro; refine ⟨fun wz hz => ?_, ?_⟩; (focus (skip; go_simp; (first | done | exact rfl | exact ⟨rfl, rfl⟩))); (go_simp; refine hK _ _ ?_; clear hK K))
          (refine lz_one rfl (fun K hK => ?_); refine ⟨rfl, ?_⟩; apply Exists.intro; refine ⟨fun wz hz => ?_, ?_⟩; (focus (skip; go_simp; (first | done | exact rfl | exact ⟨rfl, rfl⟩))); (go_simp; refine hK _ _ ?_; clear hK K))
          (refine lz_one rfl (fun K hK => ?_); refine ⟨rfl, ?_⟩; apply Exists.intro; refine ⟨fun wz hz => ?_, ?_⟩; (focus (skip; go_simp; (first | done | exact rfl | exact ⟨rfl, rfl⟩))); (go_simp; refine hK _ _ ?_; clear hK K))
          (refine lz_one rfl (fun K hK => ?_); refine ⟨rfl, ?_⟩; apply Exists.intro; refine ⟨fun wz hz => ?_, ?_⟩; (focus (obtain ⟨d0, d1, d2, d3, -⟩ := (HN1.out.gr hz).four; go_simp; (first | done | exact rfl | exact ⟨rfl, rfl⟩))); (go_simp; refine hK _ _ ?_; clear hK K))
          (refine lz_many _ rfl (fun K hK => ?_); refine ⟨rfl, fun wz hz ha => ?_, fun vz wz hz hf => ?_⟩; (focus (go_simp; exact lg_call hz (HT.out _))); (obtain rfl := hf; clear hz wz; go_simp; refine hK _ _ ?_; clear hK K))
          (refine lz_one rfl (fun K hK => ?_); refine ⟨rfl, ?_⟩; apply Exists.intro; refine ⟨fun wz hz => ?_, ?_⟩; (focus (skip; go_simp; (first | done | exact rfl | exact ⟨rfl, rfl⟩))); (go_simp; refine hK _ _ ?_; clear hK K))
          (refine lz_one rfl (fun K hK => ?_); refine ⟨rfl, ?_⟩; apply Exists.intro; refine ⟨fun wz hz => ?_, ?_⟩; (focus (skip; go_simp; (first | done | exact rfl | exact ⟨rfl, rfl⟩))); (go_simp; refine hK _ _ ?_; clear hK K))
          refine lz_nil ?_
          intro w3 hz hgg
          clear hgg
          go_wp2
          go_roundw
          case rel => exact ⟨0 + 1, by omega, by go_num, by rw [HF.out, HS.out], hG1.trans hz⟩
          case measure => simp [intOf]; omega
        · have hpre := HP1.out h0
          have k3 : (0 : Int) < k := by omega
          have hs0 : (mJ ms k).size + 1 ≤ 35 * p + 1 := by
            have := hsz
            rw [hpre, ByteArray.size_append] at this
            exact this
          have hS := Lib.hid (show mPre ms k ++ ⟨#[lt]⟩ = mJ ms k ++ ⟨#[32]⟩ ++ ⟨#[lt]⟩ by rw [hpre])
          have hsz2 : (mJ ms k ++ ⟨#[32]⟩ ++ ⟨#[lt]⟩ : ByteArray).size ≤ 35 * p + 2 := by
            rw [ByteArray.size_append, ByteArray.size_append, one_size, one_size]; omega
          clear HP0 HP1 hpre h0
          generalize mJ ms k = sk at *
          have q1 : ¬ (9223372036854775807 < sk.size + 1) := by omega
          have q2 : ¬ ((9223372036854775807 : Int) < (sk.size : Int) + 1) := by omega
          have q3 : ¬ (9223372036854775807 < sk.size + 1 + 1) := by omega
          have q4 : ¬ ((9223372036854775807 : Int) < (sk.size : Int) + 1 + 1) := by omega
          go_wp2
          have N1 := Blk.new wr 47 #[.int .i64 kn, .int .i64 zk, .int .i64 u, .int .i64 t]
          have hG1 := hG.alloc (.cells #[.int .i64 kn, .int .i64 zk, .int .i64 u, .int .i64 t] 47)
          generalize wr.alloc (.cells #[.int .i64 kn, .int .i64 zk, .int .i64 u, .int .i64 t] 47) = v1 at *
          have HN1 := Lib.hid N1
          obtain ⟨s2, hs2⟩ : ∃ s2, s2 = sk ++ ⟨#[32]⟩ ++ ⟨#[lt]⟩ := ⟨_, rfl⟩
          have hs3 : s2.size ≤ 35 * p + 2 := by rw [hs2]; exact hsz2
          rw [← hs2]
          have HS := Lib.hid (hS.out.trans hs2.symm)
          clear hs2 hS hsz2
          have k5 : ¬ (9223372036854775807 < s2.size + (nmA zk).size) := by omega
          have k6 : ¬ ((9223372036854775807 : Int) < (s2.size : Int) + (nmA zk).size) := by omega
          have k7 : ¬ (9223372036854775807 < s2.size + (nmA zk).size + 1) := by omega
          have k8 : ¬ ((9223372036854775807 : Int) < (s2.size : Int) + (nmA zk).size + 1) := by omega
          have k9 : ¬ (9223372036854775807 < s2.size + (nmA zk).size + 1 + (figB u t).size) := by omega
          have k10 : ¬ ((9223372036854775807 : Int) < (s2.size : Int) + (nmA zk).size + 1 + (figB u t).size) := by omega
          refine region_grows [(1, .ever NmF (fun _ _ _ => NmF.gr _ _ _)), (4, .ever (NmP zk) (fun _ _ _ => NmP.gr _ _ _)), (5, .is (.string (nmA zk))), (10, .is (.string (figB u t)))] (by kernel_rfl) (by kernel_rfl) ?_
          (refine lz_one rfl (fun K hK => ?_); refine ⟨rfl, ?_⟩; apply Exists.intro; refine ⟨fun wz hz => ?_, ?_⟩; (focus (skip; go_simp; (first | done | exact rfl | exact ⟨rfl, rfl⟩))); (go_simp; refine hK _ _ ?_; clear hK K))
          (refine lz_many _ rfl (fun K hK => ?_); refine ⟨rfl, fun wz hz ha => ?_, fun vz wz hz hf => ?_⟩; (focus (go_simp; exact lg_ever hz (names_ever _))); (obtain ⟨gn, rfl, -⟩ := hf; clear hz wz; go_simp; refine hK _ _ ?_; clear hK K))
          (refine lz_one rfl (fun K hK => ?_); refine ⟨rfl, ?_⟩; apply Exists.intro; refine ⟨fun wz hz => ?_, ?_⟩; (focus (skip; go_simp; (first | done | exact rfl | exact ⟨rfl, rfl⟩))); (go_simp; refine hK _ _ ?_; clear hK K))
          (refine lz_one rfl (fun K hK => ?_); refine ⟨rfl, ?_⟩; apply Exists.intro; refine ⟨fun wz hz => ?_, ?_⟩; (focus (obtain ⟨d0, d1, d2, d3, -⟩ := (HN1.out.gr hz).four; go_simp; (first | done | exact rfl | exact ⟨rfl, rfl⟩))); (go_simp; refine hK _ _ ?_; clear hK K))
          (refine lz_many _ rfl (fun K hK => ?_); refine ⟨rfl, fun wz hz ha => ?_, fun vz wz hz hf => ?_⟩; (focus (obtain ⟨gm, e7, h7⟩ := ha ⟨1, .data⟩ (by simp) rfl; cases e7; go_simp; (first | exact ⟨hz, Gr.refl _, gn, rfl, h7 zk zk6⟩ | exact ⟨Gr.refl _, gn, rfl, h7 zk zk6⟩))); (obtain ⟨gp, rfl, -⟩ := hf; clear hz wz; go_simp; refine hK _ _ ?_; clear hK K))
          (refine lz_many _ rfl (fun K hK => ?_); refine ⟨rfl, fun wz hz ha => ?_, fun vz wz hz hf => ?_⟩; (focus (obtain ⟨gm, e7, h7⟩ := ha ⟨4, .data⟩ (by simp) rfl; cases e7; go_simp; (first | exact ⟨hz, Gr.refl _, rfl⟩ | exact ⟨Gr.refl _, rfl⟩ | exact Gr.refl _))); (obtain rfl := hf; clear hz wz; go_simp; refine hK _ _ ?_; clear hK K))
          (refine lz_one rfl (fun K hK => ?_); refine ⟨rfl, ?_⟩; apply Exists.intro; refine ⟨fun wz hz => ?_, ?_⟩; (focus (skip; go_simp; (first | done | exact rfl | exact ⟨rfl, rfl⟩))); (go_simp; refine hK _ _ ?_; clear hK K))
          (refine lz_one rfl (fun K hK => ?_); refine ⟨rfl, ?_⟩; apply Exists.intro; refine ⟨fun wz hz => ?_, ?_⟩; (focus (skip; go_simp; (first | done | exact rfl | exact ⟨rfl, rfl⟩))); (go_simp; refine hK _ _ ?_; clear hK K))
          (refine lz_one rfl (fun K hK => ?_); refine ⟨rfl, ?_⟩; apply Exists.intro; refine ⟨fun wz hz => ?_, ?_⟩; (focus (skip; go_simp; (first | done | exact rfl | exact ⟨rfl, rfl⟩))); (go_simp; refine hK _ _ ?_; clear hK K))
          (refine lz_one rfl (fun K hK => ?_); refine ⟨rfl, ?_⟩; apply Exists.intro; refine ⟨fun wz hz => ?_, ?_⟩; (focus (obtain ⟨d0, d1, d2, d3, -⟩ := (HN1.out.gr hz).four; go_simp; (first | done | exact rfl | exact ⟨rfl, rfl⟩))); (go_simp; refine hK _ _ ?_; clear hK K))
          (refine lz_many _ rfl (fun K hK => ?_); refine ⟨rfl, fun wz hz ha => ?_, fun vz wz hz hf => ?_⟩; (focus (go_simp; exact lg_call hz (HT.out _))); (obtain rfl := hf; clear hz wz; go_simp; refine hK _ _ ?_; clear hK K))
          (refine lz_one rfl (fun K hK => ?_); refine ⟨rfl, ?_⟩; apply Exists.intro; refine ⟨fun wz hz => ?_, ?_⟩; (focus (skip; go_simp; (first | done | exact rfl | exact ⟨rfl, rfl⟩))); (go_simp; refine hK _ _ ?_; clear hK K))
          (refine lz_one rfl (fun K hK => ?_); refine ⟨rfl, ?_⟩; apply Exists.intro; refine ⟨fun wz hz => ?_, ?_⟩; (focus (skip; go_simp; (first | done | exact rfl | exact ⟨rfl, rfl⟩))); (go_simp; refine hK _ _ ?_; clear hK K))
          refine lz_nil ?_
          intro w3 hz hgg
          clear hgg
          go_wp2
          go_roundw
          case rel => exact ⟨k + 1, by omega, by go_num, by rw [HF.out, HS.out], hG1.trans hz⟩
          case measure => simp [intOf]; omega
      · have hle : ¬ ((kn : Int) ≤ 2) := fun h => by rw [(mvF_iff _).2 ⟨k0, h⟩] at hf; cases hf
        have HF := Lib.hid (HPp.out hf)
        clear hval hf HPt HPp
        by_cases h0 : k = 0
        · subst h0
          have hpre := HP0.out rfl
          have hS := Lib.hid (show mPre ms 0 ++ ⟨#[lt]⟩ = (⟨#[]⟩ : ByteArray) ++ ⟨#[lt]⟩ by rw [hpre])
          have hsz2 : ((⟨#[]⟩ : ByteArray) ++ ⟨#[lt]⟩).size ≤ 35 * p + 2 := by rw [app_empty, one_size]; omega
          rw [mJ_zero]
          simp only [Nat.zero_mul, Nat.add_zero] at x0 x1 x2 x3
          clear HP0 HP1 hpre
          go_wp2
          go_roundw
          case rel => exact ⟨0 + 1, by omega, by go_num, by rw [HF.out, hS.out], hG.alloc _⟩
          case measure => simp [intOf]; omega
        · have hpre := HP1.out h0
          have k3 : (0 : Int) < k := by omega
          have hs0 : (mJ ms k).size + 1 ≤ 35 * p + 1 := by
            have := hsz
            rw [hpre, ByteArray.size_append] at this
            exact this
          have hS := Lib.hid (show mPre ms k ++ ⟨#[lt]⟩ = mJ ms k ++ ⟨#[32]⟩ ++ ⟨#[lt]⟩ by rw [hpre])
          have hsz2 : (mJ ms k ++ ⟨#[32]⟩ ++ ⟨#[lt]⟩ : ByteArray).size ≤ 35 * p + 2 := by
            rw [ByteArray.size_append, ByteArray.size_append, one_size, one_size]; omega
          clear HP0 HP1 hpre h0
          generalize mJ ms k = sk at *
          have q1 : ¬ (9223372036854775807 < sk.size + 1) := by omega
          have q2 : ¬ ((9223372036854775807 : Int) < (sk.size : Int) + 1) := by omega
          have q3 : ¬ (9223372036854775807 < sk.size + 1 + 1) := by omega
          have q4 : ¬ ((9223372036854775807 : Int) < (sk.size : Int) + 1 + 1) := by omega
          go_wp2
          go_roundw
          case rel => exact ⟨k + 1, by omega, by go_num, by rw [HF.out, hS.out], hG.alloc _⟩
          case measure => simp [intOf]; omega
    · obtain rfl : k = p := by omega
      go_wp2
      go_ret
      exact ⟨rfl, hG⟩
end Go.Proofs.YtefhhigcplemaaaDoor

/- Texts of moves in the program; MovesText. (Written by laws/gen_T32.py.) -/
namespace Go.Proofs.YtefhhigcplemaaaDoor
open Go.RowKit
set_option linter.unusedVariables false
set_option linter.unusedSimpArgs false

theorem three_of_arr {cs : Array Value} (h : cs.size = 3) : ∃ x y z, cs = #[x, y, z] := by
  obtain ⟨l⟩ := cs
  match l, h with
  | [x, y, z], _ => exact ⟨x, y, z, rfl⟩
theorem lm_three {w wz : World} {j0 g : Nat} {T : TypeId} {x y z c d f : Value} {u : Value} (hz : Gr w wz) (hg : w.heap.size ≤ g) (hB : Blk wz g T #[c, d, f]) (hu : u = .pointer (some ⟨g, 0, none⟩)) :
    Gr w (((wz.setCell ⟨g, 0, none⟩ x).setCell ⟨g, 1, none⟩ y).setCell ⟨g, 2, none⟩ z) ∧ rMx j0 T j0 wz (((wz.setCell ⟨g, 0, none⟩ x).setCell ⟨g, 1, none⟩ y).setCell ⟨g, 2, none⟩ z) ∧ ∃ g', u = .pointer (some ⟨g', 0, none⟩) ∧ Blk (((wz.setCell ⟨g, 0, none⟩ x).setCell ⟨g, 1, none⟩ y).setCell ⟨g, 2, none⟩ z) g' T #[x, y, z] :=
  ⟨Gr.of_below (((hz.below.setCell (p := ⟨g, 0, none⟩) hg x).setCell (p := ⟨g, 1, none⟩) hg y).setCell (p := ⟨g, 2, none⟩) hg z), by rw [rMx_at]; exact (((Ty.refl T wz).set hB 0 x).set (hB.set 0 x) 1 y).set ((hB.set 0 x).set 1 y) 2 z, g, hu, ((hB.set 0 x).set 1 y).set 2 z⟩
theorem lm_pure {w wz : World} {j0 j : Nat} {T : TypeId} {v : Value} (hj : j ≠ j0) (hz : Gr w wz) : Gr w wz ∧ rMx j0 T j wz wz ∧ v = v := ⟨hz, by rw [rMx_ne T hj]; exact Gr.refl _, rfl⟩
set_option maxRecDepth 100000 in
set_option maxHeartbeats 4000000 in
theorem mtext_0 (s u t : Int) (w : World) (hT : Tab w) (hN : Nms w) (hv : lsc s = true ∧ fg u t = true) :
    Calls Tryd.prog 52 #[.agg #[.int .i64 (0), .int .i64 (s), .int .i64 (u), .int .i64 (t)]] w fun e w' => e = .returned (.string (mvS8 (0, s, u, t))) ∧ Gr w w' := by
  have HMK := Lib.hid (fun W => moveKinds_impl W)
  obtain ⟨z1, z2⟩ := (lsc_iff s).1 hv.1
  obtain ⟨zk, rfl⟩ := Int.eq_ofNat_of_zero_le (show 0 ≤ s by omega)
  have zk6 : zk < 6 := by omega
  have zk7 : (zk : Int) < 6 := by omega
  have HR := Lib.hid (mvS8_fig (k := 0) (s := (zk : Int)) (d := u) (t := t) rfl)
  rw [Int.toNat_natCast] at HR
  have HF := Lib.hid (fun W h => figureText_impl u t W h)
  rw [(ft_ok u t hv.2).1, (ft_ok u t hv.2).2] at HF
  have hfs := figL_len u t hv.2
  rw [len_data] at hfs
  have hys := nmA_sz zk
  have HTb := Lib.hid hT
  have HNm := Lib.hid hN
  clear hv z1 z2 hT hN
  generalize mvS8 (0, (zk : Int), u, t) = R at *
  generalize figB u t = fb at *
  go_enter Tryd.func52, Tryd.ntmps52
  go_wp2_with fail
  have P := Blk.new w 47 #[.int .i64 0, .int .i64 zk, .int .i64 u, .int .i64 t]
  have hG : Gr w (w.alloc (.cells #[.int .i64 0, .int .i64 zk, .int .i64 u, .int .i64 t] 47)) := (by repeat (first | with_reducible exact Gr.refl _ | with_reducible refine Gr.alloc ?_ _ | with_reducible refine Gr.gr ?_ _ _ | with_reducible refine Gr.drew ?_ | with_reducible refine Gr.drewN ?_ _))
  generalize w.alloc (.cells #[.int .i64 0, .int .i64 zk, .int .i64 u, .int .i64 t] 47) = v at *
  refine region_mix 5 81 #[.string ⟨#[80]⟩, .bool true, .func (.func 74) #[] #[]] [(0, .is mkV), (3, .is (.agg #[.string ⟨#[80]⟩, .bool true, .func (.func 74) #[] #[]])), (4, .made v.heap.size 3)] (by kernel_rfl) (by kernel_rfl) ?_
  (refine lz_many _ rfl (fun K hK => ?_); refine ⟨rfl, fun wz hz ha => ?_, fun vz wz hz hf => ?_⟩; (focus (go_simp; exact lm_call (by decide) hz (HMK.out _))); (obtain rfl := hf; clear hz wz; go_simp; refine hK _ _ ?_; clear hK K))
  (refine lz_one rfl (fun K hK => ?_); refine ⟨rfl, ?_⟩; apply Exists.intro; refine ⟨fun wz hz => ?_, ?_⟩; (focus (skip; go_simp; (first | done | exact ⟨rfl, rfl⟩ | trivial))); (go_simp; refine hK _ _ ?_; clear hK K))
  (refine lz_one rfl (fun K hK => ?_); refine ⟨rfl, ?_⟩; apply Exists.intro; refine ⟨fun wz hz => ?_, ?_⟩; (focus (obtain ⟨p0, p1, p2, p3, -⟩ := (P.gr hz).four; go_simp; (first | done | exact ⟨rfl, rfl⟩ | trivial))); (go_simp; refine hK _ _ ?_; clear hK K))
  (refine lz_many _ rfl (fun K hK => ?_); refine ⟨rfl, fun wz hz ha => ?_, fun vz wz hz hf => ?_⟩; (focus (unfold mkV; go_simp; exact lm_pure (by decide) hz)); (obtain rfl := hf; clear hz wz; go_simp; refine hK _ _ ?_; clear hK K))
  (refine lz_many _ rfl (fun K hK => ?_); refine ⟨rfl, fun wz hz ha => ?_, fun vz wz hz hf => ?_⟩; (focus (go_simp; exact lm_made (by decide) hz (Nat.le_refl _) rfl)); (obtain ⟨gg, rfl, -, -⟩ := hf; clear hz wz; go_simp; refine hK _ _ ?_; clear hK K))
  (refine lz_many _ rfl (fun K hK => ?_); refine ⟨rfl, fun wz hz ha => ?_, fun vz wz hz hf => ?_⟩; (focus (obtain ⟨g', e', hb', ds, h1, h2⟩ := ha ⟨4, .data⟩ (by simp) rfl; cases e'; obtain ⟨y0, y1, y2, rfl⟩ := three_of_arr h1; obtain ⟨c0, c1, c2, cf⟩ := h2.trio; have cl := h2.lt; go_simp; exact lm_three hz hb' h2 rfl)); (obtain - := hf; clear hz wz; go_simp; refine hK _ _ ?_; clear hK K))
  refine lz_nil ?_
  intro w3 hz hg
  obtain ⟨g0, e2, hA0⟩ := hg 5
  cases e2
  clear hg
  have hG3 := hG.trans hz
  obtain ⟨a0, a1, a2, -⟩ := hA0.trio
  have P3 := P.gr hz
  obtain ⟨p0, p1, p2, p3, -⟩ := P3.four
  go_wp2_with fail
  refine (HF.out w3 (HTb.out.gr hG3)).mono ?_
  rintro e w4 ⟨rfl, hg4⟩
  have hG4 := hG3.trans hg4
  have HA4 := Lib.hid (hA0.gr hg4)
  have HP4 := Lib.hid (P3.gr hg4)
  have HN4 := Lib.hid (HNm.out.gr hG4)
  clear a0 a1 a2 p0 p1 p2 p3 P P3 hA0 hg4
  have k5 : ¬ (9223372036854775807 < 1 + (nmA zk).size) := by omega
  have k6 : ¬ ((9223372036854775807 : Int) < 1 + ((nmA zk).size : Int)) := by omega
  have k7 : ¬ (9223372036854775807 < 1 + (nmA zk).size + 1) := by omega
  have k8 : ¬ ((9223372036854775807 : Int) < 1 + ((nmA zk).size : Int) + 1) := by omega
  have k9 : ¬ (9223372036854775807 < 1 + (nmA zk).size + 1 + fb.size) := by omega
  have k10 : ¬ ((9223372036854775807 : Int) < 1 + ((nmA zk).size : Int) + 1 + (fb.size : Int)) := by omega
  go_wp2_with fail
  refine region_grows [] (by kernel_rfl) (by kernel_rfl) ?_
  (refine lz_one rfl (fun K hK => ?_); refine ⟨rfl, ?_⟩; apply Exists.intro; refine ⟨fun wz hz => ?_, ?_⟩; (focus (skip; go_simp; (first | done | exact rfl | exact ⟨rfl, rfl⟩))); (go_simp; refine hK _ _ ?_; clear hK K))
  (refine lz_one rfl (fun K hK => ?_); refine ⟨rfl, ?_⟩; apply Exists.intro; refine ⟨fun wz hz => ?_, ?_⟩; (focus (obtain ⟨a0, a1, a2, -⟩ := (HA4.out.gr hz).trio; go_simp; (first | done | exact rfl | exact ⟨rfl, rfl⟩))); (go_simp; refine hK _ _ ?_; clear hK K))
  (refine lz_one rfl (fun K hK => ?_); refine ⟨rfl, ?_⟩; apply Exists.intro; refine ⟨fun wz hz => ?_, ?_⟩; (focus (skip; go_simp; (first | done | exact rfl | exact ⟨rfl, rfl⟩))); (go_simp; refine hK _ _ ?_; clear hK K))
  (refine lz_one rfl (fun K hK => ?_); refine ⟨rfl, ?_⟩; apply Exists.intro; refine ⟨fun wz hz => ?_, ?_⟩; (focus (obtain ⟨p0, p1, p2, p3, -⟩ := (HP4.out.gr hz).four; go_simp; (first | done | exact rfl | exact ⟨rfl, rfl⟩))); (go_simp; refine hK _ _ ?_; clear hK K))
  (refine lz_one rfl (fun K hK => ?_); refine ⟨rfl, ?_⟩; apply Exists.intro; refine ⟨fun wz hz => ?_, ?_⟩; (focus (skip; go_simp; (first | done | exact rfl | exact ⟨rfl, rfl⟩))); (go_simp; refine hK _ _ ?_; clear hK K))
  (refine lz_one rfl (fun K hK => ?_); refine ⟨rfl, ?_⟩; apply Exists.intro; refine ⟨fun wz hz => ?_, ?_⟩; (focus (have n0 := HN4.out.gr hz zk zk6; have nl := World.block_lt_of_cell? wz _ n0; go_simp; (first | done | exact rfl | exact ⟨rfl, rfl⟩))); (go_simp; refine hK _ _ ?_; clear hK K))
  (refine lz_one rfl (fun K hK => ?_); refine ⟨rfl, ?_⟩; apply Exists.intro; refine ⟨fun wz hz => ?_, ?_⟩; (focus (skip; go_simp; (first | done | exact rfl | exact ⟨rfl, rfl⟩))); (go_simp; refine hK _ _ ?_; clear hK K))
  (refine lz_one rfl (fun K hK => ?_); refine ⟨rfl, ?_⟩; apply Exists.intro; refine ⟨fun wz hz => ?_, ?_⟩; (focus (skip; go_simp; (first | done | exact rfl | exact ⟨rfl, rfl⟩))); (go_simp; refine hK _ _ ?_; clear hK K))
  (refine lz_one rfl (fun K hK => ?_); refine ⟨rfl, ?_⟩; apply Exists.intro; refine ⟨fun wz hz => ?_, ?_⟩; (focus (skip; go_simp; (first | done | exact rfl | exact ⟨rfl, rfl⟩))); (go_simp; refine hK _ _ ?_; clear hK K))
  (refine lz_one rfl (fun K hK => ?_); refine ⟨rfl, ?_⟩; apply Exists.intro; refine ⟨fun wz hz => ?_, ?_⟩; (focus (skip; go_simp; (first | done | exact rfl | exact ⟨rfl, rfl⟩))); (go_simp; refine hK _ _ ?_; clear hK K))
  (refine lz_one rfl (fun K hK => ?_); refine ⟨rfl, ?_⟩; apply Exists.intro; refine ⟨fun wz hz => ?_, ?_⟩; (focus (skip; go_simp; (first | done | exact rfl | exact ⟨rfl, rfl⟩))); (go_simp; refine hK _ _ ?_; clear hK K))
  refine lz_nil ?_
  intro w5 hz5 hgg
  clear hgg
  go_wp2_with fail
  go_ret
  exact ⟨ret_str HR.out.symm, hG4.trans hz5⟩
set_option maxRecDepth 100000 in
set_option maxHeartbeats 4000000 in
theorem mtext_1 (s u t : Int) (w : World) (hT : Tab w) (hN : Nms w) (hv : lsc s = true ∧ fg u t = true) :
    Calls Tryd.prog 52 #[.agg #[.int .i64 (1), .int .i64 (s), .int .i64 (u), .int .i64 (t)]] w fun e w' => e = .returned (.string (mvS8 (1, s, u, t))) ∧ Gr w w' := by
  have HMK := Lib.hid (fun W => moveKinds_impl W)
  obtain ⟨z1, z2⟩ := (lsc_iff s).1 hv.1
  obtain ⟨zk, rfl⟩ := Int.eq_ofNat_of_zero_le (show 0 ≤ s by omega)
  have zk6 : zk < 6 := by omega
  have zk7 : (zk : Int) < 6 := by omega
  have HR := Lib.hid (mvS8_fig (k := 1) (s := (zk : Int)) (d := u) (t := t) rfl)
  rw [Int.toNat_natCast] at HR
  have HF := Lib.hid (fun W h => figureText_impl u t W h)
  rw [(ft_ok u t hv.2).1, (ft_ok u t hv.2).2] at HF
  have hfs := figL_len u t hv.2
  rw [len_data] at hfs
  have hys := nmA_sz zk
  have HTb := Lib.hid hT
  have HNm := Lib.hid hN
  clear hv z1 z2 hT hN
  generalize mvS8 (1, (zk : Int), u, t) = R at *
  generalize figB u t = fb at *
  go_enter Tryd.func52, Tryd.ntmps52
  go_wp2_with fail
  have P := Blk.new w 47 #[.int .i64 1, .int .i64 zk, .int .i64 u, .int .i64 t]
  have hG : Gr w (w.alloc (.cells #[.int .i64 1, .int .i64 zk, .int .i64 u, .int .i64 t] 47)) := (by repeat (first | with_reducible exact Gr.refl _ | with_reducible refine Gr.alloc ?_ _ | with_reducible refine Gr.gr ?_ _ _ | with_reducible refine Gr.drew ?_ | with_reducible refine Gr.drewN ?_ _))
  generalize w.alloc (.cells #[.int .i64 1, .int .i64 zk, .int .i64 u, .int .i64 t] 47) = v at *
  refine region_mix 5 81 #[.string ⟨#[83]⟩, .bool true, .func (.func 77) #[] #[]] [(0, .is mkV), (3, .is (.agg #[.string ⟨#[83]⟩, .bool true, .func (.func 77) #[] #[]])), (4, .made v.heap.size 3)] (by kernel_rfl) (by kernel_rfl) ?_
  (refine lz_many _ rfl (fun K hK => ?_); refine ⟨rfl, fun wz hz ha => ?_, fun vz wz hz hf => ?_⟩; (focus (go_simp; exact lm_call (by decide) hz (HMK.out _))); (obtain rfl := hf; clear hz wz; go_simp; refine hK _ _ ?_; clear hK K))
  (refine lz_one rfl (fun K hK => ?_); refine ⟨rfl, ?_⟩; apply Exists.intro; refine ⟨fun wz hz => ?_, ?_⟩; (focus (skip; go_simp; (first | done | exact ⟨rfl, rfl⟩ | trivial))); (go_simp; refine hK _ _ ?_; clear hK K))
  (refine lz_one rfl (fun K hK => ?_); refine ⟨rfl, ?_⟩; apply Exists.intro; refine ⟨fun wz hz => ?_, ?_⟩; (focus (obtain ⟨p0, p1, p2, p3, -⟩ := (P.gr hz).four; go_simp; (first | done | exact ⟨rfl, rfl⟩ | trivial))); (go_simp; refine hK _ _ ?_; clear hK K))
  (refine lz_many _ rfl (fun K hK => ?_); refine ⟨rfl, fun wz hz ha => ?_, fun vz wz hz hf => ?_⟩; (focus (unfold mkV; go_simp; exact lm_pure (by decide) hz)); (obtain rfl := hf; clear hz wz; go_simp; refine hK _ _ ?_; clear hK K))
  (refine lz_many _ rfl (fun K hK => ?_); refine ⟨rfl, fun wz hz ha => ?_, fun vz wz hz hf => ?_⟩; (focus (go_simp; exact lm_made (by decide) hz (Nat.le_refl _) rfl)); (obtain ⟨gg, rfl, -, -⟩ := hf; clear hz wz; go_simp; refine hK _ _ ?_; clear hK K))
  (refine lz_many _ rfl (fun K hK => ?_); refine ⟨rfl, fun wz hz ha => ?_, fun vz wz hz hf => ?_⟩; (focus (obtain ⟨g', e', hb', ds, h1, h2⟩ := ha ⟨4, .data⟩ (by simp) rfl; cases e'; obtain ⟨y0, y1, y2, rfl⟩ := three_of_arr h1; obtain ⟨c0, c1, c2, cf⟩ := h2.trio; have cl := h2.lt; go_simp; exact lm_three hz hb' h2 rfl)); (obtain - := hf; clear hz wz; go_simp; refine hK _ _ ?_; clear hK K))
  refine lz_nil ?_
  intro w3 hz hg
  obtain ⟨g0, e2, hA0⟩ := hg 5
  cases e2
  clear hg
  have hG3 := hG.trans hz
  obtain ⟨a0, a1, a2, -⟩ := hA0.trio
  have P3 := P.gr hz
  obtain ⟨p0, p1, p2, p3, -⟩ := P3.four
  go_wp2_with fail
  refine (HF.out w3 (HTb.out.gr hG3)).mono ?_
  rintro e w4 ⟨rfl, hg4⟩
  have hG4 := hG3.trans hg4
  have HA4 := Lib.hid (hA0.gr hg4)
  have HP4 := Lib.hid (P3.gr hg4)
  have HN4 := Lib.hid (HNm.out.gr hG4)
  clear a0 a1 a2 p0 p1 p2 p3 P P3 hA0 hg4
  have k5 : ¬ (9223372036854775807 < 1 + (nmA zk).size) := by omega
  have k6 : ¬ ((9223372036854775807 : Int) < 1 + ((nmA zk).size : Int)) := by omega
  have k7 : ¬ (9223372036854775807 < 1 + (nmA zk).size + 1) := by omega
  have k8 : ¬ ((9223372036854775807 : Int) < 1 + ((nmA zk).size : Int) + 1) := by omega
  have k9 : ¬ (9223372036854775807 < 1 + (nmA zk).size + 1 + fb.size) := by omega
  have k10 : ¬ ((9223372036854775807 : Int) < 1 + ((nmA zk).size : Int) + 1 + (fb.size : Int)) := by omega
  go_wp2_with fail
  refine region_grows [] (by kernel_rfl) (by kernel_rfl) ?_
  (refine lz_one rfl (fun K hK => ?_); refine ⟨rfl, ?_⟩; apply Exists.intro; refine ⟨fun wz hz => ?_, ?_⟩; (focus (skip; go_simp; (first | done | exact rfl | exact ⟨rfl, rfl⟩))); (go_simp; refine hK _ _ ?_; clear hK K))
  (refine lz_one rfl (fun K hK => ?_); refine ⟨rfl, ?_⟩; apply Exists.intro; refine ⟨fun wz hz => ?_, ?_⟩; (focus (obtain ⟨a0, a1, a2, -⟩ := (HA4.out.gr hz).trio; go_simp; (first | done | exact rfl | exact ⟨rfl, rfl⟩))); (go_simp; refine hK _ _ ?_; clear hK K))
  (refine lz_one rfl (fun K hK => ?_); refine ⟨rfl, ?_⟩; apply Exists.intro; refine ⟨fun wz hz => ?_, ?_⟩; (focus (skip; go_simp; (first | done | exact rfl | exact ⟨rfl, rfl⟩))); (go_simp; refine hK _ _ ?_; clear hK K))
  (refine lz_one rfl (fun K hK => ?_); refine ⟨rfl, ?_⟩; apply Exists.intro; refine ⟨fun wz hz => ?_, ?_⟩; (focus (obtain ⟨p0, p1, p2, p3, -⟩ := (HP4.out.gr hz).four; go_simp; (first | done | exact rfl | exact ⟨rfl, rfl⟩))); (go_simp; refine hK _ _ ?_; clear hK K))
  (refine lz_one rfl (fun K hK => ?_); refine ⟨rfl, ?_⟩; apply Exists.intro; refine ⟨fun wz hz => ?_, ?_⟩; (focus (skip; go_simp; (first | done | exact rfl | exact ⟨rfl, rfl⟩))); (go_simp; refine hK _ _ ?_; clear hK K))
  (refine lz_one rfl (fun K hK => ?_); refine ⟨rfl, ?_⟩; apply Exists.intro; refine ⟨fun wz hz => ?_, ?_⟩; (focus (have n0 := HN4.out.gr hz zk zk6; have nl := World.block_lt_of_cell? wz _ n0; go_simp; (first | done | exact rfl | exact ⟨rfl, rfl⟩))); (go_simp; refine hK _ _ ?_; clear hK K))
  (refine lz_one rfl (fun K hK => ?_); refine ⟨rfl, ?_⟩; apply Exists.intro; refine ⟨fun wz hz => ?_, ?_⟩; (focus (skip; go_simp; (first | done | exact rfl | exact ⟨rfl, rfl⟩))); (go_simp; refine hK _ _ ?_; clear hK K))
  (refine lz_one rfl (fun K hK => ?_); refine ⟨rfl, ?_⟩; apply Exists.intro; refine ⟨fun wz hz => ?_, ?_⟩; (focus (skip; go_simp; (first | done | exact rfl | exact ⟨rfl, rfl⟩))); (go_simp; refine hK _ _ ?_; clear hK K))
  (refine lz_one rfl (fun K hK => ?_); refine ⟨rfl, ?_⟩; apply Exists.intro; refine ⟨fun wz hz => ?_, ?_⟩; (focus (skip; go_simp; (first | done | exact rfl | exact ⟨rfl, rfl⟩))); (go_simp; refine hK _ _ ?_; clear hK K))
  (refine lz_one rfl (fun K hK => ?_); refine ⟨rfl, ?_⟩; apply Exists.intro; refine ⟨fun wz hz => ?_, ?_⟩; (focus (skip; go_simp; (first | done | exact rfl | exact ⟨rfl, rfl⟩))); (go_simp; refine hK _ _ ?_; clear hK K))
  (refine lz_one rfl (fun K hK => ?_); refine ⟨rfl, ?_⟩; apply Exists.intro; refine ⟨fun wz hz => ?_, ?_⟩; (focus (skip; go_simp; (first | done | exact rfl | exact ⟨rfl, rfl⟩))); (go_simp; refine hK _ _ ?_; clear hK K))
  refine lz_nil ?_
  intro w5 hz5 hgg
  clear hgg
  go_wp2_with fail
  go_ret
  exact ⟨ret_str HR.out.symm, hG4.trans hz5⟩
set_option maxRecDepth 100000 in
set_option maxHeartbeats 4000000 in
theorem mtext_2 (s u t : Int) (w : World) (hT : Tab w) (hN : Nms w) (hv : lsc s = true ∧ fg u t = true) :
    Calls Tryd.prog 52 #[.agg #[.int .i64 (2), .int .i64 (s), .int .i64 (u), .int .i64 (t)]] w fun e w' => e = .returned (.string (mvS8 (2, s, u, t))) ∧ Gr w w' := by
  have HMK := Lib.hid (fun W => moveKinds_impl W)
  obtain ⟨z1, z2⟩ := (lsc_iff s).1 hv.1
  obtain ⟨zk, rfl⟩ := Int.eq_ofNat_of_zero_le (show 0 ≤ s by omega)
  have zk6 : zk < 6 := by omega
  have zk7 : (zk : Int) < 6 := by omega
  have HR := Lib.hid (mvS8_fig (k := 2) (s := (zk : Int)) (d := u) (t := t) rfl)
  rw [Int.toNat_natCast] at HR
  have HF := Lib.hid (fun W h => figureText_impl u t W h)
  rw [(ft_ok u t hv.2).1, (ft_ok u t hv.2).2] at HF
  have hfs := figL_len u t hv.2
  rw [len_data] at hfs
  have hys := nmA_sz zk
  have HTb := Lib.hid hT
  have HNm := Lib.hid hN
  clear hv z1 z2 hT hN
  generalize mvS8 (2, (zk : Int), u, t) = R at *
  generalize figB u t = fb at *
  go_enter Tryd.func52, Tryd.ntmps52
  go_wp2_with fail
  have P := Blk.new w 47 #[.int .i64 2, .int .i64 zk, .int .i64 u, .int .i64 t]
  have hG : Gr w (w.alloc (.cells #[.int .i64 2, .int .i64 zk, .int .i64 u, .int .i64 t] 47)) := (by repeat (first | with_reducible exact Gr.refl _ | with_reducible refine Gr.alloc ?_ _ | with_reducible refine Gr.gr ?_ _ _ | with_reducible refine Gr.drew ?_ | with_reducible refine Gr.drewN ?_ _))
  generalize w.alloc (.cells #[.int .i64 2, .int .i64 zk, .int .i64 u, .int .i64 t] 47) = v at *
  refine region_mix 5 81 #[.string ⟨#[84]⟩, .bool true, .func (.func 79) #[] #[]] [(0, .is mkV), (3, .is (.agg #[.string ⟨#[84]⟩, .bool true, .func (.func 79) #[] #[]])), (4, .made v.heap.size 3)] (by kernel_rfl) (by kernel_rfl) ?_
  (refine lz_many _ rfl (fun K hK => ?_); refine ⟨rfl, fun wz hz ha => ?_, fun vz wz hz hf => ?_⟩; (focus (go_simp; exact lm_call (by decide) hz (HMK.out _))); (obtain rfl := hf; clear hz wz; go_simp; refine hK _ _ ?_; clear hK K))
  (refine lz_one rfl (fun K hK => ?_); refine ⟨rfl, ?_⟩; apply Exists.intro; refine ⟨fun wz hz => ?_, ?_⟩; (focus (skip; go_simp; (first | done | exact ⟨rfl, rfl⟩ | trivial))); (go_simp; refine hK _ _ ?_; clear hK K))
  (refine lz_one rfl (fun K hK => ?_); refine ⟨rfl, ?_⟩; apply Exists.intro; refine ⟨fun wz hz => ?_, ?_⟩; (focus (obtain ⟨p0, p1, p2, p3, -⟩ := (P.gr hz).four; go_simp; (first | done | exact ⟨rfl, rfl⟩ | trivial))); (go_simp; refine hK _ _ ?_; clear hK K))
  (refine lz_many _ rfl (fun K hK => ?_); refine ⟨rfl, fun wz hz ha => ?_, fun vz wz hz hf => ?_⟩; (focus (unfold mkV; go_simp; exact lm_pure (by decide) hz)); (obtain rfl := hf; clear hz wz; go_simp; refine hK _ _ ?_; clear hK K))
  (refine lz_many _ rfl (fun K hK => ?_); refine ⟨rfl, fun wz hz ha => ?_, fun vz wz hz hf => ?_⟩; (focus (go_simp; exact lm_made (by decide) hz (Nat.le_refl _) rfl)); (obtain ⟨gg, rfl, -, -⟩ := hf; clear hz wz; go_simp; refine hK _ _ ?_; clear hK K))
  (refine lz_many _ rfl (fun K hK => ?_); refine ⟨rfl, fun wz hz ha => ?_, fun vz wz hz hf => ?_⟩; (focus (obtain ⟨g', e', hb', ds, h1, h2⟩ := ha ⟨4, .data⟩ (by simp) rfl; cases e'; obtain ⟨y0, y1, y2, rfl⟩ := three_of_arr h1; obtain ⟨c0, c1, c2, cf⟩ := h2.trio; have cl := h2.lt; go_simp; exact lm_three hz hb' h2 rfl)); (obtain - := hf; clear hz wz; go_simp; refine hK _ _ ?_; clear hK K))
  refine lz_nil ?_
  intro w3 hz hg
  obtain ⟨g0, e2, hA0⟩ := hg 5
  cases e2
  clear hg
  have hG3 := hG.trans hz
  obtain ⟨a0, a1, a2, -⟩ := hA0.trio
  have P3 := P.gr hz
  obtain ⟨p0, p1, p2, p3, -⟩ := P3.four
  go_wp2_with fail
  refine (HF.out w3 (HTb.out.gr hG3)).mono ?_
  rintro e w4 ⟨rfl, hg4⟩
  have hG4 := hG3.trans hg4
  have HA4 := Lib.hid (hA0.gr hg4)
  have HP4 := Lib.hid (P3.gr hg4)
  have HN4 := Lib.hid (HNm.out.gr hG4)
  clear a0 a1 a2 p0 p1 p2 p3 P P3 hA0 hg4
  have k5 : ¬ (9223372036854775807 < 1 + (nmA zk).size) := by omega
  have k6 : ¬ ((9223372036854775807 : Int) < 1 + ((nmA zk).size : Int)) := by omega
  have k7 : ¬ (9223372036854775807 < 1 + (nmA zk).size + 1) := by omega
  have k8 : ¬ ((9223372036854775807 : Int) < 1 + ((nmA zk).size : Int) + 1) := by omega
  have k9 : ¬ (9223372036854775807 < 1 + (nmA zk).size + 1 + fb.size) := by omega
  have k10 : ¬ ((9223372036854775807 : Int) < 1 + ((nmA zk).size : Int) + 1 + (fb.size : Int)) := by omega
  go_wp2_with fail
  refine region_grows [] (by kernel_rfl) (by kernel_rfl) ?_
  (refine lz_one rfl (fun K hK => ?_); refine ⟨rfl, ?_⟩; apply Exists.intro; refine ⟨fun wz hz => ?_, ?_⟩; (focus (skip; go_simp; (first | done | exact rfl | exact ⟨rfl, rfl⟩))); (go_simp; refine hK _ _ ?_; clear hK K))
  (refine lz_one rfl (fun K hK => ?_); refine ⟨rfl, ?_⟩; apply Exists.intro; refine ⟨fun wz hz => ?_, ?_⟩; (focus (obtain ⟨a0, a1, a2, -⟩ := (HA4.out.gr hz).trio; go_simp; (first | done | exact rfl | exact ⟨rfl, rfl⟩))); (go_simp; refine hK _ _ ?_; clear hK K))
  (refine lz_one rfl (fun K hK => ?_); refine ⟨rfl, ?_⟩; apply Exists.intro; refine ⟨fun wz hz => ?_, ?_⟩; (focus (skip; go_simp; (first | done | exact rfl | exact ⟨rfl, rfl⟩))); (go_simp; refine hK _ _ ?_; clear hK K))
  (refine lz_one rfl (fun K hK => ?_); refine ⟨rfl, ?_⟩; apply Exists.intro; refine ⟨fun wz hz => ?_, ?_⟩; (focus (obtain ⟨p0, p1, p2, p3, -⟩ := (HP4.out.gr hz).four; go_simp; (first | done | exact rfl | exact ⟨rfl, rfl⟩))); (go_simp; refine hK _ _ ?_; clear hK K))
  (refine lz_one rfl (fun K hK => ?_); refine ⟨rfl, ?_⟩; apply Exists.intro; refine ⟨fun wz hz => ?_, ?_⟩; (focus (skip; go_simp; (first | done | exact rfl | exact ⟨rfl, rfl⟩))); (go_simp; refine hK _ _ ?_; clear hK K))
  (refine lz_one rfl (fun K hK => ?_); refine ⟨rfl, ?_⟩; apply Exists.intro; refine ⟨fun wz hz => ?_, ?_⟩; (focus (have n0 := HN4.out.gr hz zk zk6; have nl := World.block_lt_of_cell? wz _ n0; go_simp; (first | done | exact rfl | exact ⟨rfl, rfl⟩))); (go_simp; refine hK _ _ ?_; clear hK K))
  (refine lz_one rfl (fun K hK => ?_); refine ⟨rfl, ?_⟩; apply Exists.intro; refine ⟨fun wz hz => ?_, ?_⟩; (focus (skip; go_simp; (first | done | exact rfl | exact ⟨rfl, rfl⟩))); (go_simp; refine hK _ _ ?_; clear hK K))
  (refine lz_one rfl (fun K hK => ?_); refine ⟨rfl, ?_⟩; apply Exists.intro; refine ⟨fun wz hz => ?_, ?_⟩; (focus (skip; go_simp; (first | done | exact rfl | exact ⟨rfl, rfl⟩))); (go_simp; refine hK _ _ ?_; clear hK K))
  (refine lz_one rfl (fun K hK => ?_); refine ⟨rfl, ?_⟩; apply Exists.intro; refine ⟨fun wz hz => ?_, ?_⟩; (focus (skip; go_simp; (first | done | exact rfl | exact ⟨rfl, rfl⟩))); (go_simp; refine hK _ _ ?_; clear hK K))
  (refine lz_one rfl (fun K hK => ?_); refine ⟨rfl, ?_⟩; apply Exists.intro; refine ⟨fun wz hz => ?_, ?_⟩; (focus (skip; go_simp; (first | done | exact rfl | exact ⟨rfl, rfl⟩))); (go_simp; refine hK _ _ ?_; clear hK K))
  (refine lz_one rfl (fun K hK => ?_); refine ⟨rfl, ?_⟩; apply Exists.intro; refine ⟨fun wz hz => ?_, ?_⟩; (focus (skip; go_simp; (first | done | exact rfl | exact ⟨rfl, rfl⟩))); (go_simp; refine hK _ _ ?_; clear hK K))
  refine lz_nil ?_
  intro w5 hz5 hgg
  clear hgg
  go_wp2_with fail
  go_ret
  exact ⟨ret_str HR.out.symm, hG4.trans hz5⟩
set_option maxRecDepth 100000 in
set_option maxHeartbeats 4000000 in
theorem mtext_3 (s u t : Int) (w : World) :
    Calls Tryd.prog 52 #[.agg #[.int .i64 (3), .int .i64 (s), .int .i64 (u), .int .i64 (t)]] w fun e w' => e = .returned (.string (mvS8 (3, s, u, t))) ∧ Gr w w' := by
  have HMK := Lib.hid (fun W => moveKinds_impl W)
  have HR := Lib.hid (mvS8_pl (k := 3) (s := s) (d := u) (t := t) rfl)
  generalize mvS8 (3, s, u, t) = R at *
  go_enter Tryd.func52, Tryd.ntmps52
  go_wp2_with fail
  have P := Blk.new w 47 #[.int .i64 3, .int .i64 s, .int .i64 u, .int .i64 t]
  have hG : Gr w (w.alloc (.cells #[.int .i64 3, .int .i64 s, .int .i64 u, .int .i64 t] 47)) := (by repeat (first | with_reducible exact Gr.refl _ | with_reducible refine Gr.alloc ?_ _ | with_reducible refine Gr.gr ?_ _ _ | with_reducible refine Gr.drew ?_ | with_reducible refine Gr.drewN ?_ _))
  generalize w.alloc (.cells #[.int .i64 3, .int .i64 s, .int .i64 u, .int .i64 t] 47) = v at *
  refine region_mix 5 81 #[.string ⟨#[76]⟩, .bool false, .func (.func 81) #[] #[]] [(0, .is mkV), (3, .is (.agg #[.string ⟨#[76]⟩, .bool false, .func (.func 81) #[] #[]])), (4, .made v.heap.size 3)] (by kernel_rfl) (by kernel_rfl) ?_
  (refine lz_many _ rfl (fun K hK => ?_); refine ⟨rfl, fun wz hz ha => ?_, fun vz wz hz hf => ?_⟩; (focus (go_simp; exact lm_call (by decide) hz (HMK.out _))); (obtain rfl := hf; clear hz wz; go_simp; refine hK _ _ ?_; clear hK K))
  (refine lz_one rfl (fun K hK => ?_); refine ⟨rfl, ?_⟩; apply Exists.intro; refine ⟨fun wz hz => ?_, ?_⟩; (focus (skip; go_simp; (first | done | exact ⟨rfl, rfl⟩ | trivial))); (go_simp; refine hK _ _ ?_; clear hK K))
  (refine lz_one rfl (fun K hK => ?_); refine ⟨rfl, ?_⟩; apply Exists.intro; refine ⟨fun wz hz => ?_, ?_⟩; (focus (obtain ⟨p0, p1, p2, p3, -⟩ := (P.gr hz).four; go_simp; (first | done | exact ⟨rfl, rfl⟩ | trivial))); (go_simp; refine hK _ _ ?_; clear hK K))
  (refine lz_many _ rfl (fun K hK => ?_); refine ⟨rfl, fun wz hz ha => ?_, fun vz wz hz hf => ?_⟩; (focus (unfold mkV; go_simp; exact lm_pure (by decide) hz)); (obtain rfl := hf; clear hz wz; go_simp; refine hK _ _ ?_; clear hK K))
  (refine lz_many _ rfl (fun K hK => ?_); refine ⟨rfl, fun wz hz ha => ?_, fun vz wz hz hf => ?_⟩; (focus (go_simp; exact lm_made (by decide) hz (Nat.le_refl _) rfl)); (obtain ⟨gg, rfl, -, -⟩ := hf; clear hz wz; go_simp; refine hK _ _ ?_; clear hK K))
  (refine lz_many _ rfl (fun K hK => ?_); refine ⟨rfl, fun wz hz ha => ?_, fun vz wz hz hf => ?_⟩; (focus (obtain ⟨g', e', hb', ds, h1, h2⟩ := ha ⟨4, .data⟩ (by simp) rfl; cases e'; obtain ⟨y0, y1, y2, rfl⟩ := three_of_arr h1; obtain ⟨c0, c1, c2, cf⟩ := h2.trio; have cl := h2.lt; go_simp; exact lm_three hz hb' h2 rfl)); (obtain - := hf; clear hz wz; go_simp; refine hK _ _ ?_; clear hK K))
  refine lz_nil ?_
  intro w3 hz hg
  obtain ⟨g0, e2, hA0⟩ := hg 5
  cases e2
  clear hg
  have hG3 := hG.trans hz
  obtain ⟨a0, a1, a2, -⟩ := hA0.trio
  go_wp2_with fail
  go_ret
  exact ⟨ret_str HR.out.symm, hG3⟩
set_option maxRecDepth 100000 in
set_option maxHeartbeats 4000000 in
theorem mtext_4 (s u t : Int) (w : World) :
    Calls Tryd.prog 52 #[.agg #[.int .i64 (4), .int .i64 (s), .int .i64 (u), .int .i64 (t)]] w fun e w' => e = .returned (.string (mvS8 (4, s, u, t))) ∧ Gr w w' := by
  have HMK := Lib.hid (fun W => moveKinds_impl W)
  have HR := Lib.hid (mvS8_pl (k := 4) (s := s) (d := u) (t := t) rfl)
  generalize mvS8 (4, s, u, t) = R at *
  go_enter Tryd.func52, Tryd.ntmps52
  go_wp2_with fail
  have P := Blk.new w 47 #[.int .i64 4, .int .i64 s, .int .i64 u, .int .i64 t]
  have hG : Gr w (w.alloc (.cells #[.int .i64 4, .int .i64 s, .int .i64 u, .int .i64 t] 47)) := (by repeat (first | with_reducible exact Gr.refl _ | with_reducible refine Gr.alloc ?_ _ | with_reducible refine Gr.gr ?_ _ _ | with_reducible refine Gr.drew ?_ | with_reducible refine Gr.drewN ?_ _))
  generalize w.alloc (.cells #[.int .i64 4, .int .i64 s, .int .i64 u, .int .i64 t] 47) = v at *
  refine region_mix 5 81 #[.string ⟨#[82]⟩, .bool false, .func (.func 83) #[] #[]] [(0, .is mkV), (3, .is (.agg #[.string ⟨#[82]⟩, .bool false, .func (.func 83) #[] #[]])), (4, .made v.heap.size 3)] (by kernel_rfl) (by kernel_rfl) ?_
  (refine lz_many _ rfl (fun K hK => ?_); refine ⟨rfl, fun wz hz ha => ?_, fun vz wz hz hf => ?_⟩; (focus (go_simp; exact lm_call (by decide) hz (HMK.out _))); (obtain rfl := hf; clear hz wz; go_simp; refine hK _ _ ?_; clear hK K))
  (refine lz_one rfl (fun K hK => ?_); refine ⟨rfl, ?_⟩; apply Exists.intro; refine ⟨fun wz hz => ?_, ?_⟩; (focus (skip; go_simp; (first | done | exact ⟨rfl, rfl⟩ | trivial))); (go_simp; refine hK _ _ ?_; clear hK K))
  (refine lz_one rfl (fun K hK => ?_); refine ⟨rfl, ?_⟩; apply Exists.intro; refine ⟨fun wz hz => ?_, ?_⟩; (focus (obtain ⟨p0, p1, p2, p3, -⟩ := (P.gr hz).four; go_simp; (first | done | exact ⟨rfl, rfl⟩ | trivial))); (go_simp; refine hK _ _ ?_; clear hK K))
  (refine lz_many _ rfl (fun K hK => ?_); refine ⟨rfl, fun wz hz ha => ?_, fun vz wz hz hf => ?_⟩; (focus (unfold mkV; go_simp; exact lm_pure (by decide) hz)); (obtain rfl := hf; clear hz wz; go_simp; refine hK _ _ ?_; clear hK K))
  (refine lz_many _ rfl (fun K hK => ?_); refine ⟨rfl, fun wz hz ha => ?_, fun vz wz hz hf => ?_⟩; (focus (go_simp; exact lm_made (by decide) hz (Nat.le_refl _) rfl)); (obtain ⟨gg, rfl, -, -⟩ := hf; clear hz wz; go_simp; refine hK _ _ ?_; clear hK K))
  (refine lz_many _ rfl (fun K hK => ?_); refine ⟨rfl, fun wz hz ha => ?_, fun vz wz hz hf => ?_⟩; (focus (obtain ⟨g', e', hb', ds, h1, h2⟩ := ha ⟨4, .data⟩ (by simp) rfl; cases e'; obtain ⟨y0, y1, y2, rfl⟩ := three_of_arr h1; obtain ⟨c0, c1, c2, cf⟩ := h2.trio; have cl := h2.lt; go_simp; exact lm_three hz hb' h2 rfl)); (obtain - := hf; clear hz wz; go_simp; refine hK _ _ ?_; clear hK K))
  refine lz_nil ?_
  intro w3 hz hg
  obtain ⟨g0, e2, hA0⟩ := hg 5
  cases e2
  clear hg
  have hG3 := hG.trans hz
  obtain ⟨a0, a1, a2, -⟩ := hA0.trio
  go_wp2_with fail
  go_ret
  exact ⟨ret_str HR.out.symm, hG3⟩
set_option maxRecDepth 100000 in
set_option maxHeartbeats 4000000 in
theorem mtext_5 (s u t : Int) (w : World) :
    Calls Tryd.prog 52 #[.agg #[.int .i64 (5), .int .i64 (s), .int .i64 (u), .int .i64 (t)]] w fun e w' => e = .returned (.string (mvS8 (5, s, u, t))) ∧ Gr w w' := by
  have HMK := Lib.hid (fun W => moveKinds_impl W)
  have HR := Lib.hid (mvS8_pl (k := 5) (s := s) (d := u) (t := t) rfl)
  generalize mvS8 (5, s, u, t) = R at *
  go_enter Tryd.func52, Tryd.ntmps52
  go_wp2_with fail
  have P := Blk.new w 47 #[.int .i64 5, .int .i64 s, .int .i64 u, .int .i64 t]
  have hG : Gr w (w.alloc (.cells #[.int .i64 5, .int .i64 s, .int .i64 u, .int .i64 t] 47)) := (by repeat (first | with_reducible exact Gr.refl _ | with_reducible refine Gr.alloc ?_ _ | with_reducible refine Gr.gr ?_ _ _ | with_reducible refine Gr.drew ?_ | with_reducible refine Gr.drewN ?_ _))
  generalize w.alloc (.cells #[.int .i64 5, .int .i64 s, .int .i64 u, .int .i64 t] 47) = v at *
  refine region_mix 5 81 #[.string ⟨#[108]⟩, .bool false, .func (.func 84) #[] #[]] [(0, .is mkV), (3, .is (.agg #[.string ⟨#[108]⟩, .bool false, .func (.func 84) #[] #[]])), (4, .made v.heap.size 3)] (by kernel_rfl) (by kernel_rfl) ?_
  (refine lz_many _ rfl (fun K hK => ?_); refine ⟨rfl, fun wz hz ha => ?_, fun vz wz hz hf => ?_⟩; (focus (go_simp; exact lm_call (by decide) hz (HMK.out _))); (obtain rfl := hf; clear hz wz; go_simp; refine hK _ _ ?_; clear hK K))
  (refine lz_one rfl (fun K hK => ?_); refine ⟨rfl, ?_⟩; apply Exists.intro; refine ⟨fun wz hz => ?_, ?_⟩; (focus (skip; go_simp; (first | done | exact ⟨rfl, rfl⟩ | trivial))); (go_simp; refine hK _ _ ?_; clear hK K))
  (refine lz_one rfl (fun K hK => ?_); refine ⟨rfl, ?_⟩; apply Exists.intro; refine ⟨fun wz hz => ?_, ?_⟩; (focus (obtain ⟨p0, p1, p2, p3, -⟩ := (P.gr hz).four; go_simp; (first | done | exact ⟨rfl, rfl⟩ | trivial))); (go_simp; refine hK _ _ ?_; clear hK K))
  (refine lz_many _ rfl (fun K hK => ?_); refine ⟨rfl, fun wz hz ha => ?_, fun vz wz hz hf => ?_⟩; (focus (unfold mkV; go_simp; exact lm_pure (by decide) hz)); (obtain rfl := hf; clear hz wz; go_simp; refine hK _ _ ?_; clear hK K))
  (refine lz_many _ rfl (fun K hK => ?_); refine ⟨rfl, fun wz hz ha => ?_, fun vz wz hz hf => ?_⟩; (focus (go_simp; exact lm_made (by decide) hz (Nat.le_refl _) rfl)); (obtain ⟨gg, rfl, -, -⟩ := hf; clear hz wz; go_simp; refine hK _ _ ?_; clear hK K))
  (refine lz_many _ rfl (fun K hK => ?_); refine ⟨rfl, fun wz hz ha => ?_, fun vz wz hz hf => ?_⟩; (focus (obtain ⟨g', e', hb', ds, h1, h2⟩ := ha ⟨4, .data⟩ (by simp) rfl; cases e'; obtain ⟨y0, y1, y2, rfl⟩ := three_of_arr h1; obtain ⟨c0, c1, c2, cf⟩ := h2.trio; have cl := h2.lt; go_simp; exact lm_three hz hb' h2 rfl)); (obtain - := hf; clear hz wz; go_simp; refine hK _ _ ?_; clear hK K))
  refine lz_nil ?_
  intro w3 hz hg
  obtain ⟨g0, e2, hA0⟩ := hg 5
  cases e2
  clear hg
  have hG3 := hG.trans hz
  obtain ⟨a0, a1, a2, -⟩ := hA0.trio
  go_wp2_with fail
  go_ret
  exact ⟨ret_str HR.out.symm, hG3⟩
set_option maxRecDepth 100000 in
set_option maxHeartbeats 4000000 in
theorem mtext_6 (s u t : Int) (w : World) :
    Calls Tryd.prog 52 #[.agg #[.int .i64 (6), .int .i64 (s), .int .i64 (u), .int .i64 (t)]] w fun e w' => e = .returned (.string (mvS8 (6, s, u, t))) ∧ Gr w w' := by
  have HMK := Lib.hid (fun W => moveKinds_impl W)
  have HR := Lib.hid (mvS8_pl (k := 6) (s := s) (d := u) (t := t) rfl)
  generalize mvS8 (6, s, u, t) = R at *
  go_enter Tryd.func52, Tryd.ntmps52
  go_wp2_with fail
  have P := Blk.new w 47 #[.int .i64 6, .int .i64 s, .int .i64 u, .int .i64 t]
  have hG : Gr w (w.alloc (.cells #[.int .i64 6, .int .i64 s, .int .i64 u, .int .i64 t] 47)) := (by repeat (first | with_reducible exact Gr.refl _ | with_reducible refine Gr.alloc ?_ _ | with_reducible refine Gr.gr ?_ _ _ | with_reducible refine Gr.drew ?_ | with_reducible refine Gr.drewN ?_ _))
  generalize w.alloc (.cells #[.int .i64 6, .int .i64 s, .int .i64 u, .int .i64 t] 47) = v at *
  refine region_mix 5 81 #[.string ⟨#[114]⟩, .bool false, .func (.func 85) #[] #[]] [(0, .is mkV), (3, .is (.agg #[.string ⟨#[114]⟩, .bool false, .func (.func 85) #[] #[]])), (4, .made v.heap.size 3)] (by kernel_rfl) (by kernel_rfl) ?_
  (refine lz_many _ rfl (fun K hK => ?_); refine ⟨rfl, fun wz hz ha => ?_, fun vz wz hz hf => ?_⟩; (focus (go_simp; exact lm_call (by decide) hz (HMK.out _))); (obtain rfl := hf; clear hz wz; go_simp; refine hK _ _ ?_; clear hK K))
  (refine lz_one rfl (fun K hK => ?_); refine ⟨rfl, ?_⟩; apply Exists.intro; refine ⟨fun wz hz => ?_, ?_⟩; (focus (skip; go_simp; (first | done | exact ⟨rfl, rfl⟩ | trivial))); (go_simp; refine hK _ _ ?_; clear hK K))
  (refine lz_one rfl (fun K hK => ?_); refine ⟨rfl, ?_⟩; apply Exists.intro; refine ⟨fun wz hz => ?_, ?_⟩; (focus (obtain ⟨p0, p1, p2, p3, -⟩ := (P.gr hz).four; go_simp; (first | done | exact ⟨rfl, rfl⟩ | trivial))); (go_simp; refine hK _ _ ?_; clear hK K))
  (refine lz_many _ rfl (fun K hK => ?_); refine ⟨rfl, fun wz hz ha => ?_, fun vz wz hz hf => ?_⟩; (focus (unfold mkV; go_simp; exact lm_pure (by decide) hz)); (obtain rfl := hf; clear hz wz; go_simp; refine hK _ _ ?_; clear hK K))
  (refine lz_many _ rfl (fun K hK => ?_); refine ⟨rfl, fun wz hz ha => ?_, fun vz wz hz hf => ?_⟩; (focus (go_simp; exact lm_made (by decide) hz (Nat.le_refl _) rfl)); (obtain ⟨gg, rfl, -, -⟩ := hf; clear hz wz; go_simp; refine hK _ _ ?_; clear hK K))
  (refine lz_many _ rfl (fun K hK => ?_); refine ⟨rfl, fun wz hz ha => ?_, fun vz wz hz hf => ?_⟩; (focus (obtain ⟨g', e', hb', ds, h1, h2⟩ := ha ⟨4, .data⟩ (by simp) rfl; cases e'; obtain ⟨y0, y1, y2, rfl⟩ := three_of_arr h1; obtain ⟨c0, c1, c2, cf⟩ := h2.trio; have cl := h2.lt; go_simp; exact lm_three hz hb' h2 rfl)); (obtain - := hf; clear hz wz; go_simp; refine hK _ _ ?_; clear hK K))
  refine lz_nil ?_
  intro w3 hz hg
  obtain ⟨g0, e2, hA0⟩ := hg 5
  cases e2
  clear hg
  have hG3 := hG.trans hz
  obtain ⟨a0, a1, a2, -⟩ := hA0.trio
  go_wp2_with fail
  go_ret
  exact ⟨ret_str HR.out.symm, hG3⟩
theorem moveText_impl (k s u t : Int) (w : World) (hT : Tab w) (hN : Nms w) (hv : mvB (k, s, u, t) = true) :
    Calls Tryd.prog 52 #[.agg #[.int .i64 (k), .int .i64 (s), .int .i64 (u), .int .i64 (t)]] w fun e w' => e = .returned (.string (mvS8 (k, s, u, t))) ∧ Gr w w' := by
  rcases mvB_cases hv with ⟨hk, h1, h2⟩ | ⟨hk, -, -, -⟩
  · rcases hk with rfl | rfl | rfl
    · exact mtext_0 s u t w hT hN ⟨h1, h2⟩
    · exact mtext_1 s u t w hT hN ⟨h1, h2⟩
    · exact mtext_2 s u t w hT hN ⟨h1, h2⟩
  · rcases hk with rfl | rfl | rfl | rfl
    · exact mtext_3 s u t w
    · exact mtext_4 s u t w
    · exact mtext_5 s u t w
    · exact mtext_6 s u t w

/-- What MovesText answers. -/
def mtS (ms : List Mv) : ByteArray := if mvC ms = 0 then mJ ms ms.length else ⟨#[]⟩
theorem mtS_ok {ms : List Mv} (h : mvC ms = 0) : mtS ms = mJ ms ms.length := if_pos h
theorem mtS_no {ms : List Mv} (h : mvC ms ≠ 0) : mtS ms = ⟨#[]⟩ := if_neg h
theorem movesText_spec (M : Option Addr) (p cp : Nat) (ms : List Mv) (w : World) (hml : ms.length = p) (hp : p ≤ 16777216) (hM : Reads w w.heap.size M (mcells ms)) :
    Calls Tryd.prog 32 #[.slice M p cp] w fun e w' => e = .returned (.tuple #[.string (mtS ms), .int .i64 (mvC ms)]) ∧ Gr w w' := by
  have HC := Lib.hid (mcode_spec M p cp ms w hml hp hM)
  by_cases h : mvC ms = 0
  · have HT := Lib.hid (fun W hW => text12_spec M p cp ms W hml hp hW (mvC_zero h).1 (by have := (mvC_zero h).2; omega))
    have HS := Lib.hid (mtS_ok h)
    rw [hml] at HS
    have RM := Lib.hid hM
    rw [h] at HC ⊢
    clear h hml hM
    go_enter Tryd.func32, Tryd.ntmps32
    go_wp2_with (first | (go_at_call 38; (with_reducible refine (HC.out).mono ?_); rintro e w1 ⟨rfl, hg1⟩) | (go_at_call 51; (with_reducible refine (HT.out w1 (RM.out.gr hg1)).mono ?_); rintro e w2 ⟨rfl, hg2⟩))
    go_ret2
    rw [HS.out]
    exact ⟨rfl, hg1.trans hg2⟩
  · have HS := Lib.hid (mtS_no h)
    have hb : (mvC ms == 0) = false := by simpa using h
    generalize mvC ms = z at *
    clear h hml hM
    go_enter Tryd.func32, Tryd.ntmps32
    go_wp2_with (go_at_call 38; (with_reducible refine (HC.out).mono ?_); rintro e w1 ⟨rfl, hg1⟩)
    go_ret2
    rw [HS.out]
    exact ⟨rfl, hg1⟩
def tsV (m : Mv) : Value := .string (mvS8 m)
set_option maxHeartbeats 2000000 in
theorem movesText_impl (M : Option Addr) (p cp : Nat) (ms : List Mv) (w : World) (hml : ms.length = p) (hp : p ≤ 16777216) (hM : Reads w w.heap.size M (mcells ms)) (hT : Tab w) (hN : Nms w) :
    Calls Tryd.prog 33 #[.slice M p cp] w fun e w' => e = .returned (.tuple #[.string (mtS ms), .int .i64 (mvC ms)]) ∧ Gr w w' := by
  have HC := Lib.hid (mcode_impl M p cp ms w hml hp hM)
  by_cases h : mvC ms = 0
  rotate_left
  · have HS := Lib.hid (mtS_no h)
    have hb : (mvC ms == 0) = false := by simpa using h
    generalize mvC ms = z at *
    clear h hml hM hT hN
    go_enter Tryd.func33, Tryd.ntmps33
    go_wp2_with (go_at_call 39; (with_reducible refine (HC.out).mono ?_); rintro e w1 ⟨rfl, hg1⟩)
    go_ret2
    rw [HS.out]
    exact ⟨rfl, hg1⟩
  have HS := Lib.hid (mtS_ok h)
  have HV := Lib.hid (mvC_zero h).1
  have hp30 := (mvC_zero h).2
  rw [hml] at hp30 HS
  have HLn := Lib.hid hml
  have RM := Lib.hid hM
  have HTb := Lib.hid hT
  have HNm := Lib.hid hN
  have hl : (ms.map tsV).length = p := by rw [List.length_map]; exact hml
  have HL := Lib.hid hl
  have hmk := mkStrs p (by omega)
  rw [h] at HC ⊢
  clear h hml hM hT hN hl
  go_enter Tryd.func33, Tryd.ntmps33
  go_wp2_with (go_at_call 39; (with_reducible refine (HC.out).mono ?_); rintro e w1 ⟨rfl, hg1⟩)
  clear hmk HC
  go_loopw [18] (fun i wr => ∃ k : Nat, k ≤ p ∧ i = .int .i64 k ∧ Row wr w1.heap.size 9 (fillV (ms.map tsV) (.string ⟨#[]⟩) k) ∧ Below w1.heap.size w1 wr) (fun i _ => p - (intOf i).toNat)
  case atStart => exact ⟨0, by omega, rfl, by rw [fillV_zero, HL.out]; exact Row.new w1 _ _, (Below.refl _ _).alloc (Nat.le_refl _) _⟩
  case round =>
    obtain ⟨k, hk, rfl, hrow, hbl⟩ := hrel
    have hW := hg1.below.trans (hbl.mono hg1.below.size)
    by_cases hlt : k < p
    · have hk2 : k < (ms.map tsV).length := by rw [HL.out]; exact hlt
      obtain ⟨mv, hmv⟩ := some_at (l := ms) (k := k) (by rw [HLn.out]; exact hlt)
      obtain ⟨g, o, rfl, hg, x0, x1, x2, x3⟩ := (RM.out.below hW).at4 hmv
      have hval := all_at HV.out hmv
      have FS := Lib.hid (fillV_put (ms.map tsV) (.string ⟨#[]⟩) (tsV mv) k (map_at hmv))
      have HFA := Lib.hid (fillV_at (ms.map tsV) (.string ⟨#[]⟩) k hk2)
      obtain ⟨mk, s, u, t⟩ := mv
      simp only at x0 x1 x2 x3
      have HTx := Lib.hid (fun W h1 h2 => moveText_impl mk s u t W h1 h2 hval)
      have HVv := Lib.hid (show Value.string (mvS8 (mk, s, u, t)) = tsV (mk, s, u, t) from rfl)
      generalize mvS8 (mk, s, u, t) = tx at *
      clear hmv hk2
      have hbs := hbl.size
      go_wp2_with fail
      have hgn : Gr wr (wr.alloc (.cells #[.int .i64 mk, .int .i64 s, .int .i64 u, .int .i64 t] 47)) := (by repeat (first | with_reducible exact Gr.refl _ | with_reducible refine Gr.alloc ?_ _ | with_reducible refine Gr.gr ?_ _ _ | with_reducible refine Gr.drew ?_ | with_reducible refine Gr.drewN ?_ _))
      have hW2 := hW.trans (hgn.below.mono hW.size)
      refine (HTx.out _ (HTb.out.gr (Gr.of_below hW2)) (HNm.out.gr (Gr.of_below hW2))).mono ?_
      rintro e w3 ⟨rfl, hg3⟩
      have hrow3 := (hrow.gr hgn).gr hg3
      have hbl3 := hbl.trans ((hgn.trans hg3).below.mono hbs)
      have c0 := hrow3.cell k
      rw [HFA.out] at c0
      have f0 := hrow3.free k
      have hlb := hrow3.lt
      clear x0 x1 x2 x3 hgn hg3 hW2
      go_wp2_with fail
      go_roundw
      case rel =>
        refine ⟨k + 1, by omega, by go_num, ?_, ?_⟩
        · rw [← FS.out, ← HVv.out]
          exact hrow3.set k _
        · exact hbl3.setCell (p := ⟨w1.heap.size, k, none⟩) (Nat.le_refl _) _
      case measure => simp [intOf]; omega
    · obtain rfl : k = p := by omega
      have HF := Lib.hid (fillV_all (ms.map tsV) (.string ⟨#[]⟩))
      rw [HL.out] at HF
      have hcells : ∀ (j : Nat) x, (ms.map mvS8)[j]? = some x → wr.cell? ⟨w1.heap.size, 0 + j, none⟩ = some (.string x) := by
        intro j x hx
        rw [Nat.zero_add, hrow.cell, HF.out]
        rw [List.getElem?_map] at hx ⊢
        cases h : ms[j]? with
        | none => rw [h] at hx; cases hx
        | some z => rw [h] at hx; simp at hx; subst hx; rfl
      have hmm : ((ms.map mvS8).map (·.data.toList)) = ms.map mvT := by
        rw [List.map_map]
        exact List.map_congr_left fun x _ => rfl
      have hjl : (Lib.join ((ms.map mvS8).map (·.data.toList)) [32]).length ≤ 140737488355328 := by
        rw [hmm]
        have := jnB_len (ms.map mvT) (fun x hx => by
          obtain ⟨z, hz, rfl⟩ := List.mem_map.1 hx
          exact mvT_len (List.all_eq_true.1 HV.out z hz))
        rw [List.length_map, HLn.out] at this
        omega
      have hJ := Tryd.strings_Join w1.heap.size 0 k (ms.map mvS8) ⟨#[32]⟩ wr hcells hrow.lt (by rw [List.length_map, HLn.out]; omega) (by rw [List.length_map, HLn.out]; omega) hjl
      rw [List.length_map, HLn.out] at hJ
      have HJ := Lib.hid hJ
      have HE := Lib.hid (show mJ ms k = ⟨(Lib.join ((ms.map mvS8).map (·.data.toList)) (ByteArray.mk #[32]).data.toList).toArray⟩ by
        unfold mJ
        rw [List.take_of_length_le (by rw [HLn.out]; omega), hmm])
      clear hJ hcells hjl
      go_wp2_with fail
      refine HJ.out.mono ?_
      rintro e w' ⟨rfl, hb2⟩
      go_wp2_with fail
      go_ret2
      exact ⟨ret_sc (by rw [HS.out, HE.out, List.map_map]; rfl) rfl, Gr.of_below (hW.trans (hb2.mono hW.size))⟩
end Go.Proofs.YtefhhigcplemaaaDoor
