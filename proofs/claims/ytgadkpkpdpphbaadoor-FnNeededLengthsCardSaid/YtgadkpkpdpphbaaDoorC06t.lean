/- Contracts of chapter 6, the program's: the needed length, whole. -/
import Derived.Test.YtgadkpkpdpphbaaDoorC06q
import Derived.Test.YtgadkpkpdpphbaaDoorC06s
namespace Go.Proofs.YtgadkpkpdpphbaaDoor
open Go.RowKit Go.Maps
set_option linter.unusedVariables false
set_option linter.unusedSimpArgs false

theorem ok7_not (s t e g : Int) (h : ok7 s t e g = false) : (sc s = false ∨ (sc s = true ∧ decide (0 ≤ e ∧ e ≤ 200) = false) ∨ (sc s = true ∧ decide (0 ≤ e ∧ e ≤ 200) = true ∧ t < 0) ∨ (sc s = true ∧ decide (0 ≤ e ∧ e ≤ 200) = true ∧ 0 ≤ t ∧ dec s ≤ t)) ∨
    (sc s = true ∧ decide (0 ≤ e ∧ e ≤ 200) = true ∧ 0 ≤ t ∧ t < dec s ∧ (g < 1 ∨ 4 < g)) := by
  rcases sc_tf s with h1 | h1
  · rcases decb_tf (0 ≤ e ∧ e ≤ 200) with h2 | h2
    · by_cases h3 : t < 0
      · exact .inl (.inr (.inr (.inl ⟨h1, h2, h3⟩)))
      · by_cases h4 : dec s ≤ t
        · exact .inl (.inr (.inr (.inr ⟨h1, h2, by omega, h4⟩)))
        · refine .inr ⟨h1, h2, by omega, by omega, ?_⟩
          by_cases h5 : 1 ≤ g ∧ g ≤ 4
          · have := (ok7_iff s t e g).2 ⟨h1, of_decide_eq_true h2, h5, by omega⟩
            rw [this] at h; cases h
          · omega
    · exact .inl (.inr (.inl ⟨h1, h2⟩))
  · exact .inl (.inl h1)

theorem nlR_impl (s d t e g : Int) (w : World) (hD : Dcs w) :
    Calls Tryd.prog 27 #[.int .i64 s, .agg #[.int .i64 d, .int .i64 t], .int .i64 e, .int .i64 g] w fun e' w' => e' = .returned (.tuple #[.int .i64 (nlR s d t e g).1, .int .i64 (nlR s d t e g).2]) ∧ Gr w w' := by
  rcases nl_cases s d t e g with ⟨h1, H⟩ | ⟨h1, h2, H⟩ | ⟨h1, h2, h3, H⟩ | ⟨h1, h2, h3, h4, H⟩
  · rw [H]; exact nlIn_any s d t e g w h1
  · rw [H]
    rcases ok7_not s t e g h2 with h | ⟨k1, k2, k3, k4, k5⟩
    · exact nlRg_any s d t e g w hD h1 h
    · exact nlNo_any s d t e g 0 0 0 0 w hD h1 k1 k2 k3 k4 (fun W => nb_zero d t g W (.inl (by rw [roR_far d t g h1 k5]; simp)))
  · rw [H]
    obtain ⟨k1, k2, ⟨g1, g4⟩, k3, k4⟩ := (ok7_iff s t e g).1 h2
    have k2' := decide_eq_true k2
    have hR : roR d t g = rsl (nlA d t g) := roR_ok d t g h1 g1 g4
    cases hA : fg (nlA d t g).1 (nlA d t g).2
    · exact nlNo_any s d t e g 0 0 0 0 w hD h1 k1 k2' k3 (by omega) (fun W => nb_zero d t g W (.inl (by rw [hR, rsl_no _ hA]; simp)))
    · rw [rsl_ok _ hA] at hR
      by_cases ht : (nlA d t g).2 = t
      · rcases h3 with h3 | ⟨-, h3⟩
        · have hb := ((fg_iff _ _).1 hA).1
          have hR' : roR d t g = (((nlA d t g).1, t), 0) := by rw [hR]; exact Prod.ext (Prod.ext rfl ht) rfl
          have hn := fun W => nb_next d t g (nlA d t g).1 W hR' g1 g4 (by omega) (by omega)
          rw [ht] at h3
          rw [show (nlA d t g).1 + p10 (4 - g).toNat = nlB d t g from rfl, h3] at hn
          exact nlNo_any s d t e g _ _ _ _ w hD h1 k1 k2' k3 (by omega) hn
        · exact absurd ht h3
      · exact nlNo_any s d t e g 0 0 0 0 w hD h1 k1 k2' k3 (by omega) (fun W => nb_zero d t g W (.inr (by rw [hR]; exact ⟨rfl, ht⟩)))
  · obtain ⟨k1, k2, ⟨g1, g4⟩, k3, k4⟩ := (ok7_iff s t e g).1 h2
    have k2' := decide_eq_true k2
    have hA := nlA_fg h1 g1 g4 h4
    have hR : roR d t g = (((nlA d t g).1, t), 0) := by
      rw [roR_ok d t g h1 g1 g4]
      show rsl (nlA d t g) = _
      have e0 : nlA d t g = ((nlA d t g).1, t) := Prod.ext rfl h3
      rw [e0]
      exact rsl_ok _ hA
    have hb := ((fg_iff _ _).1 hA).1
    have hn := fun W => nb_next d t g (nlA d t g).1 W hR g1 g4 (by omega) (by omega)
    rw [show (nlA d t g).1 + p10 (4 - g).toNat = nlB d t g from rfl, h4] at hn
    have h5 := dec_5 s t k3 (by omega)
    have hl := nl_loop s d t e g (nlA d t g).1 (nlB d t g) w hD h1 k1 k2' k3 (by omega) hn (fun sb mb l W hS hln => areApart_any sb mb s l (nlA d t g).1 t (nlB d t g) t e W hS k1 hln hA h5 h4 h5 k2.1 k2.2)
    refine hl.mono fun e' w' ⟨q1, q2⟩ => ⟨q1.trans ?_, q2⟩
    rw [H]
    split <;> rfl
end Go.Proofs.YtgadkpkpdpphbaaDoor
