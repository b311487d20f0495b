/- Plain mathematics of chapter 12: moves in two parts, the first impossible move. No program is imported here. -/
import Derived.Test.YtefhhigcplemaaaDoorM36
namespace Go.Proofs.YtefhhigcplemaaaDoor
set_option linter.unusedSimpArgs false
set_option linter.unusedVariables false

theorem jyRun_app (xs ys : List Int) : ∀ (l1 : List Mv) (j : Jy) (l2 : List Mv), jyRun xs ys j (l1 ++ l2) = if (jyRun xs ys j l1).2 = true then jyRun xs ys (jyRun xs ys j l1).1 l2 else jyRun xs ys j l1
  | [], j, l2 => rfl
  | m :: r, j, l2 => by
    rw [List.cons_append]
    rcases mvO_tf xs ys m j.a j.c with h | h
    · rw [jyRun_yes h, jyRun_yes h]; exact jyRun_app xs ys r _ l2
    · rw [jyRun_no h, jyRun_no h]; rfl
def jyS (j : Jy) (n u v : Int) : Jy := ⟨j.a, j.c, j.n + n, j.u + u, j.v + v⟩
theorem jyRun_shift (xs ys : List Int) (n u v : Int) : ∀ (l : List Mv) (j : Jy), jyRun xs ys (jyS j n u v) l = (jyS (jyRun xs ys j l).1 n u v, (jyRun xs ys j l).2)
  | [], j => rfl
  | m :: r, j => by
    rcases mvO_tf xs ys m j.a j.c with h | h
    · have h' : mvO xs ys m (jyS j n u v).a (jyS j n u v).c = true := h
      rw [jyRun_yes h, jyRun_yes h', ← jyRun_shift xs ys n u v r]
      congr 1
      show Jy.mk _ _ (j.n + n + 1) (j.u + u + dsM (mvN m j.a j.c).1 j.a) (j.v + v + dsM (mvN m j.a j.c).2 j.c) = Jy.mk _ _ (j.n + 1 + n) (j.u + dsM (mvN m j.a j.c).1 j.a + u) (j.v + dsM (mvN m j.a j.c).2 j.c + v)
      congr 1 <;> omega
    · have h' : mvO xs ys m (jyS j n u v).a (jyS j n u v).c = false := h
      rw [jyRun_no h, jyRun_no h']
theorem jyS_of (j : Jy) : j = jyS (jy0 j.a j.c) j.n j.u j.v := by
  obtain ⟨a, c, n, u, v⟩ := j
  show Jy.mk a c n u v = Jy.mk a c (0 + n) (0 + u) (0 + v)
  congr 1 <;> omega
theorem mvC_take {ms : List Mv} (h : mvC ms = 0) (k : Nat) : mvC (ms.take k) = 0 := by
  obtain ⟨h1, h2⟩ := mvC_zero h
  refine mvC_ok ?_ (by rw [List.length_take]; omega)
  rw [List.all_eq_true] at h1 ⊢
  exact fun x hx => h1 x (List.mem_of_mem_take hx)
theorem mvC_drop {ms : List Mv} (h : mvC ms = 0) (k : Nat) : mvC (ms.drop k) = 0 := by
  obtain ⟨h1, h2⟩ := mvC_zero h
  refine mvC_ok ?_ (by rw [List.length_drop]; omega)
  rw [List.all_eq_true] at h1 ⊢
  exact fun x hx => h1 x (List.mem_of_mem_drop hx)
theorem mvS_of {L : Int} {xs ys : List Int} {a c : Int} {ms : List Mv} (h1 : rlB L xs ys = true) (h2 : sgB a c = true) (h3 : mvC ms = 0) : mvS L xs ys a c ms = 0 := by
  unfold mvS; rw [h1, h2, if_neg (by simp)]; exact h3
theorem jyRun_sg (xs ys : List Int) : ∀ (l : List Mv) (j : Jy), sgB j.a j.c = true → sgB (jyRun xs ys j l).1.a (jyRun xs ys j l).1.c = true
  | [], j, h => h
  | m :: r, j, h => by
    rcases mvO_tf xs ys m j.a j.c with ho | ho
    · rw [jyRun_yes ho]; exact jyRun_sg xs ys r _ (mvO_sg ho)
    · rw [jyRun_no ho]; exact h
/-- Moves in two parts. -/
theorem jy_parts {xs ys : List Int} {a c : Int} {ms : List Mv} {J : Jy} (h : jyRun xs ys (jy0 a c) ms = (J, true)) (hs : sgB a c = true) (k : Nat) :
    ∃ H D : Jy, jyRun xs ys (jy0 a c) (ms.take k) = (H, true) ∧ sgB H.a H.c = true ∧ jyRun xs ys (jy0 H.a H.c) (ms.drop k) = (D, true) ∧ D.a = J.a ∧ D.c = J.c ∧ H.u + D.u = J.u ∧ H.v + D.v = J.v := by
  have h1 := jyRun_app xs ys (ms.take k) (jy0 a c) (ms.drop k)
  rw [List.take_append_drop, h] at h1
  have h3 := jyRun_sg xs ys (ms.take k) (jy0 a c) hs
  generalize hR : jyRun xs ys (jy0 a c) (ms.take k) = R at *
  obtain ⟨H, b⟩ := R
  cases b
  · rw [if_neg (by simp)] at h1; cases h1
  · rw [if_pos rfl] at h1
    have h2 := jyRun_shift xs ys H.n H.u H.v (ms.drop k) (jy0 H.a H.c)
    rw [← jyS_of H] at h2
    simp only at h1 h3
    rw [← h1] at h2
    generalize hD : jyRun xs ys (jy0 H.a H.c) (ms.drop k) = D at *
    obtain ⟨D, b⟩ := D
    simp only at h2
    have e1 : J = jyS D H.n H.u H.v := congrArg Prod.fst h2
    have e2 : true = b := congrArg Prod.snd h2
    subst e2
    refine ⟨H, D, rfl, h3, hD, ?_, ?_, ?_, ?_⟩
    · rw [e1]; rfl
    · rw [e1]; rfl
    · rw [e1]; show _ = D.u + H.u; omega
    · rw [e1]; show _ = D.v + H.v; omega
/-- The first impossible move. -/
theorem jy_stop (xs ys : List Int) : ∀ (ms : List Mv) (j J : Jy), jyRun xs ys j ms = (J, false) → ∃ k : Nat, k < ms.length ∧ J.n = j.n + k ∧ jyRun xs ys j (ms.take k) = (J, true) ∧ jyRun xs ys j (ms.take (k + 1)) = (J, false)
  | [], j, J, h => by rw [jyRun_nil] at h; cases h
  | m :: r, j, J, h => by
    rcases mvO_tf xs ys m j.a j.c with ho | ho
    · rw [jyRun_yes ho] at h
      obtain ⟨k, h1, h2, h3, h4⟩ := jy_stop xs ys r _ J h
      refine ⟨k + 1, by simp; omega, ?_, ?_, ?_⟩
      · rw [h2]; show j.n + 1 + _ = _; omega
      · rw [List.take_succ_cons, jyRun_yes ho]; exact h3
      · rw [List.take_succ_cons, jyRun_yes ho]; exact h4
    · rw [jyRun_no ho] at h
      have e : j = J := congrArg Prod.fst h
      subst e
      exact ⟨0, by simp, by simp, by rw [List.take_zero]; rfl, by rw [List.take_succ_cons, jyRun_no ho]⟩
end Go.Proofs.YtefhhigcplemaaaDoor
