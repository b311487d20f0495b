/- Contracts of chapter 11: the model's codes, readings and settings. -/
import Derived.Test.YtddcdodbmbmdnaaDoorC11k
namespace Go.Proofs.YtddcdodbmbmdnaaDoor
open Go.RowKit
set_option linter.unusedVariables false
set_option linter.unusedSimpArgs false

theorem ret_sg11 (a b c : Int) (x : (Int × Int) × Int) (h : x = ((a, b), c)) : Ending.returned (.tuple #[.agg #[.int .i64 a, .int .i64 b], .int .i64 c]) = .returned (.tuple #[.agg #[.int .i64 x.1.1, .int .i64 x.1.2], .int .i64 x.2]) := by rw [h]
set_option maxHeartbeats 1000000 in
theorem code11_spec (b : Bool) (a q s : Int) (L : Int) (A B : Option Addr) (n c m d : Nat) (xs ys : List Int) (w : World) (hx : xs.length = n) (hy : ys.length = m) (hn : n ≤ 16777216) (hm : m ≤ 16777216) (hnc : n ≤ c) (hmd : m ≤ d) (hX : Reads w w.heap.size A (xs.map vi)) (hY : Reads w w.heap.size B (ys.map vi)) :
    Calls Tryd.prog 38 #[.agg #[.int .i64 L, .slice A n c, .slice B m d], .agg #[.int .i64 (a), .int .i64 (q)], .bool b, .int .i64 s] w fun e w' => e = .returned (.int .i64 (rcd L xs ys a q b s)) ∧ Gr w w' := by
  have HR := Lib.hid (fun W h h' => rule_spec L A B n c m d xs ys W hx hy hn hm hnc hmd h h')
  have HS := Lib.hid (fun W => setting_spec a q W)
  have HO := Lib.hid (fun W => on_spec b L A B n c m d xs ys W)
  have HA := Lib.hid (fun W h => has_spec A n c xs s W hx hn h)
  have HB := Lib.hid (fun W h => has_spec B m d ys s W hy hm h)
  have RX := Lib.hid hX
  have RY := Lib.hid hY
  clear hx hy hX hY
  rcases rcd_cases L xs ys a q b s with ⟨h, e⟩ | ⟨h, h2, e⟩ | ⟨h, h2, h3, e⟩ | ⟨h, h2, h3, e⟩
  · rw [e]
    rw [h] at HR
    clear h e
    go_enter Tryd.func38, Tryd.ntmps38
    go_wp2_with (go_at_call 55; (with_reducible refine (HR.out _ (RX.out.gr (by repeat (first | with_reducible exact Gr.refl _ | with_reducible refine Gr.alloc ?_ _ | with_reducible refine Gr.gr ?_ _ _ | with_reducible refine Gr.drew ?_ | with_reducible refine Gr.drewN ?_ _))) (RY.out.gr (by repeat (first | with_reducible exact Gr.refl _ | with_reducible refine Gr.alloc ?_ _ | with_reducible refine Gr.gr ?_ _ _ | with_reducible refine Gr.drew ?_ | with_reducible refine Gr.drewN ?_ _)))).mono ?_); rintro e w' ⟨rfl, k, os, rfl⟩)
    go_ret
    exact ⟨rfl, (by repeat (first | with_reducible exact Gr.refl _ | with_reducible refine Gr.alloc ?_ _ | with_reducible refine Gr.gr ?_ _ _ | with_reducible refine Gr.drew ?_ | with_reducible refine Gr.drewN ?_ _))⟩
  · rw [e]
    rw [h] at HR
    rw [h2] at HS
    clear h h2 e
    go_enter Tryd.func38, Tryd.ntmps38
    go_wp2_with (first | (go_at_call 55; (with_reducible refine (HR.out _ (RX.out.gr (by repeat (first | with_reducible exact Gr.refl _ | with_reducible refine Gr.alloc ?_ _ | with_reducible refine Gr.gr ?_ _ _ | with_reducible refine Gr.drew ?_ | with_reducible refine Gr.drewN ?_ _))) (RY.out.gr (by repeat (first | with_reducible exact Gr.refl _ | with_reducible refine Gr.alloc ?_ _ | with_reducible refine Gr.gr ?_ _ _ | with_reducible refine Gr.drew ?_ | with_reducible refine Gr.drewN ?_ _)))).mono ?_); rintro e w' ⟨rfl, k, os, rfl⟩) | (go_at_call 74; (with_reducible refine (HS.out _).mono ?_); rintro e w' ⟨rfl, k2, os2, rfl⟩))
    go_ret
    exact ⟨rfl, (by repeat (first | with_reducible exact Gr.refl _ | with_reducible refine Gr.alloc ?_ _ | with_reducible refine Gr.gr ?_ _ _ | with_reducible refine Gr.drew ?_ | with_reducible refine Gr.drewN ?_ _))⟩
  · rw [e]
    rw [h] at HR
    rw [h2] at HS
    clear h h2 e
    cases b
    · rw [onP_f] at h3
      rw [h3] at HA
      clear h3
      go_enter Tryd.func38, Tryd.ntmps38
      go_wp2_with (first | (go_at_call 55; (with_reducible refine (HR.out _ (RX.out.gr (by repeat (first | with_reducible exact Gr.refl _ | with_reducible refine Gr.alloc ?_ _ | with_reducible refine Gr.gr ?_ _ _ | with_reducible refine Gr.drew ?_ | with_reducible refine Gr.drewN ?_ _))) (RY.out.gr (by repeat (first | with_reducible exact Gr.refl _ | with_reducible refine Gr.alloc ?_ _ | with_reducible refine Gr.gr ?_ _ _ | with_reducible refine Gr.drew ?_ | with_reducible refine Gr.drewN ?_ _)))).mono ?_); rintro e w' ⟨rfl, k, os, rfl⟩) | (go_at_call 74; (with_reducible refine (HS.out _).mono ?_); rintro e w' ⟨rfl, k2, os2, rfl⟩) | (go_at_call 76; (with_reducible refine (HO.out _).mono ?_); rintro e w' ⟨rfl, k3, os3, rfl⟩) | (go_at_call 75; (with_reducible refine (HA.out _ (RX.out.gr (by repeat (first | with_reducible exact Gr.refl _ | with_reducible refine Gr.alloc ?_ _ | with_reducible refine Gr.gr ?_ _ _ | with_reducible refine Gr.drew ?_ | with_reducible refine Gr.drewN ?_ _)))).mono ?_); rintro e w' ⟨rfl, rfl⟩))
      go_ret
      exact ⟨rfl, (by repeat (first | with_reducible exact Gr.refl _ | with_reducible refine Gr.alloc ?_ _ | with_reducible refine Gr.gr ?_ _ _ | with_reducible refine Gr.drew ?_ | with_reducible refine Gr.drewN ?_ _))⟩
    · rw [onP_t] at h3
      rw [h3] at HB
      clear h3
      go_enter Tryd.func38, Tryd.ntmps38
      go_wp2_with (first | (go_at_call 55; (with_reducible refine (HR.out _ (RX.out.gr (by repeat (first | with_reducible exact Gr.refl _ | with_reducible refine Gr.alloc ?_ _ | with_reducible refine Gr.gr ?_ _ _ | with_reducible refine Gr.drew ?_ | with_reducible refine Gr.drewN ?_ _))) (RY.out.gr (by repeat (first | with_reducible exact Gr.refl _ | with_reducible refine Gr.alloc ?_ _ | with_reducible refine Gr.gr ?_ _ _ | with_reducible refine Gr.drew ?_ | with_reducible refine Gr.drewN ?_ _)))).mono ?_); rintro e w' ⟨rfl, k, os, rfl⟩) | (go_at_call 74; (with_reducible refine (HS.out _).mono ?_); rintro e w' ⟨rfl, k2, os2, rfl⟩) | (go_at_call 76; (with_reducible refine (HO.out _).mono ?_); rintro e w' ⟨rfl, k3, os3, rfl⟩) | (go_at_call 75; (with_reducible refine (HB.out _ (RY.out.gr (by repeat (first | with_reducible exact Gr.refl _ | with_reducible refine Gr.alloc ?_ _ | with_reducible refine Gr.gr ?_ _ _ | with_reducible refine Gr.drew ?_ | with_reducible refine Gr.drewN ?_ _)))).mono ?_); rintro e w' ⟨rfl, rfl⟩))
      go_ret
      exact ⟨rfl, (by repeat (first | with_reducible exact Gr.refl _ | with_reducible refine Gr.alloc ?_ _ | with_reducible refine Gr.gr ?_ _ _ | with_reducible refine Gr.drew ?_ | with_reducible refine Gr.drewN ?_ _))⟩
  · rw [e]
    rw [h] at HR
    rw [h2] at HS
    clear h h2 e
    cases b
    · rw [onP_f] at h3
      rw [h3] at HA
      clear h3
      go_enter Tryd.func38, Tryd.ntmps38
      go_wp2_with (first | (go_at_call 55; (with_reducible refine (HR.out _ (RX.out.gr (by repeat (first | with_reducible exact Gr.refl _ | with_reducible refine Gr.alloc ?_ _ | with_reducible refine Gr.gr ?_ _ _ | with_reducible refine Gr.drew ?_ | with_reducible refine Gr.drewN ?_ _))) (RY.out.gr (by repeat (first | with_reducible exact Gr.refl _ | with_reducible refine Gr.alloc ?_ _ | with_reducible refine Gr.gr ?_ _ _ | with_reducible refine Gr.drew ?_ | with_reducible refine Gr.drewN ?_ _)))).mono ?_); rintro e w' ⟨rfl, k, os, rfl⟩) | (go_at_call 74; (with_reducible refine (HS.out _).mono ?_); rintro e w' ⟨rfl, k2, os2, rfl⟩) | (go_at_call 76; (with_reducible refine (HO.out _).mono ?_); rintro e w' ⟨rfl, k3, os3, rfl⟩) | (go_at_call 75; (with_reducible refine (HA.out _ (RX.out.gr (by repeat (first | with_reducible exact Gr.refl _ | with_reducible refine Gr.alloc ?_ _ | with_reducible refine Gr.gr ?_ _ _ | with_reducible refine Gr.drew ?_ | with_reducible refine Gr.drewN ?_ _)))).mono ?_); rintro e w' ⟨rfl, rfl⟩))
      go_ret
      exact ⟨rfl, (by repeat (first | with_reducible exact Gr.refl _ | with_reducible refine Gr.alloc ?_ _ | with_reducible refine Gr.gr ?_ _ _ | with_reducible refine Gr.drew ?_ | with_reducible refine Gr.drewN ?_ _))⟩
    · rw [onP_t] at h3
      rw [h3] at HB
      clear h3
      go_enter Tryd.func38, Tryd.ntmps38
      go_wp2_with (first | (go_at_call 55; (with_reducible refine (HR.out _ (RX.out.gr (by repeat (first | with_reducible exact Gr.refl _ | with_reducible refine Gr.alloc ?_ _ | with_reducible refine Gr.gr ?_ _ _ | with_reducible refine Gr.drew ?_ | with_reducible refine Gr.drewN ?_ _))) (RY.out.gr (by repeat (first | with_reducible exact Gr.refl _ | with_reducible refine Gr.alloc ?_ _ | with_reducible refine Gr.gr ?_ _ _ | with_reducible refine Gr.drew ?_ | with_reducible refine Gr.drewN ?_ _)))).mono ?_); rintro e w' ⟨rfl, k, os, rfl⟩) | (go_at_call 74; (with_reducible refine (HS.out _).mono ?_); rintro e w' ⟨rfl, k2, os2, rfl⟩) | (go_at_call 76; (with_reducible refine (HO.out _).mono ?_); rintro e w' ⟨rfl, k3, os3, rfl⟩) | (go_at_call 75; (with_reducible refine (HB.out _ (RY.out.gr (by repeat (first | with_reducible exact Gr.refl _ | with_reducible refine Gr.alloc ?_ _ | with_reducible refine Gr.gr ?_ _ _ | with_reducible refine Gr.drew ?_ | with_reducible refine Gr.drewN ?_ _)))).mono ?_); rintro e w' ⟨rfl, rfl⟩))
      go_ret
      exact ⟨rfl, (by repeat (first | with_reducible exact Gr.refl _ | with_reducible refine Gr.alloc ?_ _ | with_reducible refine Gr.gr ?_ _ _ | with_reducible refine Gr.drew ?_ | with_reducible refine Gr.drewN ?_ _))⟩

theorem rcd_stock {L : Int} {xs ys : List Int} {a q : Int} {b : Bool} {s : Int} (h : rcd L xs ys a q b s = 0) : sgB a q = true ∧ lsc s = true := by
  rcases rcd_cases L xs ys a q b s with ⟨-, e⟩ | ⟨-, -, e⟩ | ⟨-, -, -, e⟩ | ⟨h1, h2, h3, -⟩
  · omega
  · omega
  · omega
  · exact ⟨h2, onP_mem h1 h3⟩
set_option maxHeartbeats 1000000 in
theorem rstock_spec (a q s : Int) (L : Int) (A B : Option Addr) (n c m d : Nat) (xs ys : List Int) (w : World) (hx : xs.length = n) (hy : ys.length = m) (hn : n ≤ 16777216) (hm : m ≤ 16777216) (hnc : n ≤ c) (hmd : m ≤ d) (hX : Reads w w.heap.size A (xs.map vi)) (hY : Reads w w.heap.size B (ys.map vi)) :
    Calls Tryd.prog 14 #[.agg #[.int .i64 L, .slice A n c, .slice B m d], .agg #[.int .i64 (a), .int .i64 (q)], .int .i64 s] w fun e w' => e = .returned (.tuple #[.agg #[.int .i64 (rfR L xs ys a q false s).1.1, .int .i64 (rfR L xs ys a q false s).1.2], .int .i64 (rfR L xs ys a q false s).2]) ∧ Gr w w' := by
  have HC := Lib.hid (fun W h h' => code11_spec false a q s L A B n c m d xs ys W hx hy hn hm hnc hmd h h')
  have RX := Lib.hid hX
  have RY := Lib.hid hY
  clear hx hy hX hY
  have hok := rfR_ok L xs ys a q false s
  have hno := rfR_no L xs ys a q false s
  have hcs := rfC_cases L xs ys a q false s
  rw [stP_f, Int.sub_zero] at hok hcs
  by_cases h : rcd L xs ys a q false s = 0
  · obtain ⟨h1, h2⟩ := rcd_stock h
    have h3 := (sgB_iff a q).1 h1
    have H := Lib.hid (show rfR L xs ys a q false s = ((gD (rdN s q), gT (rdN s q)), 0) from by
      rcases hcs with ⟨e, -⟩ | ⟨-, e, -⟩ | ⟨-, -, e⟩
      · exact absurd h e
      · rw [(abv_iff q).2 h3.2] at e; cases e
      · exact hok e)
    have HR := Lib.hid (fun W => read11_spec s q W h2 (by omega))
    rw [h] at HC
    generalize rfR L xs ys a q false s = R at *
    generalize gD (rdN s q) = x at *
    generalize gT (rdN s q) = y at *
    clear hok hno hcs h h1 h2 h3
    go_enter Tryd.func14, Tryd.ntmps14
    go_wp2_with (first | (go_at_call 38; (with_reducible refine (HC.out _ (RX.out.gr (by repeat (first | with_reducible exact Gr.refl _ | with_reducible refine Gr.alloc ?_ _ | with_reducible refine Gr.gr ?_ _ _ | with_reducible refine Gr.drew ?_ | with_reducible refine Gr.drewN ?_ _))) (RY.out.gr (by repeat (first | with_reducible exact Gr.refl _ | with_reducible refine Gr.alloc ?_ _ | with_reducible refine Gr.gr ?_ _ _ | with_reducible refine Gr.drew ?_ | with_reducible refine Gr.drewN ?_ _)))).mono ?_); rintro e w' ⟨rfl, k, os, rfl⟩) | (go_at_call 39; (with_reducible refine (HR.out _).mono ?_); rintro e w' ⟨rfl, k2, os2, rfl⟩))
    ((try simp only [Exit.inBlock, Exit.then]); refine bodyPost_ret (v := .tuple #[.agg #[.int .i64 x, .int .i64 y], .int .i64 0]) (by simp [results, Tryd.results14, go_sem]) rfl ?_)
    exact ⟨ret_sg11 _ _ _ _ H.out, (by repeat (first | with_reducible exact Gr.refl _ | with_reducible refine Gr.alloc ?_ _ | with_reducible refine Gr.gr ?_ _ _ | with_reducible refine Gr.drew ?_ | with_reducible refine Gr.drewN ?_ _))⟩
  · have H := Lib.hid (show rfR L xs ys a q false s = ((0, 0), rcd L xs ys a q false s) from by
      rcases hcs with ⟨-, e⟩ | ⟨e, -⟩ | ⟨e, -⟩
      · rw [hno (by omega), e]
      · exact absurd e h
      · exact absurd e h)
    have hb : (rcd L xs ys a q false s == 0) = false := by simpa using h
    generalize rfR L xs ys a q false s = R at *
    generalize rcd L xs ys a q false s = z at *
    clear hok hno hcs h
    go_enter Tryd.func14, Tryd.ntmps14
    go_wp2_with (go_at_call 38; (with_reducible refine (HC.out _ (RX.out.gr (by repeat (first | with_reducible exact Gr.refl _ | with_reducible refine Gr.alloc ?_ _ | with_reducible refine Gr.gr ?_ _ _ | with_reducible refine Gr.drew ?_ | with_reducible refine Gr.drewN ?_ _))) (RY.out.gr (by repeat (first | with_reducible exact Gr.refl _ | with_reducible refine Gr.alloc ?_ _ | with_reducible refine Gr.gr ?_ _ _ | with_reducible refine Gr.drew ?_ | with_reducible refine Gr.drewN ?_ _)))).mono ?_); rintro e w' ⟨rfl, k, os, rfl⟩)
    ((try simp only [Exit.inBlock, Exit.then]); refine bodyPost_ret (v := .tuple #[.agg #[.int .i64 0, .int .i64 0], .int .i64 z]) (by simp [results, Tryd.results14, go_sem]) rfl ?_)
    exact ⟨ret_sg11 _ _ _ _ H.out, (by repeat (first | with_reducible exact Gr.refl _ | with_reducible refine Gr.alloc ?_ _ | with_reducible refine Gr.gr ?_ _ _ | with_reducible refine Gr.drew ?_ | with_reducible refine Gr.drewN ?_ _))⟩
set_option maxHeartbeats 1000000 in
theorem rslide_spec (a q s : Int) (L : Int) (A B : Option Addr) (n c m d : Nat) (xs ys : List Int) (w : World) (hx : xs.length = n) (hy : ys.length = m) (hn : n ≤ 16777216) (hm : m ≤ 16777216) (hnc : n ≤ c) (hmd : m ≤ d) (hX : Reads w w.heap.size A (xs.map vi)) (hY : Reads w w.heap.size B (ys.map vi)) :
    Calls Tryd.prog 20 #[.agg #[.int .i64 L, .slice A n c, .slice B m d], .agg #[.int .i64 (a), .int .i64 (q)], .int .i64 s] w fun e w' => e = .returned (.tuple #[.agg #[.int .i64 (rfR L xs ys a q true s).1.1, .int .i64 (rfR L xs ys a q true s).1.2], .int .i64 (rfR L xs ys a q true s).2]) ∧ Gr w w' := by
  have HC := Lib.hid (fun W h h' => code11_spec true a q s L A B n c m d xs ys W hx hy hn hm hnc hmd h h')
  have RX := Lib.hid hX
  have RY := Lib.hid hY
  clear hx hy hX hY
  have hok := rfR_ok L xs ys a q true s
  have hno := rfR_no L xs ys a q true s
  have hcs := rfC_cases L xs ys a q true s
  rw [stP_t] at hok hcs
  by_cases h : rcd L xs ys a q true s = 0
  · obtain ⟨h1, h2⟩ := rcd_stock h
    have h3 := (sgB_iff a q).1 h1
    have HI := Lib.hid (fun W => in_any (q - a) 0 1048576 W)
    rw [show decide (0 ≤ q - a ∧ q - a ≤ 1048576) = abv (q - a) from rfl] at HI
    have hw : IntKind.i64.wrap (q - a) = q - a := IntWalk.i64_in _ (by omega)
    rcases abv_tf (q - a) with hv | hv
    · have hv' := (abv_iff _).1 hv
      have H := Lib.hid (show rfR L xs ys a q true s = ((gD (rdN s (q - a)), gT (rdN s (q - a))), 0) from by
        rcases hcs with ⟨e, -⟩ | ⟨-, e, -⟩ | ⟨-, -, e⟩
        · exact absurd h e
        · rw [hv] at e; cases e
        · exact hok e)
      have HR := Lib.hid (fun W => read11_spec s (q - a) W h2 (by omega))
      rw [h] at HC
      rw [hv] at HI
      generalize rfR L xs ys a q true s = R at *
      generalize gD (rdN s (q - a)) = x at *
      generalize gT (rdN s (q - a)) = y at *
      clear hok hno hcs h h1 h2 hv hv'
      go_enter Tryd.func20, Tryd.ntmps20
      go_wp2_with (first | (go_at_call 38; (with_reducible refine (HC.out _ (RX.out.gr (by repeat (first | with_reducible exact Gr.refl _ | with_reducible refine Gr.alloc ?_ _ | with_reducible refine Gr.gr ?_ _ _ | with_reducible refine Gr.drew ?_ | with_reducible refine Gr.drewN ?_ _))) (RY.out.gr (by repeat (first | with_reducible exact Gr.refl _ | with_reducible refine Gr.alloc ?_ _ | with_reducible refine Gr.gr ?_ _ _ | with_reducible refine Gr.drew ?_ | with_reducible refine Gr.drewN ?_ _)))).mono ?_); rintro e w' ⟨rfl, k, os, rfl⟩) | (go_at_call 44; (with_reducible refine (HI.out _).mono ?_); rintro e w' ⟨rfl, rfl⟩) | (go_at_call 39; (with_reducible refine (HR.out _).mono ?_); rintro e w' ⟨rfl, k2, os2, rfl⟩))
      ((try simp only [Exit.inBlock, Exit.then]); refine bodyPost_ret (v := .tuple #[.agg #[.int .i64 x, .int .i64 y], .int .i64 0]) (by simp [results, Tryd.results20, go_sem]) rfl ?_)
      exact ⟨ret_sg11 _ _ _ _ H.out, (by repeat (first | with_reducible exact Gr.refl _ | with_reducible refine Gr.alloc ?_ _ | with_reducible refine Gr.gr ?_ _ _ | with_reducible refine Gr.drew ?_ | with_reducible refine Gr.drewN ?_ _))⟩
    · have H := Lib.hid (show rfR L xs ys a q true s = ((0, 0), 5) from by
        rcases hcs with ⟨e, -⟩ | ⟨-, -, e⟩ | ⟨-, e, -⟩
        · exact absurd h e
        · rw [hno (by omega), e]
        · rw [hv] at e; cases e)
      rw [h] at HC
      rw [hv] at HI
      generalize rfR L xs ys a q true s = R at *
      clear hok hno hcs h h1 h2 hv
      go_enter Tryd.func20, Tryd.ntmps20
      go_wp2_with (first | (go_at_call 38; (with_reducible refine (HC.out _ (RX.out.gr (by repeat (first | with_reducible exact Gr.refl _ | with_reducible refine Gr.alloc ?_ _ | with_reducible refine Gr.gr ?_ _ _ | with_reducible refine Gr.drew ?_ | with_reducible refine Gr.drewN ?_ _))) (RY.out.gr (by repeat (first | with_reducible exact Gr.refl _ | with_reducible refine Gr.alloc ?_ _ | with_reducible refine Gr.gr ?_ _ _ | with_reducible refine Gr.drew ?_ | with_reducible refine Gr.drewN ?_ _)))).mono ?_); rintro e w' ⟨rfl, k, os, rfl⟩) | (go_at_call 44; (with_reducible refine (HI.out _).mono ?_); rintro e w' ⟨rfl, rfl⟩))
      ((try simp only [Exit.inBlock, Exit.then]); refine bodyPost_ret (v := .tuple #[.agg #[.int .i64 0, .int .i64 0], .int .i64 5]) (by simp [results, Tryd.results20, go_sem]) rfl ?_)
      exact ⟨ret_sg11 _ _ _ _ H.out, (by repeat (first | with_reducible exact Gr.refl _ | with_reducible refine Gr.alloc ?_ _ | with_reducible refine Gr.gr ?_ _ _ | with_reducible refine Gr.drew ?_ | with_reducible refine Gr.drewN ?_ _))⟩
  · have H := Lib.hid (show rfR L xs ys a q true s = ((0, 0), rcd L xs ys a q true s) from by
      rcases hcs with ⟨-, e⟩ | ⟨e, -⟩ | ⟨e, -⟩
      · rw [hno (by omega), e]
      · exact absurd e h
      · exact absurd e h)
    have hb : (rcd L xs ys a q true s == 0) = false := by simpa using h
    generalize rfR L xs ys a q true s = R at *
    generalize rcd L xs ys a q true s = z at *
    clear hok hno hcs h
    go_enter Tryd.func20, Tryd.ntmps20
    go_wp2_with (go_at_call 38; (with_reducible refine (HC.out _ (RX.out.gr (by repeat (first | with_reducible exact Gr.refl _ | with_reducible refine Gr.alloc ?_ _ | with_reducible refine Gr.gr ?_ _ _ | with_reducible refine Gr.drew ?_ | with_reducible refine Gr.drewN ?_ _))) (RY.out.gr (by repeat (first | with_reducible exact Gr.refl _ | with_reducible refine Gr.alloc ?_ _ | with_reducible refine Gr.gr ?_ _ _ | with_reducible refine Gr.drew ?_ | with_reducible refine Gr.drewN ?_ _)))).mono ?_); rintro e w' ⟨rfl, k, os, rfl⟩)
    ((try simp only [Exit.inBlock, Exit.then]); refine bodyPost_ret (v := .tuple #[.agg #[.int .i64 0, .int .i64 0], .int .i64 z]) (by simp [results, Tryd.results20, go_sem]) rfl ?_)
    exact ⟨ret_sg11 _ _ _ _ H.out, (by repeat (first | with_reducible exact Gr.refl _ | with_reducible refine Gr.alloc ?_ _ | with_reducible refine Gr.gr ?_ _ _ | with_reducible refine Gr.drew ?_ | with_reducible refine Gr.drewN ?_ _))⟩

theorem result11_spec (a q : Int) (w : World) :
    Calls Tryd.prog 47 #[.agg #[.int .i64 (a), .int .i64 (q)]] w fun e w' => e = .returned (.tuple #[.agg #[.int .i64 (rsS a q).1.1, .int .i64 (rsS a q).1.2], .int .i64 (rsS a q).2]) ∧ Gr w w' := by
  have HS := Lib.hid (fun W => setting_spec a q W)
  rcases sgB_tf a q with h | h
  · have H := Lib.hid (rsS_ok a q h)
    rw [h] at HS
    generalize rsS a q = R at *
    clear h
    go_enter Tryd.func47, Tryd.ntmps47
    go_wp2_with (go_at_call 74; (with_reducible refine (HS.out _).mono ?_); rintro e w' ⟨rfl, k, os, rfl⟩)
    ((try simp only [Exit.inBlock, Exit.then]); refine bodyPost_ret (v := .tuple #[.agg #[.int .i64 a, .int .i64 q], .int .i64 0]) (by simp [results, Tryd.results47, go_sem]) rfl ?_)
    exact ⟨ret_sg11 _ _ _ _ H.out, (by repeat (first | with_reducible exact Gr.refl _ | with_reducible refine Gr.alloc ?_ _ | with_reducible refine Gr.gr ?_ _ _ | with_reducible refine Gr.drew ?_ | with_reducible refine Gr.drewN ?_ _))⟩
  · have H := Lib.hid (rsS_no a q h)
    rw [h] at HS
    generalize rsS a q = R at *
    clear h
    go_enter Tryd.func47, Tryd.ntmps47
    go_wp2_with (go_at_call 74; (with_reducible refine (HS.out _).mono ?_); rintro e w' ⟨rfl, k, os, rfl⟩)
    ((try simp only [Exit.inBlock, Exit.then]); refine bodyPost_ret (v := .tuple #[.agg #[.int .i64 0, .int .i64 0], .int .i64 5]) (by simp [results, Tryd.results47, go_sem]) rfl ?_)
    exact ⟨ret_sg11 _ _ _ _ H.out, (by repeat (first | with_reducible exact Gr.refl _ | with_reducible refine Gr.alloc ?_ _ | with_reducible refine Gr.gr ?_ _ _ | with_reducible refine Gr.drew ?_ | with_reducible refine Gr.drewN ?_ _))⟩
theorem cursor11_spec (a q : Int) (b : Bool) (s u t : Int) (w : World) (hf : fg u t = true) (hs : sc s = true) (ha : -1048576 ≤ a ∧ a ≤ 1048576) :
    Calls Tryd.prog 48 #[.agg #[.int .i64 (a), .int .i64 (q)], .bool b, .int .i64 s, .agg #[.int .i64 u, .int .i64 t]] w fun e w' => e = .returned (.agg #[.int .i64 (a), .int .i64 (stP b a + pnt s u t)]) ∧ Gr w w' := by
  have HP := Lib.hid (fun W => point_spec s u t W hf hs)
  have bp := pnt_bd s u t hf
  generalize pnt s u t = x at *
  obtain ⟨a1, a2⟩ := ha
  obtain ⟨x1, x2⟩ := bp
  cases b
  · rw [stP_f, Int.zero_add]
    go_enter Tryd.func48, Tryd.ntmps48
    go_wp2_with (go_at_call 34; (with_reducible refine (HP.out _).mono ?_); rintro e w' ⟨rfl, k, os, rfl⟩)
    ((try simp only [Exit.inBlock, Exit.then]); refine bodyPost_ret (v := .agg #[.int .i64 (a), .int .i64 (x)]) (by simp [results, Tryd.results48, go_sem]) rfl ?_)
    exact ⟨rfl, (by repeat (first | with_reducible exact Gr.refl _ | with_reducible refine Gr.alloc ?_ _ | with_reducible refine Gr.gr ?_ _ _ | with_reducible refine Gr.drew ?_ | with_reducible refine Gr.drewN ?_ _))⟩
  · rw [stP_t]
    go_enter Tryd.func48, Tryd.ntmps48
    go_wp2_with (go_at_call 34; (with_reducible refine (HP.out _).mono ?_); rintro e w' ⟨rfl, k, os, rfl⟩)
    ((try simp only [Exit.inBlock, Exit.then]); refine bodyPost_ret (v := .agg #[.int .i64 (a), .int .i64 (x + a)]) (by simp [results, Tryd.results48, go_sem]) rfl ?_)
    exact ⟨ret_agg rfl (Int.add_comm _ _), (by repeat (first | with_reducible exact Gr.refl _ | with_reducible refine Gr.alloc ?_ _ | with_reducible refine Gr.gr ?_ _ _ | with_reducible refine Gr.drew ?_ | with_reducible refine Gr.drewN ?_ _))⟩

set_option maxHeartbeats 1000000 in
theorem scursor_spec (b : Bool) (a q s u t : Int) (L : Int) (A B : Option Addr) (n c m d : Nat) (xs ys : List Int) (w : World) (hx : xs.length = n) (hy : ys.length = m) (hn : n ≤ 16777216) (hm : m ≤ 16777216) (hnc : n ≤ c) (hmd : m ≤ d) (hX : Reads w w.heap.size A (xs.map vi)) (hY : Reads w w.heap.size B (ys.map vi)) :
    Calls Tryd.prog 22 #[.agg #[.int .i64 L, .slice A n c, .slice B m d], .agg #[.int .i64 (a), .int .i64 (q)], .bool b, .int .i64 s, .agg #[.int .i64 u, .int .i64 t]] w fun e w' => e = .returned (.tuple #[.agg #[.int .i64 (cuR L xs ys a q b s u t).1.1, .int .i64 (cuR L xs ys a q b s u t).1.2], .int .i64 (cuR L xs ys a q b s u t).2]) ∧ Gr w w' := by
  have HC := Lib.hid (fun W h h' => code11_spec b a q s L A B n c m d xs ys W hx hy hn hm hnc hmd h h')
  have HF := Lib.hid (fun W => isFigure_spec u t W)
  have RX := Lib.hid hX
  have RY := Lib.hid hY
  clear hx hy hX hY
  have hok := cuR_ok L xs ys a q b s u t
  have hno := cuR_no L xs ys a q b s u t
  rcases (show fg u t = true ∨ fg u t = false by cases fg u t <;> simp) with hf | hf
  · have hse : seC L xs ys a q b s u t = rcd L xs ys a q b s := by unfold seC; rw [if_neg (by rw [hf]; simp)]
    rw [hse] at hok hno
    rw [hf] at HF
    by_cases h : rcd L xs ys a q b s = 0
    · obtain ⟨h1, h2⟩ := rcd_stock h
      have h3 := (sgB_iff a q).1 h1
      have H := Lib.hid (hok h)
      have HCu := Lib.hid (fun W => cursor11_spec a q b s u t W hf (lsc_sc s h2) h3.1)
      have HRe := Lib.hid (fun W => result11_spec a (stP b a + pnt s u t) W)
      rw [h] at HC
      generalize cuR L xs ys a q b s u t = R at *
      generalize rsS a (stP b a + pnt s u t) = S at *
      generalize stP b a + pnt s u t = v at *
      obtain ⟨⟨S1, S2⟩, S3⟩ := S
      clear hok hno h h1 h2 h3 hf hse
      go_enter Tryd.func22, Tryd.ntmps22
      go_wp2_with (first | (go_at_call 38; (with_reducible refine (HC.out _ (RX.out.gr (by repeat (first | with_reducible exact Gr.refl _ | with_reducible refine Gr.alloc ?_ _ | with_reducible refine Gr.gr ?_ _ _ | with_reducible refine Gr.drew ?_ | with_reducible refine Gr.drewN ?_ _))) (RY.out.gr (by repeat (first | with_reducible exact Gr.refl _ | with_reducible refine Gr.alloc ?_ _ | with_reducible refine Gr.gr ?_ _ _ | with_reducible refine Gr.drew ?_ | with_reducible refine Gr.drewN ?_ _)))).mono ?_); rintro e w' ⟨rfl, k, os, rfl⟩) | (go_at_call 46; (with_reducible refine (HF.out _).mono ?_); rintro e w' ⟨rfl, k2, os2, rfl⟩) | (go_at_call 48; (with_reducible refine (HCu.out _).mono ?_); rintro e w' ⟨rfl, k3, os3, rfl⟩) | (go_at_call 47; (with_reducible refine (HRe.out _).mono ?_); rintro e w' ⟨rfl, k4, os4, rfl⟩))
      ((try simp only [Exit.inBlock, Exit.then]); refine bodyPost_ret (v := .tuple #[.agg #[.int .i64 S1, .int .i64 S2], .int .i64 S3]) (by simp [results, Tryd.results22, go_sem]) rfl ?_)
      exact ⟨ret_sg11 _ _ _ _ H.out, (by repeat (first | with_reducible exact Gr.refl _ | with_reducible refine Gr.alloc ?_ _ | with_reducible refine Gr.gr ?_ _ _ | with_reducible refine Gr.drew ?_ | with_reducible refine Gr.drewN ?_ _))⟩
    · have H := Lib.hid (hno h)
      have hb : (rcd L xs ys a q b s == 0) = false := by simpa using h
      generalize cuR L xs ys a q b s u t = R at *
      generalize rcd L xs ys a q b s = z at *
      clear hok hno h hf hse
      go_enter Tryd.func22, Tryd.ntmps22
      go_wp2_with (first | (go_at_call 38; (with_reducible refine (HC.out _ (RX.out.gr (by repeat (first | with_reducible exact Gr.refl _ | with_reducible refine Gr.alloc ?_ _ | with_reducible refine Gr.gr ?_ _ _ | with_reducible refine Gr.drew ?_ | with_reducible refine Gr.drewN ?_ _))) (RY.out.gr (by repeat (first | with_reducible exact Gr.refl _ | with_reducible refine Gr.alloc ?_ _ | with_reducible refine Gr.gr ?_ _ _ | with_reducible refine Gr.drew ?_ | with_reducible refine Gr.drewN ?_ _)))).mono ?_); rintro e w' ⟨rfl, k, os, rfl⟩) | (go_at_call 46; (with_reducible refine (HF.out _).mono ?_); rintro e w' ⟨rfl, k2, os2, rfl⟩))
      ((try simp only [Exit.inBlock, Exit.then]); refine bodyPost_ret (v := .tuple #[.agg #[.int .i64 0, .int .i64 0], .int .i64 z]) (by simp [results, Tryd.results22, go_sem]) rfl ?_)
      exact ⟨ret_sg11 _ _ _ _ H.out, (by repeat (first | with_reducible exact Gr.refl _ | with_reducible refine Gr.alloc ?_ _ | with_reducible refine Gr.gr ?_ _ _ | with_reducible refine Gr.drew ?_ | with_reducible refine Gr.drewN ?_ _))⟩
  · have hse : seC L xs ys a q b s u t = 1 := by unfold seC; rw [if_pos hf]
    have H := Lib.hid (hno (by omega))
    rw [hse] at H
    rw [hf] at HF
    generalize cuR L xs ys a q b s u t = R at *
    generalize rcd L xs ys a q b s = z at *
    clear hok hno hf hse
    go_enter Tryd.func22, Tryd.ntmps22
    go_wp2_with (first | (go_at_call 38; (with_reducible refine (HC.out _ (RX.out.gr (by repeat (first | with_reducible exact Gr.refl _ | with_reducible refine Gr.alloc ?_ _ | with_reducible refine Gr.gr ?_ _ _ | with_reducible refine Gr.drew ?_ | with_reducible refine Gr.drewN ?_ _))) (RY.out.gr (by repeat (first | with_reducible exact Gr.refl _ | with_reducible refine Gr.alloc ?_ _ | with_reducible refine Gr.gr ?_ _ _ | with_reducible refine Gr.drew ?_ | with_reducible refine Gr.drewN ?_ _)))).mono ?_); rintro e w' ⟨rfl, k, os, rfl⟩) | (go_at_call 46; (with_reducible refine (HF.out _).mono ?_); rintro e w' ⟨rfl, k2, os2, rfl⟩))
    ((try simp only [Exit.inBlock, Exit.then]); refine bodyPost_ret (v := .tuple #[.agg #[.int .i64 0, .int .i64 0], .int .i64 1]) (by simp [results, Tryd.results22, go_sem]) rfl ?_)
    exact ⟨ret_sg11 _ _ _ _ H.out, (by repeat (first | with_reducible exact Gr.refl _ | with_reducible refine Gr.alloc ?_ _ | with_reducible refine Gr.gr ?_ _ _ | with_reducible refine Gr.drew ?_ | with_reducible refine Gr.drewN ?_ _))⟩
end Go.Proofs.YtddcdodbmbmdnaaDoor
