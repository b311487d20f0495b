/- Contracts of chapter 11: the model's search for the nearest figure. -/
import Derived.Test.YtddcdodbmbmdnaaDoorC11d
import Derived.Test.YtddcdodbmbmdnaaDoor1A
import Derived.Test.YtddcdodbmbmdnaaDoorMm
namespace Go.Proofs.YtddcdodbmbmdnaaDoor
open Go.RowKit
set_option linter.unusedVariables false
set_option linter.unusedSimpArgs false
attribute [local go_sem high] run_imin run_imax

theorem at11_spec (n : Nat) (w : World) (hn : n < 27000) :
    Calls Tryd.prog 79 #[.int .i64 n] w fun e w' => e = .returned (.agg #[.int .i64 (gD n), .int .i64 (gT n)]) ∧ Gr w w' := by
  have e1 : (n : Int).tmod 9000 = (n : Int) % 9000 := Int.tmod_eq_emod_of_nonneg (by omega)
  have e2 : (n : Int).tdiv 9000 = (n : Int) / 9000 := Int.tdiv_eq_ediv_of_nonneg (by omega)
  have q2 : IntKind.i64.wrap (1000 + (n : Int) % 9000) = 1000 + (n : Int) % 9000 := IntWalk.i64_in _ (by omega)
  go_enter Tryd.func79, Tryd.ntmps79
  go_wp2
  ((try simp only [Exit.inBlock, Exit.then]); refine bodyPost_ret (v := .agg #[.int .i64 (1000 + (n : Int) % 9000), .int .i64 ((n : Int) / 9000)]) (by simp [results, Tryd.results79, go_sem]) rfl ?_)
  exact ⟨rfl, (by repeat (first | with_reducible exact Gr.refl _ | with_reducible refine Gr.alloc ?_ _ | with_reducible refine Gr.gr ?_ _ _ | with_reducible refine Gr.drew ?_ | with_reducible refine Gr.drewN ?_ _))⟩

/-- A position is reached. -/
def rchd (f : Nat → Int) (p : Int) (falls : Bool) (i : Nat) : Bool := if falls then decide (f i ≤ p) else decide (p ≤ f i)
theorem rchd_up {f : Nat → Int} {p : Int} {a b : Nat} {falls : Bool} (hm : ∀ i j, a ≤ i → i < j → j < b → if falls then f j < f i else f i < f j) {i j : Nat} (h1 : a ≤ i) (h2 : i ≤ j) (h3 : j < b) (h : rchd f p falls i = true) : rchd f p falls j = true := by
  rcases (show i = j ∨ i < j by omega) with rfl | g
  · exact h
  · have := hm i j h1 g h3
    unfold rchd at *
    cases falls <;> simp at * <;> omega
theorem rchd_lo {f : Nat → Int} {p : Int} {falls : Bool} {i : Nat} (h : rchd f p falls i = false) : if falls then p < f i else f i < p := by
  unfold rchd at h
  cases falls <;> simp at * <;> omega
theorem rchd_hi {f : Nat → Int} {p : Int} {falls : Bool} {i : Nat} (h : rchd f p falls i = true) : if falls then f i ≤ p else p ≤ f i := by
  unfold rchd at h
  cases falls <;> simp at * <;> omega
/-- The best of the first k numbers from st on. -/
def Bst (f : Nat → Int) (p : Int) (st k m : Nat) : Prop := st ≤ m ∧ m < st + k ∧ (∀ j, st ≤ j → j < st + k → gap p (f m) ≤ gap p (f j)) ∧ ∀ j, st ≤ j → j < m → gap p (f m) < gap p (f j)
theorem Bst.one (f : Nat → Int) (p : Int) (st : Nat) : Bst f p st 1 st := ⟨by omega, by omega, fun j h1 h2 => by rw [show j = st by omega]; exact Int.le_refl _, fun j h1 h2 => by omega⟩
theorem Bst.keep {f : Nat → Int} {p : Int} {st k m : Nat} (h : Bst f p st k m) (hg : gap p (f m) ≤ gap p (f (st + k))) : Bst f p st (k + 1) m :=
  ⟨h.1, by have := h.2.1; omega, fun j h1 h2 => by
    rcases (show j < st + k ∨ j = st + k by omega) with g | rfl
    · exact h.2.2.1 j h1 g
    · exact hg, h.2.2.2⟩
theorem Bst.new {f : Nat → Int} {p : Int} {st k m : Nat} (h : Bst f p st k m) (hg : gap p (f (st + k)) < gap p (f m)) : Bst f p st (k + 1) (st + k) :=
  ⟨by omega, by omega, fun j h1 h2 => by
    rcases (show j < st + k ∨ j = st + k by omega) with g | rfl
    · have := h.2.2.1 j h1 g; omega
    · exact Int.le_refl _, fun j h1 h2 => by have := h.2.2.1 j h1 (by omega); omega⟩

set_option maxRecDepth 100000 in
set_option maxHeartbeats 4000000 in
theorem search11_spec (s p : Int) (a b : Nat) (falls : Bool) (w : World) (hs : sc s = true) (hp : -10000000 ≤ p ∧ p ≤ 10000000) (hab : a < b) (hb : b ≤ 27000)
    (hm : ∀ i j, a ≤ i → i < j → j < b → if falls then ptN s j < ptN s i else ptN s i < ptN s j) :
    Calls Tryd.prog 77 #[.int .i64 s, .int .i64 a, .int .i64 b, .int .i64 p, .bool falls] w fun e w' => (∃ n : Nat, e = .returned (.int .i64 n) ∧ IsB (ptN s) p a b n) ∧ Gr w w' := by
  have HA := Lib.hid (fun (i : Nat) W h => at11_spec i W h)
  have HP := Lib.hid (fun (i : Nat) W (h : i < 27000) => show Calls Tryd.prog 34 #[.int .i64 s, .agg #[.int .i64 (gD i), .int .i64 (gT i)]] W (fun e w' => e = .returned (.int .i64 (ptN s i)) ∧ Gr W w') from point_spec s (gD i) (gT i) W (g_fg i h) hs)
  have HB := Lib.hid (fun (i : Nat) (h : i < 27000) => pnt_bd s (gD i) (gT i) (g_fg i h))
  have HW := Lib.hid (win_best (ptN s) p a b)
  have HM := Lib.hid hm
  obtain ⟨p1, p2⟩ := hp
  clear hm hs
  go_enter Tryd.func77, Tryd.ntmps77
  go_wp2
  go_loopw [11, 12] (fun x y wr => ∃ lo hi : Nat, x = .int .i64 ((lo : Int) - 1) ∧ y = .int .i64 hi ∧ a ≤ lo ∧ lo ≤ hi ∧ hi ≤ b ∧ Hid ((∀ t, a ≤ t → t < lo → rchd (ptN s) p falls t = false) ∧ (∀ t, hi ≤ t → t < b → rchd (ptN s) p falls t = true)) ∧ Gr w wr) (fun x y _ => (intOf y - intOf x).toNat)
  case atStart => exact ⟨a, b, rfl, rfl, by omega, by omega, by omega, Lib.hid ⟨fun t h => by omega, fun t h => by omega⟩, Gr.refl _⟩
  case round =>
    obtain ⟨lo, hi, rfl, rfl, hal, hlh, hhb, I, hG⟩ := hrel
    by_cases hlt : lo < hi
    · obtain ⟨mid, hmid⟩ : ∃ mid : Nat, mid = (lo + hi - 1) / 2 := ⟨_, rfl⟩
      have m1 : lo ≤ mid := by omega
      have m2 : mid < hi := by omega
      have em : ((lo : Int) - 1 + (hi : Int)).tdiv 2 = (mid : Int) := by
        rw [Int.tdiv_eq_ediv_of_nonneg (by omega)]; omega
      have hm27 : mid < 27000 := by omega
      have HAm := Lib.hid (fun W => HA.out mid W hm27)
      have HPm := Lib.hid (fun W => HP.out mid W hm27)
      have hbm := HB.out mid hm27
      rw [show pnt s (gD mid) (gT mid) = ptN s mid from rfl] at hbm
      have HR := Lib.hid (show rchd (ptN s) p falls mid = if falls then decide (ptN s mid ≤ p) else decide (p ≤ ptN s mid) from rfl)
      have Hlo := Lib.hid (fun (h : rchd (ptN s) p falls mid = false) => show ∀ t, a ≤ t → t < mid + 1 → rchd (ptN s) p falls t = false from fun t h1 h2 => by
        cases hc : rchd (ptN s) p falls t
        · rfl
        · have := rchd_up HM.out h1 (show t ≤ mid by omega) (by omega) hc
          rw [h] at this; cases this)
      have Hhi := Lib.hid (fun (h : rchd (ptN s) p falls mid = true) => show ∀ t, mid ≤ t → t < b → rchd (ptN s) p falls t = true from fun t h1 h2 => rchd_up HM.out (by omega) h1 h2 h)
      clear hmid
      generalize ptN s mid = v at *
      generalize rchd (ptN s) p falls mid = R at *
      generalize gD mid = gd at *
      generalize gT mid = gt at *
      cases falls
      · by_cases hc : p ≤ v
        · have hRt := Lib.hid (Hhi.out (by rw [HR.out]; simp [hc]))
          clear HR Hlo Hhi
          go_wp2_with (first | (go_at_call 79; (with_reducible refine (HAm.out _).mono ?_); rintro e w2 ⟨rfl, hg2⟩) | (go_at_call 34; (with_reducible refine (HPm.out _).mono ?_); rintro e w3 ⟨rfl, hg3⟩))
          go_roundw
          case rel => exact ⟨lo, mid, rfl, rfl, hal, m1, by omega, Lib.hid ⟨I.out.1, hRt.out⟩, (hG.trans hg2).trans hg3⟩
          case measure => simp [intOf]; omega
        · have hRt := Lib.hid (Hlo.out (by rw [HR.out]; simp [hc]))
          clear HR Hlo Hhi
          go_wp2_with (first | (go_at_call 79; (with_reducible refine (HAm.out _).mono ?_); rintro e w2 ⟨rfl, hg2⟩) | (go_at_call 34; (with_reducible refine (HPm.out _).mono ?_); rintro e w3 ⟨rfl, hg3⟩))
          go_roundw
          case rel => exact ⟨mid + 1, hi, by simp, rfl, by omega, by omega, hhb, Lib.hid ⟨hRt.out, I.out.2⟩, (hG.trans hg2).trans hg3⟩
          case measure => simp [intOf]; omega
      · by_cases hc : v ≤ p
        · have hRt := Lib.hid (Hhi.out (by rw [HR.out]; simp [hc]))
          clear HR Hlo Hhi
          go_wp2_with (first | (go_at_call 79; (with_reducible refine (HAm.out _).mono ?_); rintro e w2 ⟨rfl, hg2⟩) | (go_at_call 34; (with_reducible refine (HPm.out _).mono ?_); rintro e w3 ⟨rfl, hg3⟩))
          go_roundw
          case rel => exact ⟨lo, mid, rfl, rfl, hal, m1, by omega, Lib.hid ⟨I.out.1, hRt.out⟩, (hG.trans hg2).trans hg3⟩
          case measure => simp [intOf]; omega
        · have hRt := Lib.hid (Hlo.out (by rw [HR.out]; simp [hc]))
          clear HR Hlo Hhi
          go_wp2_with (first | (go_at_call 79; (with_reducible refine (HAm.out _).mono ?_); rintro e w2 ⟨rfl, hg2⟩) | (go_at_call 34; (with_reducible refine (HPm.out _).mono ?_); rintro e w3 ⟨rfl, hg3⟩))
          go_roundw
          case rel => exact ⟨mid + 1, hi, by simp, rfl, by omega, by omega, hhb, Lib.hid ⟨hRt.out, I.out.2⟩, (hG.trans hg2).trans hg3⟩
          case measure => simp [intOf]; omega
    · obtain rfl : hi = lo := by omega
      have HI := Lib.hid (And.intro (fun t (h1 : a ≤ t) (h2 : t < hi) => rchd_lo (I.out.1 t h1 h2)) (fun t (h1 : hi ≤ t) (h2 : t < b) => rchd_hi (I.out.2 t h1 h2)))
      have HWh := Lib.hid (fun n => HW.out hi n hab hal hhb falls HM.out HI.out.1 HI.out.2)
      obtain ⟨st, hst⟩ : ∃ st : Nat, st = max a (hi - 3) := ⟨_, rfl⟩
      obtain ⟨en, hen⟩ : ∃ en : Nat, en = min b (hi + 3) := ⟨_, rfl⟩
      have hmx : imax (a : Int) ((hi : Int) - 3) = (st : Int) := by unfold imax; split <;> omega
      have hse : st < en := by omega
      have hen27 : en ≤ 27000 := by omega
      have HEN := Lib.hid (show ∀ i : Nat, ((i < en) ↔ (i < b ∧ i < hi + 3)) from fun i => by omega)
      have HST := Lib.hid hst
      clear HW I hst hen
      go_wp2
      go_loopw [15, 16, 17] (fun x y i wr => ∃ k : Nat, i = .int .i64 ((st + k : Nat) : Int) ∧ st + k ≤ en ∧ ((k = 0 ∧ x = .int .i64 (-1) ∧ y = .int .i64 0) ∨ ∃ m : Nat, x = .int .i64 m ∧ y = .int .i64 (gap p (ptN s m)) ∧ Hid (Bst (ptN s) p st k m) ∧ 1 ≤ k) ∧ Gr w wr) (fun _ _ i _ => en - (intOf i).toNat)
      case atStart => exact ⟨0, by have := HST.out; simp; omega, by omega, .inl ⟨rfl, rfl, rfl⟩, hG⟩
      case round =>
        obtain ⟨k, rfl, hk, hbst, hG2⟩ := hrel
        clear hG
        by_cases hlt2 : st + k < en
        · obtain ⟨c1, c2⟩ := (HEN.out (st + k)).1 hlt2
          have k27 : st + k < 27000 := by omega
          have HAm := Lib.hid (fun W => HA.out (st + k) W k27)
          have HPm := Lib.hid (fun W => HP.out (st + k) W k27)
          have hbm := HB.out (st + k) k27
          rw [show pnt s (gD (st + k)) (gT (st + k)) = ptN s (st + k) from rfl] at hbm
          have hgn := gap_nn p (ptN s (st + k))
          have HAb := Lib.hid (fun W => abs_any (ptN s (st + k) - p) W (by omega) (by omega))
          rw [show (((ptN s (st + k) - p).natAbs : Nat) : Int) = gap p (ptN s (st + k)) by unfold gap; omega] at HAb
          generalize hgv : gap p (ptN s (st + k)) = gv at *
          have HGV := Lib.hid hgv
          clear hgv
          generalize hvv : ptN s (st + k) = v at *
          have HVV := Lib.hid hvv
          clear hvv
          generalize gD (st + k) = gd at *
          generalize gT (st + k) = gt at *
          have i1 : ((st + k : Nat) : Int) < (b : Int) := by omega
          have i2 : ((st + k : Nat) : Int) < (hi : Int) + 3 := by omega
          have i3 : ((st + k : Nat) : Int) + 1 = ((st + (k + 1) : Nat) : Int) := by omega
          have HI3 := Lib.hid i3
          clear i3
          have ii : 0 ≤ ((st + k : Nat) : Int) ∧ ((st + k : Nat) : Int) < 27000 := by omega
          rcases hbst with ⟨rfl, rfl, rfl⟩ | ⟨m, rfl, rfl, hB, hk1⟩
          · generalize hio : ((st + 0 : Nat) : Int) = io at *
            have HIO := Lib.hid hio
            clear hio
            obtain ⟨ii1, ii2⟩ := ii
            go_wp2_with (first | (go_at_call 79; (with_reducible refine (HAm.out _).mono ?_); rintro e w2 ⟨rfl, hg2⟩) | (go_at_call 34; (with_reducible refine (HPm.out _).mono ?_); rintro e w3 ⟨rfl, hg3⟩) | (go_at_call 78; (with_reducible refine (HAb.out _).mono ?_); rintro e w4 ⟨rfl, rfl⟩))
            go_roundw
            case rel => exact ⟨1, by rw [HI3.out], by omega, .inr ⟨st, by rw [← HIO.out]; rfl, by rw [← HGV.out, ← HVV.out]; rfl, Lib.hid (Bst.one _ _ _), by omega⟩, (hG2.trans hg2).trans hg3⟩
            case measure => have := HIO.out; simp [intOf]; omega
          · by_cases hcg : gv < gap p (ptN s m)
            · have HN := Lib.hid (hB.out.new (by rw [HVV.out, HGV.out]; exact hcg))
              have hm0 : ¬ ((m : Int) < 0) := by omega
              generalize hio : ((st + k : Nat) : Int) = io at *
              have HIO := Lib.hid hio
              clear hio
              generalize gap p (ptN s m) = gm at *
              obtain ⟨ii1, ii2⟩ := ii
              go_wp2_with (first | (go_at_call 79; (with_reducible refine (HAm.out _).mono ?_); rintro e w2 ⟨rfl, hg2⟩) | (go_at_call 34; (with_reducible refine (HPm.out _).mono ?_); rintro e w3 ⟨rfl, hg3⟩) | (go_at_call 78; (with_reducible refine (HAb.out _).mono ?_); rintro e w4 ⟨rfl, rfl⟩))
              go_roundw
              case rel => exact ⟨k + 1, by rw [HI3.out], by omega, .inr ⟨st + k, by rw [← HIO.out], by rw [← HGV.out, ← HVV.out], HN, by omega⟩, (hG2.trans hg2).trans hg3⟩
              case measure => have := HIO.out; simp [intOf]; omega
            · have HN := Lib.hid (hB.out.keep (by rw [HVV.out, HGV.out]; omega))
              have hm0 : ¬ ((m : Int) < 0) := by omega
              generalize hio : ((st + k : Nat) : Int) = io at *
              have HIO := Lib.hid hio
              clear hio
              generalize hgm : gap p (ptN s m) = gm at *
              have HGM := Lib.hid hgm
              clear hgm
              obtain ⟨ii1, ii2⟩ := ii
              go_wp2_with (first | (go_at_call 79; (with_reducible refine (HAm.out _).mono ?_); rintro e w2 ⟨rfl, hg2⟩) | (go_at_call 34; (with_reducible refine (HPm.out _).mono ?_); rintro e w3 ⟨rfl, hg3⟩) | (go_at_call 78; (with_reducible refine (HAb.out _).mono ?_); rintro e w4 ⟨rfl, rfl⟩))
              go_roundw
              case rel => exact ⟨k + 1, by rw [HI3.out], by omega, .inr ⟨m, rfl, by rw [HGM.out], HN, by omega⟩, (hG2.trans hg2).trans hg3⟩
              case measure => have := HIO.out; simp [intOf]; omega
        · obtain hke : st + k = en := by omega
          rcases hbst with ⟨rfl, -, -⟩ | ⟨m, rfl, rfl, hB, hk1⟩
          · omega
          have HR : Hid (IsB (ptN s) p a b m) := Lib.hid (by
            obtain ⟨x1, x2, x3, x4⟩ := hB.out
            have e0 := HST.out
            have hE := HEN.out
            rw [hke] at x2 x3
            exact HWh.out m (by omega) ((hE m).1 x2).1 ((hE m).1 x2).2 (fun j y1 y2 y3 => x3 j (by omega) ((hE j).2 ⟨y2, y3⟩)) (fun j y1 y2 => x4 j (by omega) y2))
          have hnot : ¬ (((st + k : Nat) : Int) < (b : Int)) ∨ (((st + k : Nat) : Int) < (b : Int) ∧ ¬ (((st + k : Nat) : Int) < (hi : Int) + 3)) := by
            have := HEN.out (st + k)
            omega
          generalize gap p (ptN s m) = gm at *
          generalize ((st + k : Nat) : Int) = io at *
          rcases hnot with h1 | ⟨h1, h2⟩
          all_goals
            go_wp2
            go_ret
            exact ⟨⟨m, rfl, HR.out⟩, hG2⟩
end Go.Proofs.YtddcdodbmbmdnaaDoor
