/- Contracts of chapter 7: the chosen graduation, in the model. -/
import Derived.Test.YtggflladheemoaaDoorC07o
import Derived.Test.YtggflladheemoaaDoorC05c
import Derived.Test.YtggflladheemoaaDoorLX
import Derived.Deep.RegionLaw
import Derived.Laws.AppendOwn
namespace Go.Proofs.YtggflladheemoaaDoor
open Go.RowKit
set_option linter.unusedVariables false
set_option linter.unusedSimpArgs false

theorem info_part : (Tryd.prog.info? 39).map (fun i => (i.zero, i.size, i.bytes)) = some (some (.agg #[.int .i64 0, .int .i64 0, .int .i64 0]), 3, 24) := by kernel_rfl
/-- What is answered: the chosen graduation, or nothing. -/
def coL (s l lim : Int) : List P3 := if chC s l lim = 0 then chG s l lim else []
theorem coL_ok {s l lim : Int} (h : chC s l lim = 0) : coL s l lim = chG s l lim := if_pos h
theorem coL_no {s l lim : Int} (h : chC s l lim ≠ 0) : coL s l lim = [] := if_neg h
theorem chC_rg {s l lim : Int} (h : okC s l lim = false) : chC s l lim = 2 ∧ coL s l lim = [] := by
  have e : chC s l lim = 2 := if_pos h
  exact ⟨e, coL_no (by omega)⟩
/-- The parts' ends, by number. -/
def cut4 : List Int := [1000, 2000, 5000, 10000]
theorem chC_no {s l lim : Int} (h : okC s l lim = true) (h0 : fnS s l 1000 2000 lim = 0 ∨ fnS s l 2000 5000 lim = 0 ∨ fnS s l 5000 10000 lim = 0) : chC s l lim = 4 ∧ coL s l lim = [] := by
  have e : chC s l lim = 4 := by unfold chC; rw [if_neg (by rw [h]; simp), if_pos h0]
  exact ⟨e, coL_no (by omega)⟩
theorem chC_yes {s l lim : Int} (h : okC s l lim = true) (h1 : fnS s l 1000 2000 lim ≠ 0) (h2 : fnS s l 2000 5000 lim ≠ 0) (h3 : fnS s l 5000 10000 lim ≠ 0) : chC s l lim = 0 ∧ coL s l lim = chG s l lim := by
  have e : chC s l lim = 0 := by unfold chC; rw [if_neg (by rw [h]; simp), if_neg (by intro h4; rcases h4 with h4 | h4 | h4; exact h1 h4; exact h2 h4; exact h3 h4)]
  exact ⟨e, coL_ok e⟩

/-- append to a row of the call's own, as one step of a region that draws. -/
theorem step_append_own {P : Program} {ops : Array Oper} {o : Oper} {a : Act} {w : World} {K : Act → World → Prop} {Q : Exit → Act → World → Prop} {E : Prop} (hgd : o.guard = none) (s x : Operand) (t : TypeId)
    (ho : o.op = .call { callee := .builtin .append, args := #[s, x], argTypes := #[t, t] })
    (base : Nat) (e : TypeId) (i : TypeInfo) (z : Value) (size bytes : Nat) (ht : P.underlying t = some (.slice e)) (hi : P.info? e = some i) (hz : i.zero = some z)
    (hsize : i.size = size) (hby : i.bytes = bytes) (hzs : z.cells.size = size) (hsz : 0 < size)
    (v : Value) (n : Nat) (xs : List Value) (hs : a.eval s = v) (hown : w.ownsRow base e size v n xs)
    (ad : Addr) (m c : Nat) (news : List Value) (hx : a.eval x = .slice (some ad) m c) (hl : news.length = m * size) (hnews : ∀ j u, news[j]? = some u → w.cell? (ad.add j) = some u) (h1 : ∀ u ∈ news, u.oneCell' = true)
    (h63 : n + m ≤ maxLen) (hbytes : (n + m) * bytes ≤ 140737488355328) (hbase : base ≤ w.heap.size)
    (h : ∀ v' w', w'.ownsRow base e size v' (n + m) (xs ++ news) → w.grownBy w' v.ownBlock → (v' = .slice none 0 0 ↔ v = .slice none 0 0 ∧ m = 0) → K (a.put o.dst v') w') :
    if Region.wanted o (yielded ops a.tmps) = true then Oper.wp P o a w K Q else E := by
  have hw : Region.wanted o (yielded ops a.tmps) = true := by simp [Region.wanted, hgd]
  rw [if_pos hw]
  exact wp_append_own w s x t ho base e i z size bytes ht hi hz hsize hby hzs hsz v n xs hs hown ad m c news hx hl hnews h1 h63 hbytes hbase h

/-- One round: a step was found, the part is appended. -/
theorem round_app {T : TypeId} {w1 w2 w3 : World} {S : Nat} {v v' : Value} {xs : List P3} {a b c : Int} {o : Obj} (hb : Below S w1 w2) (hB : S ≤ w2.heap.size) (hx : Lst3 T w2 S v xs) (h' : w3.ownsRow S T 3 v' (xs.length + 1) (cells3 xs ++ [vi a, vi b, vi c])) (hg : (w2.alloc o).grownBy w3 v.ownBlock) :
    Lst3 T w3 S v' (xs ++ [(a, b, c)]) ∧ Below S w1 w3 := Lst3.app hb hB (hx.alloc _) h' hg

set_option maxRecDepth 100000 in
set_option maxHeartbeats 8000000 in
theorem co_spec1 (s l lim : Int) (w : World) (hs : sc s = true) (hl : ln l = true) (hm : 0 ≤ lim ∧ lim ≤ 100000) :
    Calls Tryd.prog 14 #[.int .i64 s, .int .i64 l, .int .i64 lim] w fun e w' => (∃ v, e = .returned (.tuple #[v, .int .i64 (chC s l lim)]) ∧ Lst3 39 w' w.heap.size v (coL s l lim)) ∧ Below w.heap.size w w' := by
  have HS := Lib.hid (fun W => isScale_spec s W)
  have HLn := Lib.hid (fun W => isLength_spec l W)
  have HM := Lib.hid (fun W => in_any lim 0 100000 W)
  rw [hs] at HS
  rw [hl] at HLn
  rw [decide_eq_true hm] at HM
  have hok : okC s l lim = true := by unfold okC; rw [hs, hl, decide_eq_true hm]; rfl
  have HNO := Lib.hid (chC_no hok)
  have HYES := Lib.hid (chC_yes hok)
  have HF0 := Lib.hid (fun W => fin_spec s l 1000 2000 lim W hs hl (by omega) (by omega) (by omega))
  have HF1 := Lib.hid (fun W => fin_spec s l 2000 5000 lim W hs hl (by omega) (by omega) (by omega))
  have HF2 := Lib.hid (fun W => fin_spec s l 5000 10000 lim W hs hl (by omega) (by omega) (by omega))
  obtain ⟨i0, hi, hz0, hz1, hz2⟩ := info_parts info_part
  have HR : Hid (Row (w.alloc (.cells #[.int .i64 1000, .int .i64 2000, .int .i64 5000, .int .i64 10000] 2)) w.heap.size 2 (cut4.map vi)) := Lib.hid (Row.new w _ _)
  have HG : Hid (Below w.heap.size w (w.alloc (.cells #[.int .i64 1000, .int .i64 2000, .int .i64 5000, .int .i64 10000] 2))) := Lib.hid (Gr.below (by repeat (first | with_reducible exact Gr.refl _ | with_reducible refine Gr.alloc ?_ _ | with_reducible refine Gr.gr ?_ _ _ | with_reducible refine Gr.drew ?_ | with_reducible refine Gr.drewN ?_ _)))
  clear hs hl hok
  go_enter Tryd.func14, Tryd.ntmps14
  go_wp2_with (first | (go_at_call 77; refine (HS.out _).mono ?_; rintro e w' ⟨rfl, rfl⟩) | (go_at_call 78; refine (HLn.out _).mono ?_; rintro e w' ⟨rfl, rfl⟩) | (go_at_call 79; refine (HM.out _).mono ?_; rintro e w' ⟨rfl, rfl⟩))
  have hs1 : (w.alloc (.cells #[.int .i64 1000, .int .i64 2000, .int .i64 5000, .int .i64 10000] 2)).heap.size = w.heap.size + 1 := by simp
  generalize w.alloc (.cells #[.int .i64 1000, .int .i64 2000, .int .i64 5000, .int .i64 10000] 2) = w1 at *
  have HO1 := Lib.hid (Lst3.new 39 w1 w1.heap.size (Nat.le_refl _))
  have HB1 : Hid (Below w1.heap.size w1 (w1.alloc (.cells #[] 39))) := Lib.hid (Gr.below (by repeat (first | with_reducible exact Gr.refl _ | with_reducible refine Gr.alloc ?_ _ | with_reducible refine Gr.gr ?_ _ _ | with_reducible refine Gr.drew ?_ | with_reducible refine Gr.drewN ?_ _)))
  generalize w1.alloc (.cells #[] 39) = w2 at *
  rw [hs1] at HO1 HB1
  have hw1s : w.heap.size + 1 ≤ w1.heap.size := by omega
  have q0 : IntKind.i64.wrap 0 = 0 := by decide
  have q1 : IntKind.i64.wrap 1 = 1 := by decide
  have q2 : IntKind.i64.wrap 2 = 2 := by decide
  go_loopw [9, 10] (fun v i wr => ∃ k : Nat, k ≤ 3 ∧ i = .int .i64 ((k : Int) + 1) ∧ Lst3 39 wr (w.heap.size + 1) v ((chG s l lim).take k) ∧ Below (w.heap.size + 1) w1 wr ∧ Hid ((0 < k → fnS s l 1000 2000 lim ≠ 0) ∧ (1 < k → fnS s l 2000 5000 lim ≠ 0) ∧ (2 < k → fnS s l 5000 10000 lim ≠ 0))) (fun _ i _ => 4 - (intOf i).toNat)
  case atStart => exact ⟨0, by omega, rfl, HO1.out, HB1.out, Lib.hid ⟨fun h => absurd h (by omega), fun h => absurd h (by omega), fun h => absurd h (by omega)⟩⟩
  case round =>
    obtain ⟨k, hk, rfl, hO, hB, hN⟩ := hrel
    have hsz : w.heap.size + 1 ≤ wr.heap.size := by have := hB.size; omega
    have hcell : ∀ j x, cut4[j]? = some x → wr.cell? ⟨w.heap.size, j, none⟩ = some (vi x) := fun j x hx => by
      have h1 := HR.out.cell j
      rw [List.getElem?_map, hx] at h1
      exact (hB.cell (p := ⟨w.heap.size, j, none⟩) (by simp)).trans h1
    have c0 := hcell 0 1000 rfl
    have c1 := hcell 1 2000 rfl
    have c2 := hcell 2 5000 rfl
    have c3 := hcell 3 10000 rfl
    have hlt : w.heap.size < wr.heap.size := by omega
    have HO := Lib.hid hO
    have HB := Lib.hid hB
    clear hcell hO hB
    rcases (show k = 0 ∨ k = 1 ∨ k = 2 ∨ k = 3 by omega) with rfl | rfl | rfl | rfl
    · have HX : Hid ((chG s l lim).take (0 + 1) = (chG s l lim).take 0 ++ [(1000, 2000, fnS s l 1000 2000 lim)]) := Lib.hid rfl
      have hxl : ((chG s l lim).take 0).length ≤ 3 := by simp [chG]
      generalize (chG s l lim).take 0 = xs at *
      go_wp2
      ((first | refine region_gr_on (by kernel_rfl) (by kernel_rfl) ?_ | refine region_gr (by kernel_rfl) (by kernel_rfl) ?_); (repeat (quiet_step (exact Calls.gr_of ((HF0.out _).mono fun e w' h => ⟨h.1, Gr.of_below h.2⟩)))); refine wpQuiet_nil ?_; intro _ hw'; obtain ⟨⟨kq, oq⟩, hw''⟩ := hw'; subst hw'')
      have hgq : Gr wr (gr wr kq oq) := ⟨kq, oq, rfl⟩
      replace c0 := (hgq.below.cell (p := ⟨w.heap.size, 0, none⟩) hlt).trans c0
      replace c1 := (hgq.below.cell (p := ⟨w.heap.size, 1, none⟩) hlt).trans c1
      have HO3 := Lib.hid (HO.out.below hgq.below)
      have HB3 := Lib.hid (HB.out.trans (hgq.below.mono hsz))
      have hsz3 : w.heap.size + 1 ≤ (gr wr kq oq).heap.size := by have := HB3.out.size; omega
      have hlt3 : w.heap.size < (gr wr kq oq).heap.size := by omega
      clear c2 c3 hlt HO HB hgq hsz
      generalize gr wr kq oq = w3 at *
      by_cases hq : fnS s l 1000 2000 lim = 0
      · have HC := Lib.hid (HNO.out (.inl hq))
        have hq1 : (fnS s l 1000 2000 lim == 0) = true := by simpa using hq
        go_wp2
        ((try simp only [Exit.inBlock, Exit.then]); refine bodyPost_ret (v := .tuple #[.slice none 0 0, .int .i64 4]) (by simp [results, Tryd.results14, go_sem]) rfl ?_)
        exact ⟨⟨_, by rw [HC.out.1], by rw [HC.out.2]; exact Lst3.nil _ _ _⟩, HG.out.trans (HB3.out.mono (by omega))⟩
      · have hq1 : (fnS s l 1000 2000 lim == 0) = false := by simpa using hq
        have HQ := Lib.hid hq
        clear hq
        generalize hx : fnS s l 1000 2000 lim = x at *
        have HXE := Lib.hid hx
        clear hx
        go_wp2
        have HO4 := Lib.hid (HO3.out.below (Gr.below ((Gr.refl w3).drew)))
        have HB4 := Lib.hid (HB3.out.trans ((Gr.below ((Gr.refl w3).drew)).mono hsz3))
        have hsz4 : w.heap.size + 1 ≤ w3.drew.heap.size := hsz3
        go_region_law (refine step_append_own rfl (.tmp 48) (.tmp 60) 26 rfl (w.heap.size + 1) 39 i0 (.agg #[.int .i64 0, .int .i64 0, .int .i64 0]) 3 24 Tryd.underlying26 hi hz0 hz1 hz2 rfl (by decide) _ _ _ rfl (HO4.out.alloc _) _ 1 1 [.int .i64 1000, .int .i64 2000, .int .i64 x] rfl rfl (three_cells_new _ _ _ _ _) (by simp [Value.oneCell']) (by unfold maxLen; omega) (by omega) (by simp; omega) ?_; intro v' w5 hown' hgrow _; obtain ⟨hA1, hA2⟩ := Lst3.app HB4.out hsz4 (HO4.out.alloc _) hown' hgrow; have HA1 := Lib.hid hA1; have HA2 := Lib.hid hA2; clear hA1 hA2 hown' hgrow)
        all_goals
          go_wp2
          go_roundw
          case rel => exact ⟨0 + 1, by omega, by simp, by rw [HX.out]; exact HA1.out, HA2.out, Lib.hid ⟨fun _ => by rw [HXE.out]; exact HQ.out, fun h => absurd h (by omega), fun h => absurd h (by omega)⟩⟩
          case measure => simp [intOf]
    · have HX : Hid ((chG s l lim).take (1 + 1) = (chG s l lim).take 1 ++ [(2000, 5000, fnS s l 2000 5000 lim)]) := Lib.hid rfl
      have hxl : ((chG s l lim).take 1).length ≤ 3 := by simp [chG]
      generalize (chG s l lim).take 1 = xs at *
      go_wp2
      ((first | refine region_gr_on (by kernel_rfl) (by kernel_rfl) ?_ | refine region_gr (by kernel_rfl) (by kernel_rfl) ?_); (repeat (quiet_step (exact Calls.gr_of ((HF1.out _).mono fun e w' h => ⟨h.1, Gr.of_below h.2⟩)))); refine wpQuiet_nil ?_; intro _ hw'; obtain ⟨⟨kq, oq⟩, hw''⟩ := hw'; subst hw'')
      have hgq : Gr wr (gr wr kq oq) := ⟨kq, oq, rfl⟩
      replace c1 := (hgq.below.cell (p := ⟨w.heap.size, 1, none⟩) hlt).trans c1
      replace c2 := (hgq.below.cell (p := ⟨w.heap.size, 2, none⟩) hlt).trans c2
      have HO3 := Lib.hid (HO.out.below hgq.below)
      have HB3 := Lib.hid (HB.out.trans (hgq.below.mono hsz))
      have hsz3 : w.heap.size + 1 ≤ (gr wr kq oq).heap.size := by have := HB3.out.size; omega
      have hlt3 : w.heap.size < (gr wr kq oq).heap.size := by omega
      clear c0 c3 hlt HO HB hgq hsz
      generalize gr wr kq oq = w3 at *
      by_cases hq : fnS s l 2000 5000 lim = 0
      · have HC := Lib.hid (HNO.out (.inr (.inl hq)))
        have hq1 : (fnS s l 2000 5000 lim == 0) = true := by simpa using hq
        go_wp2
        ((try simp only [Exit.inBlock, Exit.then]); refine bodyPost_ret (v := .tuple #[.slice none 0 0, .int .i64 4]) (by simp [results, Tryd.results14, go_sem]) rfl ?_)
        exact ⟨⟨_, by rw [HC.out.1], by rw [HC.out.2]; exact Lst3.nil _ _ _⟩, HG.out.trans (HB3.out.mono (by omega))⟩
      · have hq1 : (fnS s l 2000 5000 lim == 0) = false := by simpa using hq
        have HQ := Lib.hid hq
        clear hq
        generalize hx : fnS s l 2000 5000 lim = x at *
        have HXE := Lib.hid hx
        clear hx
        go_wp2
        have HO4 := Lib.hid (HO3.out.below (Gr.below ((Gr.refl w3).drew)))
        have HB4 := Lib.hid (HB3.out.trans ((Gr.below ((Gr.refl w3).drew)).mono hsz3))
        have hsz4 : w.heap.size + 1 ≤ w3.drew.heap.size := hsz3
        go_region_law (refine step_append_own rfl (.tmp 48) (.tmp 60) 26 rfl (w.heap.size + 1) 39 i0 (.agg #[.int .i64 0, .int .i64 0, .int .i64 0]) 3 24 Tryd.underlying26 hi hz0 hz1 hz2 rfl (by decide) _ _ _ rfl (HO4.out.alloc _) _ 1 1 [.int .i64 2000, .int .i64 5000, .int .i64 x] rfl rfl (three_cells_new _ _ _ _ _) (by simp [Value.oneCell']) (by unfold maxLen; omega) (by omega) (by simp; omega) ?_; intro v' w5 hown' hgrow _; obtain ⟨hA1, hA2⟩ := Lst3.app HB4.out hsz4 (HO4.out.alloc _) hown' hgrow; have HA1 := Lib.hid hA1; have HA2 := Lib.hid hA2; clear hA1 hA2 hown' hgrow)
        all_goals
          go_wp2
          go_roundw
          case rel => exact ⟨1 + 1, by omega, by simp, by rw [HX.out]; exact HA1.out, HA2.out, Lib.hid ⟨fun _ => hN.out.1 (by omega), fun h => by rw [HXE.out]; exact HQ.out, fun h => absurd h (by omega)⟩⟩
          case measure => simp [intOf]
    · have HX : Hid ((chG s l lim).take (2 + 1) = (chG s l lim).take 2 ++ [(5000, 10000, fnS s l 5000 10000 lim)]) := Lib.hid rfl
      have hxl : ((chG s l lim).take 2).length ≤ 3 := by simp [chG]
      generalize (chG s l lim).take 2 = xs at *
      go_wp2
      ((first | refine region_gr_on (by kernel_rfl) (by kernel_rfl) ?_ | refine region_gr (by kernel_rfl) (by kernel_rfl) ?_); (repeat (quiet_step (exact Calls.gr_of ((HF2.out _).mono fun e w' h => ⟨h.1, Gr.of_below h.2⟩)))); refine wpQuiet_nil ?_; intro _ hw'; obtain ⟨⟨kq, oq⟩, hw''⟩ := hw'; subst hw'')
      have hgq : Gr wr (gr wr kq oq) := ⟨kq, oq, rfl⟩
      replace c2 := (hgq.below.cell (p := ⟨w.heap.size, 2, none⟩) hlt).trans c2
      replace c3 := (hgq.below.cell (p := ⟨w.heap.size, 3, none⟩) hlt).trans c3
      have HO3 := Lib.hid (HO.out.below hgq.below)
      have HB3 := Lib.hid (HB.out.trans (hgq.below.mono hsz))
      have hsz3 : w.heap.size + 1 ≤ (gr wr kq oq).heap.size := by have := HB3.out.size; omega
      have hlt3 : w.heap.size < (gr wr kq oq).heap.size := by omega
      clear c0 c1 hlt HO HB hgq hsz
      generalize gr wr kq oq = w3 at *
      by_cases hq : fnS s l 5000 10000 lim = 0
      · have HC := Lib.hid (HNO.out (.inr (.inr hq)))
        have hq1 : (fnS s l 5000 10000 lim == 0) = true := by simpa using hq
        go_wp2
        ((try simp only [Exit.inBlock, Exit.then]); refine bodyPost_ret (v := .tuple #[.slice none 0 0, .int .i64 4]) (by simp [results, Tryd.results14, go_sem]) rfl ?_)
        exact ⟨⟨_, by rw [HC.out.1], by rw [HC.out.2]; exact Lst3.nil _ _ _⟩, HG.out.trans (HB3.out.mono (by omega))⟩
      · have hq1 : (fnS s l 5000 10000 lim == 0) = false := by simpa using hq
        have HQ := Lib.hid hq
        clear hq
        generalize hx : fnS s l 5000 10000 lim = x at *
        have HXE := Lib.hid hx
        clear hx
        go_wp2
        have HO4 := Lib.hid (HO3.out.below (Gr.below ((Gr.refl w3).drew)))
        have HB4 := Lib.hid (HB3.out.trans ((Gr.below ((Gr.refl w3).drew)).mono hsz3))
        have hsz4 : w.heap.size + 1 ≤ w3.drew.heap.size := hsz3
        go_region_law (refine step_append_own rfl (.tmp 48) (.tmp 60) 26 rfl (w.heap.size + 1) 39 i0 (.agg #[.int .i64 0, .int .i64 0, .int .i64 0]) 3 24 Tryd.underlying26 hi hz0 hz1 hz2 rfl (by decide) _ _ _ rfl (HO4.out.alloc _) _ 1 1 [.int .i64 5000, .int .i64 10000, .int .i64 x] rfl rfl (three_cells_new _ _ _ _ _) (by simp [Value.oneCell']) (by unfold maxLen; omega) (by omega) (by simp; omega) ?_; intro v' w5 hown' hgrow _; obtain ⟨hA1, hA2⟩ := Lst3.app HB4.out hsz4 (HO4.out.alloc _) hown' hgrow; have HA1 := Lib.hid hA1; have HA2 := Lib.hid hA2; clear hA1 hA2 hown' hgrow)
        all_goals
          go_wp2
          go_roundw
          case rel => exact ⟨2 + 1, by omega, by simp, by rw [HX.out]; exact HA1.out, HA2.out, Lib.hid ⟨fun _ => hN.out.1 (by omega), fun h => hN.out.2.1 (by omega), fun h => by rw [HXE.out]; exact HQ.out⟩⟩
          case measure => simp [intOf]
    · have HC := Lib.hid (HYES.out (hN.out.1 (by omega)) (hN.out.2.1 (by omega)) (hN.out.2.2 (by omega)))
      go_wp2
      ((try simp only [Exit.inBlock, Exit.then]); refine bodyPost_ret (v := .tuple #[u9, .int .i64 0]) (by simp [results, Tryd.results14, go_sem]) rfl ?_)
      exact ⟨⟨_, by rw [HC.out.1], by rw [HC.out.2]; exact HO.out.mono (by omega)⟩, HG.out.trans (HB.out.mono (by omega))⟩

set_option maxHeartbeats 2000000 in
theorem co_spec (s l lim : Int) (w : World) :
    Calls Tryd.prog 14 #[.int .i64 s, .int .i64 l, .int .i64 lim] w fun e w' => (∃ v, e = .returned (.tuple #[v, .int .i64 (chC s l lim)]) ∧ Lst3 39 w' w.heap.size v (coL s l lim)) ∧ Below w.heap.size w w' := by
  have HS := Lib.hid (fun W => isScale_spec s W)
  have HLn := Lib.hid (fun W => isLength_spec l W)
  have HM := Lib.hid (fun W => in_any lim 0 100000 W)
  rcases sc_tf s with hs | hs
  rotate_left
  · have HC := Lib.hid (chC_rg (s := s) (l := l) (lim := lim) (by unfold okC; rw [hs]; rfl))
    rw [hs] at HS
    clear hs
    go_enter Tryd.func14, Tryd.ntmps14
    go_wp2_with (go_at_call 77; refine (HS.out _).mono ?_; rintro e w' ⟨rfl, rfl⟩)
    ((try simp only [Exit.inBlock, Exit.then]); refine bodyPost_ret (v := .tuple #[.slice none 0 0, .int .i64 2]) (by simp [results, Tryd.results14, go_sem]) rfl ?_)
    exact ⟨⟨_, by rw [HC.out.1], by rw [HC.out.2]; exact Lst3.nil _ _ _⟩, Below.refl _ _⟩
  rcases ln_tf l with hl | hl
  rotate_left
  · have HC := Lib.hid (chC_rg (s := s) (l := l) (lim := lim) (by unfold okC; rw [hs, hl]; rfl))
    rw [hs] at HS
    rw [hl] at HLn
    clear hs hl
    go_enter Tryd.func14, Tryd.ntmps14
    go_wp2_with (first | (go_at_call 77; refine (HS.out _).mono ?_; rintro e w' ⟨rfl, rfl⟩) | (go_at_call 78; refine (HLn.out _).mono ?_; rintro e w' ⟨rfl, rfl⟩))
    ((try simp only [Exit.inBlock, Exit.then]); refine bodyPost_ret (v := .tuple #[.slice none 0 0, .int .i64 2]) (by simp [results, Tryd.results14, go_sem]) rfl ?_)
    exact ⟨⟨_, by rw [HC.out.1], by rw [HC.out.2]; exact Lst3.nil _ _ _⟩, Below.refl _ _⟩
  by_cases hm : 0 ≤ lim ∧ lim ≤ 100000
  rotate_left
  · have HC := Lib.hid (chC_rg (s := s) (l := l) (lim := lim) (by unfold okC; rw [hs, hl, decide_eq_false hm]; rfl))
    rw [hs] at HS
    rw [hl] at HLn
    rw [decide_eq_false hm] at HM
    clear hs hl
    go_enter Tryd.func14, Tryd.ntmps14
    go_wp2_with (first | (go_at_call 77; refine (HS.out _).mono ?_; rintro e w' ⟨rfl, rfl⟩) | (go_at_call 78; refine (HLn.out _).mono ?_; rintro e w' ⟨rfl, rfl⟩) | (go_at_call 79; refine (HM.out _).mono ?_; rintro e w' ⟨rfl, rfl⟩))
    ((try simp only [Exit.inBlock, Exit.then]); refine bodyPost_ret (v := .tuple #[.slice none 0 0, .int .i64 2]) (by simp [results, Tryd.results14, go_sem]) rfl ?_)
    exact ⟨⟨_, by rw [HC.out.1], by rw [HC.out.2]; exact Lst3.nil _ _ _⟩, Below.refl _ _⟩
  exact co_spec1 s l lim w hs hl hm
end Go.Proofs.YtggflladheemoaaDoor
