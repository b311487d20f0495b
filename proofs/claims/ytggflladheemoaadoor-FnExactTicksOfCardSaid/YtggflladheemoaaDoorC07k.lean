/- Contracts of chapter 7: the program's iterator over the distances of marks. -/
import Derived.Test.YtggflladheemoaaDoorC07g
import Derived.Test.YtggflladheemoaaDoorRq
import Derived.Test.YtggflladheemoaaDoorRx
import Derived.Test.YtggflladheemoaaDoorMC
import Derived.Test.YtggflladheemoaaDoorC05d
namespace Go.Proofs.YtggflladheemoaaDoor
open Go.RowKit Go.Shelf
set_option linter.unusedVariables false
set_option linter.unusedSimpArgs false
attribute [local go_sem] Oper.semAt_some

theorem middle_any (lo hi : Int) (w : World) (a1 : -1000000000 ≤ lo) (a2 : lo ≤ 1000000000) (b1 : -1000000000 ≤ hi) (b2 : hi ≤ 1000000000) :
    Calls Tryd.prog 154 #[.agg #[.int .i64 lo, .int .i64 hi]] w fun e w' => e = .returned (.int .i64 ((lo + hi).fdiv 2)) ∧ Gr w w' := by
  have HQ := Lib.hid (fun W => quotientDown_any (lo + hi) 2 W (by omega) (by omega) (by omega) (by omega) (by omega))
  go_enter Tryd.func154, Tryd.ntmps154
  go_wp2_with (go_at_call 187; refine (HQ.out _).mono ?_; rintro e w' ⟨rfl, rfl⟩)
  ((try simp only [Exit.inBlock, Exit.then]); refine bodyPost_ret (v := .int .i64 ((lo + hi).fdiv 2)) (by simp [results, Tryd.results154, go_sem]) rfl ?_)
  exact ⟨rfl, (by repeat (first | with_reducible exact Gr.refl _ | with_reducible refine Gr.alloc ?_ _ | with_reducible refine Gr.gr ?_ _ _ | with_reducible refine Gr.drew ?_ | with_reducible refine Gr.drewN ?_ _))⟩
theorem middleOf_any (y s len : Int) (w : World) (hD : Dcs w) (hfg : fg y 0 = true) (hs : sc s = true) (hln : ln len = true) :
    Calls Tryd.prog 103 #[.int .i64 y, .int .i64 s, .int .i64 len] w fun e w' => e = .returned (.int .i64 (mdl s len y)) ∧ Gr w w' := by
  obtain ⟨p1, p2, p3, p4, -⟩ := pl_bd s y 0 len hfg hln
  have HPl := Lib.hid (plR_impl s y 0 len w hD)
  rw [pl_ok s y 0 len hfg hs (fun h => h.2 rfl) hln] at HPl
  have HMd := Lib.hid (show mdl s len y = ((pl s y 0 len).1 + (pl s y 0 len).2).fdiv 2 from rfl)
  generalize pl s y 0 len = pp at *
  obtain ⟨pa, pb⟩ := pp
  simp only at HPl HMd p1 p2 p3 p4
  have HMi := Lib.hid (fun W => middle_any pa pb W (by omega) (by omega) (by omega) (by omega))
  rw [← HMd.out] at HMi
  clear hD hfg hs hln
  go_enter Tryd.func103, Tryd.ntmps103
  go_wp2_with (first | (go_at_call 153; refine (HPl.out).mono ?_; rintro e w' ⟨rfl, kk, os, rfl⟩) | (go_at_call 154; refine (HMi.out _).mono ?_; rintro e w' ⟨rfl, kk2, os2, rfl⟩))
  go_ret
  exact ⟨rfl, (by repeat (first | with_reducible exact Gr.refl _ | with_reducible refine Gr.alloc ?_ _ | with_reducible refine Gr.gr ?_ _ _ | with_reducible refine Gr.drew ?_ | with_reducible refine Gr.drewN ?_ _))⟩
theorem eachGap_any (f : Nat) (fr : Array Value) (s l : Int) (w : World) :
    Calls Tryd.prog 88 #[.func (.func f) #[] fr, .int .i64 s, .int .i64 l] w fun e w' => e = .returned (.func (.func 141) #[] #[.pointer (some ⟨w.heap.size, 0, none⟩), .pointer (some ⟨w.heap.size + 1, 0, none⟩), .pointer (some ⟨w.heap.size + 2, 0, none⟩)]) ∧
      w' = ((w.alloc (.cells #[.func (.func f) #[] fr] 97)).alloc (.cells #[.int .i64 s] 2)).alloc (.cells #[.int .i64 l] 2) := by
  go_enter Tryd.func88, Tryd.ntmps88
  go_wp2
  go_ret
  exact ⟨rfl, rfl⟩
theorem Dcs.kx {bs : List Nat} {W W' : World} (h : Dcs W) (hk : Kx bs W W') (hn : 5 ∉ bs) : Dcs W' := fun i hi =>
  (World.cell?_of_block (hk.same _ (World.block_lt_of_cell? W _ (h i hi)) hn)).trans (h i hi)
theorem abX_dcs {β : Type} {B : Nat} (hB : 5 < B) : AbX B (fun (_ : β) W => Dcs W) := fun s W W' row hs hg hr i hi =>
  (World.cell?_of_block (hg.block _ (World.block_lt_of_cell? W _ (hs i hi)) (fun e => by have := hr _ e.symm; simp at this; omega))).trans (hs i hi)
theorem lst0_mem : ∀ (L : List Int), L ≠ [] → lst0 L ∈ L
  | [], h => absurd rfl h
  | a :: r, _ => by
    have key : ∀ (r : List Int) (a : Int), lastO a r ∈ a :: r := by
      intro r
      induction r with
      | nil => intro a; simp [lastO]
      | cons b r ih => intro a; exact List.mem_cons_of_mem _ (ih b)
    exact key r a
theorem gapF_len (s l : Int) : ∀ (r : List Int) (a : Int), (gapF s l a r).length ≤ r.length
  | [], a => by simp [gapF]
  | b :: r, a => by
    have e : gapF s l a (b :: r) = gap1 s l a b ++ gapF s l b r := rfl
    rw [e, List.length_append]
    have := gapF_len s l r b
    have h1 : (gap1 s l a b).length ≤ 1 := by unfold gap1; split <;> simp
    simp; omega
theorem gapsL_len (s l : Int) (L : List Int) : (gapsL s l L).length ≤ L.length := by
  cases L with
  | nil => simp [gapsL]
  | cons a r => have := gapF_len s l r a; simp [gapsL]; omega
/-- The middle of the last mark that has come. -/
def lmM (s l : Int) (L : List Int) : Int := if L = [] then 0 else mdl s l (lst0 L)
theorem lmM_snoc (s l : Int) (L : List Int) (y : Int) : lmM s l (L ++ [y]) = mdl s l y := by unfold lmM; rw [if_neg (by simp), lst0_snoc]
theorem RoundIn_any {m m' : Nat} {P : Program} {l : Nat} {f : FuncId} {tmps : Array Value} {assign body : Code} {w : World} {R : Ending → World → Prop}
    (h : RoundIn Fence.wide m P l f tmps assign body w R) : RoundIn Fence.wide m' P l f tmps assign body w R := ⟨h.1, fun c cs _ => h.2 c cs (room_wide _)⟩
theorem RoundIn_in {m m' : Nat} {P : Program} {l l' : Nat} {f : FuncId} {tmps : Array Value} {assign body : Code} {w : World} {R : Ending → World → Prop}
    (h : RoundIn Fence.wide m P l f tmps assign body w R) : RoundIn (Fence.wide.inRound l') m' P l f tmps assign body w R := RoundIn_any h

theorem RdX.more {bs cs : List Nat} {W W' : World} {A : Option Addr} {zs : List P3} (h : RdX bs W A zs) (hk : Below W.heap.size W W') (hc : ∀ b ∈ cs, b ∈ bs ∨ W.heap.size ≤ b) : RdX cs W' A zs := fun k hk' => by
  obtain ⟨g, o, e, hcell, hg⟩ := h k hk'
  have hlt := World.block_lt_of_cell? W _ hcell
  exact ⟨g, o, e, (hk.cell hlt).trans hcell, fun hm => by rcases hc g hm with h1 | h1; exact hg h1; simp at hlt; omega⟩
theorem grown_gr {W W' : World} (h : Gr W W') : W.grownBy W' none := ⟨h.below.os, h.below.tape, h.below.output, h.below.size, fun k hk _ => h.below.block k hk⟩
theorem AbX.gr {β : Type} {B : Nat} {J : β → World → Prop} (h : AbX B J) {s : β} {W W' : World} (hs : J s W) (hg : Gr W W') : J s W' := h s W W' none hs (grown_gr hg) (fun r e => by cases e)

/-- The end of a round: the mark and its middle are stored. -/
theorem gap_end {s len : Int} {q4 q5 q6 c2 c3 l : Nat} {bs : List Nat} {J : List Int → World → Prop} {X X2 : World} {v5 v6 : Value} (y md : Int) (G : List Int) (hJ : AbX q4 J) (e5 : q4 + 1 = q5) (e6 : q5 + 1 = q6) (l2 : c2 < q4) (l3 : c3 < q4) (lD : 5 < q4)
    (hk : Kx (q5 :: q6 :: bs) X X2) (b4 : Boxed X2 q4 88 (.func (.yield l) #[] #[])) (b5 : Boxed X2 q5 2 v5) (b6 : Boxed X2 q6 2 v6) (b2 : Boxed X2 c2 2 (.int .i64 s)) (b3 : Boxed X2 c3 2 (.int .i64 len)) (hD : Dcs X2) (hj : J G X2) :
    Kx (q5 :: q6 :: bs) X ((X2.setCell ⟨q5, 0, none⟩ (.int .i64 y)).setCell ⟨q6, 0, none⟩ (.int .i64 md)) ∧
      (((Boxed ((X2.setCell ⟨q5, 0, none⟩ (.int .i64 y)).setCell ⟨q6, 0, none⟩ (.int .i64 md)) q4 88 (.func (.yield l) #[] #[]) ∧ Boxed ((X2.setCell ⟨q5, 0, none⟩ (.int .i64 y)).setCell ⟨q6, 0, none⟩ (.int .i64 md)) q5 2 (.int .i64 y)) ∧
        (Boxed ((X2.setCell ⟨q5, 0, none⟩ (.int .i64 y)).setCell ⟨q6, 0, none⟩ (.int .i64 md)) q6 2 (.int .i64 md) ∧ (Boxed ((X2.setCell ⟨q5, 0, none⟩ (.int .i64 y)).setCell ⟨q6, 0, none⟩ (.int .i64 md)) c2 2 (.int .i64 s) ∧ Boxed ((X2.setCell ⟨q5, 0, none⟩ (.int .i64 y)).setCell ⟨q6, 0, none⟩ (.int .i64 md)) c3 2 (.int .i64 len)))) ∧
        Dcs ((X2.setCell ⟨q5, 0, none⟩ (.int .i64 y)).setCell ⟨q6, 0, none⟩ (.int .i64 md))) ∧ J G ((X2.setCell ⟨q5, 0, none⟩ (.int .i64 y)).setCell ⟨q6, 0, none⟩ (.int .i64 md)) := by
  have k2 : Kx (q5 :: q6 :: bs) X2 ((X2.setCell ⟨q5, 0, none⟩ (.int .i64 y)).setCell ⟨q6, 0, none⟩ (.int .i64 md)) := (Kx.set _ _ (by simp) _).trans (Kx.set _ _ (by simp) _)
  have k3 : Kx [q5, q6] X2 ((X2.setCell ⟨q5, 0, none⟩ (.int .i64 y)).setCell ⟨q6, 0, none⟩ (.int .i64 md)) := (Kx.set _ _ (by simp) _).trans (Kx.set _ _ (by simp) _)
  refine ⟨hk.trans k2, ⟨⟨⟨(b4.other (by omega) _).other (by omega) _, (b5.set _).other (by omega) _⟩, (b6.other (by omega) _).set _, (b2.other (by omega) _).other (by omega) _, (b3.other (by omega) _).other (by omega) _⟩, hD.kx k3 (by simp; omega)⟩, ?_⟩
  exact hJ G _ _ (some q6) (hJ G _ _ (some q5) hj (grownBy_setCell' _ _ _) (fun r e => by cases e; omega)) (grownBy_setCell' _ _ _) (fun r e => by cases e; omega)

set_option maxRecDepth 100000 in
set_option maxHeartbeats 40000000 in
theorem gaps1_in (n : Nat) (hn : n = 8) (s len : Int) (hs : sc s = true) (hln : ln len = true) (A : Option Addr) (cnt c : Nat) (zs : List P3) (hl : zs.length = cnt) (hlN : cnt ≤ 16777216) (hok : ∀ p ∈ zs, ∃ a, ptOk a p = true ∧ 0 ≤ a) (hM : ∀ x ∈ mks zs, 1000 ≤ x ∧ x < 10000)
    (l c1 c2 c3 bp : Nat) (bs : List Nat) (J Jx : List Int → World → Prop) (W : World) (hbs : ∀ b ∈ bs, b < W.heap.size) (hJ : AbX W.heap.size J) (hJx : AbX W.heap.size Jx)
    (hY : ∀ pre x W1, J pre W1 → pre.length < (mks zs).length → YieldAt Fence.wide (n - 1) Tryd.prog l #[.int .i64 x] W1 fun e W' =>
      ((e = .returned (.bool true) ∧ J (pre ++ [x]) W') ∨ (e = .returned (.bool false) ∧ Jx (pre ++ [x]) W')) ∧ Kx bs W1 W')
    (h1 : Boxed W c1 97 (.func (.func 143) #[] #[.pointer (some ⟨bp, 0, none⟩)])) (h2 : Boxed W c2 2 (.int .i64 s)) (h3 : Boxed W c3 2 (.int .i64 len)) (hb : W.cell? ⟨bp, 0, none⟩ = some (.slice A cnt c)) (hR : RdX bs W A zs) (hD : Dcs W)
    (n2 : c2 ∉ bs) (n3 : c3 ∉ bs) (nD : 5 ∉ bs) (h0 : J [] W) :
    CallsIn Fence.wide n Tryd.prog 141 #[.func (.yield l) #[] #[], .pointer (some ⟨c1, 0, none⟩), .pointer (some ⟨c2, 0, none⟩), .pointer (some ⟨c3, 0, none⟩)] W fun e W' => (∃ v, e = .returned v) ∧
      ((∃ ys, ys = gapsL s len (mks zs) ∧ J ys W') ∨ (∃ pre, pre <+: gapsL s len (mks zs) ∧ Jx pre W')) := by
  subst hn
  have k1 := h1.cell
  have hlt2 := h2.lt
  have hlt3 := h3.lt
  have hltD : 5 < W.heap.size := World.block_lt_of_cell? W _ (hD 0 (by omega))
  refine callsIn_of_wp_marks Tryd.func141 rfl trivial ?_ rfl
  simp only [Tryd.ntmps141, List.size_toArray, List.length_cons, List.length_nil, Nat.reduceAdd, Nat.reduceSub, Array.replicate_succ, Array.replicate_zero, List.push_toArray, List.append_toArray, List.nil_append, List.cons_append]
  have k1a := (((h1.alloc (.cells #[.func (.yield l) #[] #[]] 88)).alloc (.cells #[.int .i64 0] 2)).alloc (.cells #[.int .i64 0] 2)).cell
  gi_wp2
  clear k1a
  have x4 := ((Boxed.new W 88 (.func (.yield l) #[] #[])).alloc (.cells #[.int .i64 0] 2)).alloc (.cells #[.int .i64 0] 2)
  have x5 := (Boxed.new (W.alloc (.cells #[.func (.yield l) #[] #[]] 88)) 2 (.int .i64 0)).alloc (.cells #[.int .i64 0] 2)
  have x6 := Boxed.new ((W.alloc (.cells #[.func (.yield l) #[] #[]] 88)).alloc (.cells #[.int .i64 0] 2)) 2 (.int .i64 0)
  have x2 := ((h2.alloc (.cells #[.func (.yield l) #[] #[]] 88)).alloc (.cells #[.int .i64 0] 2)).alloc (.cells #[.int .i64 0] 2)
  have x3 := ((h3.alloc (.cells #[.func (.yield l) #[] #[]] 88)).alloc (.cells #[.int .i64 0] 2)).alloc (.cells #[.int .i64 0] 2)
  have G0 : Gr W (((W.alloc (.cells #[.func (.yield l) #[] #[]] 88)).alloc (.cells #[.int .i64 0] 2)).alloc (.cells #[.int .i64 0] 2)) := (by repeat (first | with_reducible exact Gr.refl _ | with_reducible refine Gr.alloc ?_ _ | with_reducible refine Gr.gr ?_ _ _ | with_reducible refine Gr.drew ?_ | with_reducible refine Gr.drewN ?_ _))
  have hsz : (((W.alloc (.cells #[.func (.yield l) #[] #[]] 88)).alloc (.cells #[.int .i64 0] 2)).alloc (.cells #[.int .i64 0] 2)).heap.size = W.heap.size + 1 + 1 + 1 := by simp
  simp only [World.size_alloc] at x5 x6
  generalize ((W.alloc (.cells #[.func (.yield l) #[] #[]] 88)).alloc (.cells #[.int .i64 0] 2)).alloc (.cells #[.int .i64 0] 2) = Wa at *
  obtain ⟨q4, e4⟩ : ∃ q, W.heap.size = q := ⟨_, rfl⟩
  obtain ⟨q5, e5⟩ : ∃ q, q4 + 1 = q := ⟨_, rfl⟩
  obtain ⟨q6, e6⟩ : ∃ q, q5 + 1 = q := ⟨_, rfl⟩
  rw [e4] at x4 x5 x6 hsz hlt2 hlt3 hltD hbs hJ hJx
  rw [e5] at x5 x6 hsz
  rw [e6] at x6 hsz
  simp only [e4]
  simp only [e5]
  simp only [e6]
  have HM := Lib.hid hM
  have HY := Lib.hid hY
  clear hY hM
  refine rangeX rfl (by omega) (gf := 143) (lb := #[.pointer (some ⟨bp, 0, none⟩)]) rfl trivial (enters_of Tryd.func143 (by kernel_rfl) rfl) (bs := q5 :: q6 :: bs)
    (fun b hb => by rcases List.mem_cons.1 hb with rfl | hb; omega; rcases List.mem_cons.1 hb with rfl | hb; omega; have := hbs b hb; omega)
    (marksX (8 - 1) (by omega) A cnt c zs hl hlN hok bp Wa _ ((G0.below.cell (p := ⟨bp, 0, none⟩) (World.block_lt_of_cell? W _ hb)).trans hb) (hR.more G0.below (fun b hb => by
      rw [e4]
      rcases List.mem_cons.1 hb with rfl | hb; exact .inr (by omega)
      rcases List.mem_cons.1 hb with rfl | hb; exact .inr (by omega)
      rcases List.mem_cons.1 hb with rfl | hb; exact .inr (by omega)
      exact .inl hb))) (Below.refl _ _) ?hps
    (fun pre X => (((Boxed X q4 88 (.func (.yield l) #[] #[]) ∧ Boxed X q5 2 (.int .i64 (lst0 (unM pre)))) ∧ (Boxed X q6 2 (.int .i64 (lmM s len (unM pre))) ∧ (Boxed X c2 2 (.int .i64 s) ∧ Boxed X c3 2 (.int .i64 len)))) ∧ Dcs X) ∧ J (gapsL s len (unM pre)) X)
    (fun pre X => Jx (gapsL s len (unM pre)) X)
    (AbX.and (AbX.and (AbX.and (AbX.and (abX_boxed (by omega) _ (fun _ => .func (.yield l) #[] #[])) (abX_boxed (by omega) _ (fun pre => .int .i64 (lst0 (unM pre))))) (AbX.and (abX_boxed (by omega) _ (fun pre => .int .i64 (lmM s len (unM pre)))) (AbX.and (abX_boxed (by omega) _ (fun _ => .int .i64 s)) (abX_boxed (by omega) _ (fun _ => .int .i64 len))))) (abX_dcs (by omega))) (fun pre X X' row hs hg hr => hJ _ X X' row hs hg (fun r e => by have := hr r e; omega)))
    (fun pre X X' row hs hg hr => hJx _ X X' row hs hg (fun r e => by have := hr r e; omega))
    ⟨⟨⟨⟨x4, x5⟩, x6, x2, x3⟩, hD.gr G0⟩, hJ.gr h0 G0⟩
    (fun y => { tmps := #[.func (.yield l) #[] #[], .pointer (some ⟨c1, 0, none⟩), .pointer (some ⟨c2, 0, none⟩), .pointer (some ⟨c3, 0, none⟩), .pointer (some ⟨q4, 0, none⟩), .pointer (some ⟨q5, 0, none⟩), .pointer (some ⟨q6, 0, none⟩), .int .i64 y.1, undef, undef, .func (.func 143) #[] #[.pointer (some ⟨bp, 0, none⟩)], .int .i64 y.1, undef, undef, undef, undef, undef, undef, undef, undef, undef, undef, undef, undef, undef, undef, undef, undef, undef, undef, undef, undef, undef, undef, undef, undef, undef, undef, undef, undef, undef, undef], defers := [] }) ?assign ?body ?done ?stop
  case hps => exact fun _ => rfl
  case assign =>
    intro l' y X K hK
    gi_wp2
    exact hK
  case body =>
    rintro l' pre y X ⟨⟨⟨⟨b4, b5⟩, b6, b2, b3⟩, hDX⟩, hJX⟩ hlen hszX
    obtain ⟨y1, y2⟩ := HM.out y.1 y.2
    have hfg : fg y.1 0 = true := (fg_iff _ _).2 ⟨⟨y1, by omega⟩, by omega⟩
    obtain ⟨p1, p2, p3, p4, -⟩ := pl_bd s y.1 0 len hfg hln
    have HMO := Lib.hid (fun W hW => middleOf_any y.1 s len W hW hfg hs hln)
    have HMd := Lib.hid (show mdl s len y.1 = ((pl s y.1 0 len).1 + (pl s y.1 0 len).2).fdiv 2 from rfl)
    have HT := Lib.hid (unM_snoc pre y)
    obtain ⟨y, hy⟩ := y
    simp only at *
    generalize pl s y 0 len = pp at *
    obtain ⟨pa, pb⟩ := pp
    simp only at HMd p1 p2 p3 p4
    have k2 := b2.cell
    have k3 := b3.cell
    have k4 := b4.cell
    have k5 := b5.cell
    have k6 := b6.cell
    have hl2 := b2.lt
    have hl3 := b3.lt
    have hl4 := b4.lt
    have hl5 := b5.lt
    have hl6 := b6.lt
    have HDX := Lib.hid hDX
    clear hDX hfg
    have HI := Lib.hid (fun (X2 : World) (hg : Gr X X2) (G : List Int) (hj : J G X2) => gap_end (bs := bs) y (mdl s len y) G hJ e5 e6 hlt2 hlt3 hltD (Kx.of_below (bs := q5 :: q6 :: bs) hg.below) (boxed_gr b4 hg) (boxed_gr b5 hg) (boxed_gr b6 hg) (boxed_gr b2 hg) (boxed_gr b3 hg) (HDX.out.gr hg) hj)
    have HE := Lib.hid (fun (X2 : World) (hg : Gr X X2) => hJ.gr hJX hg)
    have HLS := Lib.hid (lst0_snoc (unM pre) y)
    have HLM := Lib.hid (lmM_snoc s len (unM pre) y)
    by_cases hp : unM pre = []
    · have HG := Lib.hid (show gapsL s len (unM pre ++ [y]) = gapsL s len (unM pre) by rw [hp]; rfl)
      have hla : lst0 (unM pre) = 0 := by rw [hp]; rfl
      rw [hla] at k5 b5
      clear hp hla HY HM
      by_cases e1 : s = 4
      · subst e1
        by_cases e3 : 3142 < y
        · gi_wp2_with (refine ⟨trivial, ?_⟩; gi_at_call 103; refine (CallsIn.inRound l' (callsIn_wide.2 (HMO.out _ HDX.out))).mono ?_; rintro e w' ⟨rfl, kk, os, rfl⟩; obtain ⟨X1, hX1⟩ : ∃ X1, gr X kk os = X1 := ⟨_, rfl⟩; rw [hX1]; have G1 : Gr X X1 := (by rw [← hX1]; exact (Gr.refl X).gr kk os); clear hX1; have z2 := (boxed_gr b2 G1).cell; have z4 := (boxed_gr b4 G1).cell; have z5 := (boxed_gr b5 G1).cell; have z6 := (boxed_gr b6 G1).cell; have f5 := (boxed_gr b5 G1).frozen; have f6 := (boxed_gr b6 G1).frozen)
          (refine wpIn_region_quietR_lit (by kernel_rfl) (by kernel_rfl) (by kernel_rfl) ?_; (repeat (refine wpQuietIn_step (fun _ _ _ _ => trivial) (fun K hK => ?_); go_simp; first | (refine hK _ ?_; clear hK K) | (apply Exists.intro; refine ⟨fun _ => ?_, hK _ ?_⟩; (fail); clear hK K))); refine wpQuietIn_nil ?_; intro _ hw'; obtain ⟨nq, hw''⟩ := hw'; subst hw'')
          gi_wp2
          obtain ⟨r1, r2, r3⟩ := HI.out (X1.drewN nq) (G1.drewN nq) _ (HE.out _ (G1.drewN nq))
          exact ⟨r1, by simp only [HT.out, HLS.out, HLM.out, HG.out]; exact ⟨r2, r3⟩⟩
        · gi_wp2_with (refine ⟨trivial, ?_⟩; gi_at_call 103; refine (CallsIn.inRound l' (callsIn_wide.2 (HMO.out _ HDX.out))).mono ?_; rintro e w' ⟨rfl, kk, os, rfl⟩; obtain ⟨X1, hX1⟩ : ∃ X1, gr X kk os = X1 := ⟨_, rfl⟩; rw [hX1]; have G1 : Gr X X1 := (by rw [← hX1]; exact (Gr.refl X).gr kk os); clear hX1; have z2 := (boxed_gr b2 G1).cell; have z4 := (boxed_gr b4 G1).cell; have z5 := (boxed_gr b5 G1).cell; have z6 := (boxed_gr b6 G1).cell; have f5 := (boxed_gr b5 G1).frozen; have f6 := (boxed_gr b6 G1).frozen)
          (refine wpIn_region_quietR_lit (by kernel_rfl) (by kernel_rfl) (by kernel_rfl) ?_; (repeat (refine wpQuietIn_step (fun _ _ _ _ => trivial) (fun K hK => ?_); go_simp; first | (refine hK _ ?_; clear hK K) | (apply Exists.intro; refine ⟨fun _ => ?_, hK _ ?_⟩; (fail); clear hK K))); refine wpQuietIn_nil ?_; intro _ hw'; obtain ⟨nq, hw''⟩ := hw'; subst hw'')
          gi_wp2
          obtain ⟨r1, r2, r3⟩ := HI.out (X1.drewN nq) (G1.drewN nq) _ (HE.out _ (G1.drewN nq))
          exact ⟨r1, by simp only [HT.out, HLS.out, HLM.out, HG.out]; exact ⟨r2, r3⟩⟩
      · gi_wp2_with (refine ⟨trivial, ?_⟩; gi_at_call 103; refine (CallsIn.inRound l' (callsIn_wide.2 (HMO.out _ HDX.out))).mono ?_; rintro e w' ⟨rfl, kk, os, rfl⟩; obtain ⟨X1, hX1⟩ : ∃ X1, gr X kk os = X1 := ⟨_, rfl⟩; rw [hX1]; have G1 : Gr X X1 := (by rw [← hX1]; exact (Gr.refl X).gr kk os); clear hX1; have z2 := (boxed_gr b2 G1).cell; have z4 := (boxed_gr b4 G1).cell; have z5 := (boxed_gr b5 G1).cell; have z6 := (boxed_gr b6 G1).cell; have f5 := (boxed_gr b5 G1).frozen; have f6 := (boxed_gr b6 G1).frozen)
        (refine wpIn_region_quietR_lit (by kernel_rfl) (by kernel_rfl) (by kernel_rfl) ?_; (repeat (refine wpQuietIn_step (fun _ _ _ _ => trivial) (fun K hK => ?_); go_simp; first | (refine hK _ ?_; clear hK K) | (apply Exists.intro; refine ⟨fun _ => ?_, hK _ ?_⟩; (fail); clear hK K))); refine wpQuietIn_nil ?_; intro _ hw'; obtain ⟨nq, hw''⟩ := hw'; subst hw'')
        gi_wp2
        obtain ⟨r1, r2, r3⟩ := HI.out (X1.drewN nq) (G1.drewN nq) _ (HE.out _ (G1.drewN nq))
        exact ⟨r1, by simp only [HT.out, HLS.out, HLM.out, HG.out]; exact ⟨r2, r3⟩⟩
    · have hmem := lst0_mem _ hp
      obtain ⟨qm, -, hqm⟩ := List.mem_map.1 hmem
      obtain ⟨m1, m2⟩ := HM.out qm.1 qm.2
      rw [hqm] at m1 m2
      have hlm : lmM s len (unM pre) = mdl s len (lst0 (unM pre)) := by unfold lmM; rw [if_neg hp]
      rw [hlm] at k6 b6
      obtain ⟨w1, w2, w3, w4, -⟩ := pl_bd s (lst0 (unM pre)) 0 len ((fg_iff _ _).2 ⟨⟨m1, by omega⟩, by omega⟩) hln
      have hmb : -400000 ≤ mdl s len (lst0 (unM pre)) ∧ mdl s len (lst0 (unM pre)) ≤ 620000 := by
        unfold mdl
        rw [Int.fdiv_eq_ediv_of_nonneg _ (by omega)]
        omega
      have hmb2 : -400000 ≤ mdl s len y ∧ mdl s len y ≤ 620000 := by
        rw [HMd.out, Int.fdiv_eq_ediv_of_nonneg _ (by omega)]
        omega
      have HGS := Lib.hid (gapsL_snoc s len hp y)
      have HGL : (gapsL s len (unM pre)).length < (mks zs).length := by have := gapsL_len s len (unM pre); rw [unM_len] at this; omega
      have HDs := Lib.hid (fun W => distance_any (mdl s len y) (mdl s len (lst0 (unM pre))) W (by omega) (by omega) (by omega) (by omega))
      have HYX := Lib.hid (fun (X2 : World) (hg : Gr X X2) => HY.out (gapsL s len (unM pre)) ((mdl s len y - mdl s len (lst0 (unM pre))).natAbs : Int) X2 (HE.out X2 hg) HGL)
      have HG1 := Lib.hid (show gap1 s len (lst0 (unM pre)) y = if cnts s (lst0 (unM pre)) y = true then [((mdl s len y - mdl s len (lst0 (unM pre))).natAbs : Int)] else [] from rfl)
      clear hp hmem hqm hlm w1 w2 w3 w4 HGL HY HM hmb hmb2
      generalize lst0 (unM pre) = la at *
      generalize mdl s len la = ml at *
      generalize ((mdl s len y - ml).natAbs : Int) = dd at *
      have hpos : 0 < la := by omega
      by_cases e1 : s = 4
      · subst e1
        by_cases e2 : la ≤ 3142
        · by_cases e3 : 3142 < y
          · have HG := Lib.hid (show gapsL 4 len (unM pre ++ [y]) = gapsL 4 len (unM pre) by rw [HGS.out, HG1.out, if_neg (by unfold cnts; simp; omega), List.append_nil])
            gi_wp2_with (refine ⟨trivial, ?_⟩; gi_at_call 103; refine (CallsIn.inRound l' (callsIn_wide.2 (HMO.out _ HDX.out))).mono ?_; rintro e w' ⟨rfl, kk, os, rfl⟩; obtain ⟨X1, hX1⟩ : ∃ X1, gr X kk os = X1 := ⟨_, rfl⟩; rw [hX1]; have G1 : Gr X X1 := (by rw [← hX1]; exact (Gr.refl X).gr kk os); clear hX1; have z2 := (boxed_gr b2 G1).cell; have z4 := (boxed_gr b4 G1).cell; have z5 := (boxed_gr b5 G1).cell; have z6 := (boxed_gr b6 G1).cell; have f5 := (boxed_gr b5 G1).frozen; have f6 := (boxed_gr b6 G1).frozen)
            (refine wpIn_region_quietR_lit (by kernel_rfl) (by kernel_rfl) (by kernel_rfl) ?_; (repeat (refine wpQuietIn_step (fun _ _ _ _ => trivial) (fun K hK => ?_); go_simp; first | (refine hK _ ?_; clear hK K) | (apply Exists.intro; refine ⟨fun _ => ?_, hK _ ?_⟩; (fail); clear hK K))); refine wpQuietIn_nil ?_; intro _ hw'; obtain ⟨nq, hw''⟩ := hw'; subst hw'')
            gi_wp2
            obtain ⟨r1, r2, r3⟩ := HI.out (X1.drewN nq) (G1.drewN nq) _ (HE.out _ (G1.drewN nq))
            exact ⟨r1, by simp only [HT.out, HLS.out, HLM.out, HG.out]; exact ⟨r2, r3⟩⟩
          · have g3 : decide (3142 < y) = false := decide_eq_false e3
            have HG := Lib.hid (show gapsL 4 len (unM pre ++ [y]) = gapsL 4 len (unM pre) ++ [dd] by rw [HGS.out, HG1.out, if_pos (by unfold cnts; simp; omega)])
            gi_wp2_with (refine ⟨trivial, ?_⟩; gi_at_call 103; refine (CallsIn.inRound l' (callsIn_wide.2 (HMO.out _ HDX.out))).mono ?_; rintro e w' ⟨rfl, kk, os, rfl⟩; obtain ⟨X1, hX1⟩ : ∃ X1, gr X kk os = X1 := ⟨_, rfl⟩; rw [hX1]; have G1 : Gr X X1 := (by rw [← hX1]; exact (Gr.refl X).gr kk os); clear hX1; have z2 := (boxed_gr b2 G1).cell; have z4 := (boxed_gr b4 G1).cell; have z5 := (boxed_gr b5 G1).cell; have z6 := (boxed_gr b6 G1).cell; have f5 := (boxed_gr b5 G1).frozen; have f6 := (boxed_gr b6 G1).frozen)
            apply wpIn_region_prefixA #[true, true, true, true, true, true, true, true, true, true, true, false, false, false] (fuel := 11) (r := 3) (hm := by kernel_rfl) (hd := by kernel_rfl) (hsz := by rfl)
            case hq =>
              refine anyQ_ready (rs := [0]) (by kernel_rfl) (by simp) ?_
              refine allQ_cons (qOp_step rfl (fun _ _ _ _ => trivial) (fun K hK => ?_)) allQ_nil
              go_simp
              refine hK _ ?_
              clear hK K
              refine anyQ_ready (rs := [1]) (by kernel_rfl) (by simp) ?_
              refine allQ_cons (qOp_step rfl (fun _ _ _ _ => trivial) (fun K hK => ?_)) allQ_nil
              go_simp
              refine hK _ ?_
              clear hK K
              refine anyQ_ready (rs := [2]) (by kernel_rfl) (by simp) ?_
              refine allQ_cons (qOp_step rfl (fun _ _ _ _ => trivial) (fun K hK => ?_)) allQ_nil
              go_simp
              refine hK _ ?_
              clear hK K
              refine anyQ_ready (rs := [3]) (by kernel_rfl) (by simp) ?_
              refine allQ_cons (qOp_step rfl (fun _ _ _ _ => trivial) (fun K hK => ?_)) allQ_nil
              go_simp
              refine hK _ ?_
              clear hK K
              refine anyQ_ready (rs := [4]) (by kernel_rfl) (by simp) ?_
              refine allQ_cons (qOp_step rfl (fun _ _ _ _ => trivial) (fun K hK => ?_)) allQ_nil
              go_simp
              refine hK _ ?_
              clear hK K
              refine anyQ_ready (rs := [5]) (by kernel_rfl) (by simp) ?_
              refine allQ_cons (qOp_step rfl (fun _ _ _ _ => trivial) (fun K hK => ?_)) allQ_nil
              go_simp
              refine hK _ ?_
              clear hK K
              refine anyQ_ready (rs := [6]) (by kernel_rfl) (by simp) ?_
              refine allQ_cons (qOp_step rfl (fun _ _ _ _ => trivial) (fun K hK => ?_)) allQ_nil
              go_simp
              refine hK _ ?_
              clear hK K
              refine anyQ_ready (rs := [7, 8, 9]) (by kernel_rfl) (by simp) ?_
              refine allQ_cons (qOp_step rfl (fun _ _ _ _ => trivial) (fun K hK => ?_)) (allQ_cons (qOp_step rfl (fun _ _ _ _ => trivial) (fun K hK => ?_)) (allQ_cons (qOp_step rfl (fun _ _ _ _ => trivial) (fun K hK => ?_)) allQ_nil))
              · go_simp
                refine hK _ ?_
                clear hK K
                refine anyQ_ready (rs := [8, 9]) (by kernel_rfl) (by simp) ?_
                refine allQ_cons (qOp_step rfl (fun _ _ _ _ => trivial) (fun K hK => ?_)) (allQ_cons (qOp_step rfl (fun _ _ _ _ => trivial) (fun K hK => ?_)) allQ_nil)
                · go_simp
                  refine hK _ ?_
                  clear hK K
                  refine anyQ_ready (rs := [9]) (by kernel_rfl) (by simp) ?_
                  refine allQ_cons (qOp_step rfl (fun _ _ _ _ => trivial) (fun K hK => ?_)) allQ_nil
                  go_simp
                  refine hK _ ?_
                  clear hK K
                  refine anyQ_ready (rs := [10]) (by kernel_rfl) (by simp) ?_
                  refine allQ_cons (qOp_step rfl (fun _ _ _ _ => trivial) (fun K hK => ?_)) allQ_nil
                  go_simp
                  apply Exists.intro
                  refine ⟨fun _ => ?_, hK _ ?_⟩
                  · gi_at_call 142
                    with_reducible exact CallsIn.quiet_of_same (CallsIn.inRound l' (callsIn_wide.2 ((HDs.out _).mono fun _ _ h => ⟨h.1, h.2.symm⟩)))
                  clear hK K
                  exact ⟨by decide, rfl⟩
                · go_simp
                  refine hK _ ?_
                  clear hK K
                  refine anyQ_ready (rs := [8]) (by kernel_rfl) (by simp) ?_
                  refine allQ_cons (qOp_step rfl (fun _ _ _ _ => trivial) (fun K hK => ?_)) allQ_nil
                  go_simp
                  refine hK _ ?_
                  clear hK K
                  refine anyQ_ready (rs := [10]) (by kernel_rfl) (by simp) ?_
                  refine allQ_cons (qOp_step rfl (fun _ _ _ _ => trivial) (fun K hK => ?_)) allQ_nil
                  go_simp
                  apply Exists.intro
                  refine ⟨fun _ => ?_, hK _ ?_⟩
                  · gi_at_call 142
                    with_reducible exact CallsIn.quiet_of_same (CallsIn.inRound l' (callsIn_wide.2 ((HDs.out _).mono fun _ _ h => ⟨h.1, h.2.symm⟩)))
                  clear hK K
                  exact ⟨by decide, rfl⟩
              · go_simp
                refine hK _ ?_
                clear hK K
                refine anyQ_ready (rs := [7, 9]) (by kernel_rfl) (by simp) ?_
                refine allQ_cons (qOp_step rfl (fun _ _ _ _ => trivial) (fun K hK => ?_)) (allQ_cons (qOp_step rfl (fun _ _ _ _ => trivial) (fun K hK => ?_)) allQ_nil)
                · go_simp
                  refine hK _ ?_
                  clear hK K
                  refine anyQ_ready (rs := [9]) (by kernel_rfl) (by simp) ?_
                  refine allQ_cons (qOp_step rfl (fun _ _ _ _ => trivial) (fun K hK => ?_)) allQ_nil
                  go_simp
                  refine hK _ ?_
                  clear hK K
                  refine anyQ_ready (rs := [10]) (by kernel_rfl) (by simp) ?_
                  refine allQ_cons (qOp_step rfl (fun _ _ _ _ => trivial) (fun K hK => ?_)) allQ_nil
                  go_simp
                  apply Exists.intro
                  refine ⟨fun _ => ?_, hK _ ?_⟩
                  · gi_at_call 142
                    with_reducible exact CallsIn.quiet_of_same (CallsIn.inRound l' (callsIn_wide.2 ((HDs.out _).mono fun _ _ h => ⟨h.1, h.2.symm⟩)))
                  clear hK K
                  exact ⟨by decide, rfl⟩
                · go_simp
                  refine hK _ ?_
                  clear hK K
                  refine anyQ_ready (rs := [7, 10]) (by kernel_rfl) (by simp) ?_
                  refine allQ_cons (qOp_step rfl (fun _ _ _ _ => trivial) (fun K hK => ?_)) (allQ_cons (qOp_step rfl (fun _ _ _ _ => trivial) (fun K hK => ?_)) allQ_nil)
                  · go_simp
                    refine hK _ ?_
                    clear hK K
                    refine anyQ_ready (rs := [10]) (by kernel_rfl) (by simp) ?_
                    refine allQ_cons (qOp_step rfl (fun _ _ _ _ => trivial) (fun K hK => ?_)) allQ_nil
                    go_simp
                    apply Exists.intro
                    refine ⟨fun _ => ?_, hK _ ?_⟩
                    · gi_at_call 142
                      with_reducible exact CallsIn.quiet_of_same (CallsIn.inRound l' (callsIn_wide.2 ((HDs.out _).mono fun _ _ h => ⟨h.1, h.2.symm⟩)))
                    clear hK K
                    exact ⟨by decide, rfl⟩
                  · go_simp
                    apply Exists.intro
                    refine ⟨fun _ => ?_, hK _ ?_⟩
                    · gi_at_call 142
                      with_reducible exact CallsIn.quiet_of_same (CallsIn.inRound l' (callsIn_wide.2 ((HDs.out _).mono fun _ _ h => ⟨h.1, h.2.symm⟩)))
                    clear hK K
                    refine anyQ_ready (rs := [7]) (by kernel_rfl) (by simp) ?_
                    refine allQ_cons (qOp_step rfl (fun _ _ _ _ => trivial) (fun K hK => ?_)) allQ_nil
                    go_simp
                    refine hK _ ?_
                    clear hK K
                    exact ⟨by decide, rfl⟩
              · go_simp
                refine hK _ ?_
                clear hK K
                refine anyQ_ready (rs := [7, 8]) (by kernel_rfl) (by simp) ?_
                refine allQ_cons (qOp_step rfl (fun _ _ _ _ => trivial) (fun K hK => ?_)) (allQ_cons (qOp_step rfl (fun _ _ _ _ => trivial) (fun K hK => ?_)) allQ_nil)
                · go_simp
                  refine hK _ ?_
                  clear hK K
                  refine anyQ_ready (rs := [8]) (by kernel_rfl) (by simp) ?_
                  refine allQ_cons (qOp_step rfl (fun _ _ _ _ => trivial) (fun K hK => ?_)) allQ_nil
                  go_simp
                  refine hK _ ?_
                  clear hK K
                  refine anyQ_ready (rs := [10]) (by kernel_rfl) (by simp) ?_
                  refine allQ_cons (qOp_step rfl (fun _ _ _ _ => trivial) (fun K hK => ?_)) allQ_nil
                  go_simp
                  apply Exists.intro
                  refine ⟨fun _ => ?_, hK _ ?_⟩
                  · gi_at_call 142
                    with_reducible exact CallsIn.quiet_of_same (CallsIn.inRound l' (callsIn_wide.2 ((HDs.out _).mono fun _ _ h => ⟨h.1, h.2.symm⟩)))
                  clear hK K
                  exact ⟨by decide, rfl⟩
                · go_simp
                  refine hK _ ?_
                  clear hK K
                  refine anyQ_ready (rs := [7, 10]) (by kernel_rfl) (by simp) ?_
                  refine allQ_cons (qOp_step rfl (fun _ _ _ _ => trivial) (fun K hK => ?_)) (allQ_cons (qOp_step rfl (fun _ _ _ _ => trivial) (fun K hK => ?_)) allQ_nil)
                  · go_simp
                    refine hK _ ?_
                    clear hK K
                    refine anyQ_ready (rs := [10]) (by kernel_rfl) (by simp) ?_
                    refine allQ_cons (qOp_step rfl (fun _ _ _ _ => trivial) (fun K hK => ?_)) allQ_nil
                    go_simp
                    apply Exists.intro
                    refine ⟨fun _ => ?_, hK _ ?_⟩
                    · gi_at_call 142
                      with_reducible exact CallsIn.quiet_of_same (CallsIn.inRound l' (callsIn_wide.2 ((HDs.out _).mono fun _ _ h => ⟨h.1, h.2.symm⟩)))
                    clear hK K
                    exact ⟨by decide, rfl⟩
                  · go_simp
                    apply Exists.intro
                    refine ⟨fun _ => ?_, hK _ ?_⟩
                    · gi_at_call 142
                      with_reducible exact CallsIn.quiet_of_same (CallsIn.inRound l' (callsIn_wide.2 ((HDs.out _).mono fun _ _ h => ⟨h.1, h.2.symm⟩)))
                    clear hK K
                    refine anyQ_ready (rs := [7]) (by kernel_rfl) (by simp) ?_
                    refine allQ_cons (qOp_step rfl (fun _ _ _ _ => trivial) (fun K hK => ?_)) allQ_nil
                    go_simp
                    refine hK _ ?_
                    clear hK K
                    exact ⟨by decide, rfl⟩
            case hQ =>
              intro nq
              obtain ⟨fn, tmps, assign, body, hy, hR⟩ := HYX.out (X1.drewN nq) (G1.drewN nq)
              refine wpAnyIn_ready (rs := [11]) (by kernel_rfl) (by simp) ?_
              refine AllReadyIn.cons rfl (fun K hK => ?_) AllReadyIn.nil
              go_simp
              have hkx : Kx (q5 :: q6 :: bs) X (X1.drewN nq) := Kx.of_below (G1.drewN nq).below
              refine (RoundIn_in (l' := l') hR).mono ?_
              rintro e W3 ⟨(⟨rfl, hJ3⟩ | ⟨rfl, hJx3⟩), hk3⟩
              · have hkx3 := hkx.trans (hk3.more (cs := q5 :: q6 :: bs) (fun b hb => by simp [hb]))
                have d4 := hk3.boxed (boxed_gr b4 (G1.drewN nq)) (fun e => by have := hbs _ e; omega)
                have d5 := hk3.boxed (boxed_gr b5 (G1.drewN nq)) (fun e => by have := hbs _ e; omega)
                have d6 := hk3.boxed (boxed_gr b6 (G1.drewN nq)) (fun e => by have := hbs _ e; omega)
                have d2 := hk3.boxed (boxed_gr b2 (G1.drewN nq)) n2
                have d3 := hk3.boxed (boxed_gr b3 (G1.drewN nq)) n3
                have HD3 := Lib.hid ((HDX.out.gr (G1.drewN nq)).kx hk3 nD)
                have u5 := d5.cell
                have u6 := d6.cell
                have v5 := d5.frozen
                have v6 := d6.frozen
                refine hK _ _ ?_
                clear hK K
                refine wpAnyIn_ready (rs := [12]) (by kernel_rfl) (by simp) ?_
                refine AllReadyIn.cons rfl (fun K hK => ?_) AllReadyIn.nil
                go_simp
                refine hK _ _ ?_
                clear hK K
                refine wpAnyIn_ready (rs := [13]) (by kernel_rfl) (by simp) ?_
                refine AllReadyIn.cons rfl (fun K hK => ?_) AllReadyIn.nil
                go_simp
                refine hK _ _ ?_
                clear hK K
                refine wpAnyIn_done (by kernel_rfl) ?_ _
                gi_wp2
                obtain ⟨r1, r2, r3⟩ := gap_end (bs := bs) (X := X) y (mdl 4 len y) _ hJ e5 e6 hlt2 hlt3 hltD hkx3 d4 d5 d6 d2 d3 HD3.out hJ3
                exact ⟨r1, by simp only [HT.out, HLS.out, HLM.out, HG.out]; exact ⟨r2, r3⟩⟩
              · have hkx3 := hkx.trans (hk3.more (cs := q5 :: q6 :: bs) (fun b hb => by simp [hb]))
                refine hK _ _ ?_
                clear hK K
                refine wpAnyIn_ready (rs := [12]) (by kernel_rfl) (by simp) ?_
                refine AllReadyIn.cons rfl (fun K hK => ?_) AllReadyIn.nil
                go_simp
                refine hK _ _ ?_
                clear hK K
                refine wpAnyIn_ready (rs := [13]) (by kernel_rfl) (by simp) ?_
                refine AllReadyIn.cons rfl (fun K hK => ?_) AllReadyIn.nil
                go_simp
                refine hK _ _ ?_
                clear hK K
                refine wpAnyIn_done (by kernel_rfl) ?_ _
                gi_wp2
                exact ⟨hkx3, by simp only [HT.out, HG.out]; exact hJx3⟩
        · have g2 : decide (la ≤ 3142) = false := decide_eq_false e2
          have HG := Lib.hid (show gapsL 4 len (unM pre ++ [y]) = gapsL 4 len (unM pre) ++ [dd] by rw [HGS.out, HG1.out, if_pos (by unfold cnts; simp; omega)])
          gi_wp2_with (refine ⟨trivial, ?_⟩; gi_at_call 103; refine (CallsIn.inRound l' (callsIn_wide.2 (HMO.out _ HDX.out))).mono ?_; rintro e w' ⟨rfl, kk, os, rfl⟩; obtain ⟨X1, hX1⟩ : ∃ X1, gr X kk os = X1 := ⟨_, rfl⟩; rw [hX1]; have G1 : Gr X X1 := (by rw [← hX1]; exact (Gr.refl X).gr kk os); clear hX1; have z2 := (boxed_gr b2 G1).cell; have z4 := (boxed_gr b4 G1).cell; have z5 := (boxed_gr b5 G1).cell; have z6 := (boxed_gr b6 G1).cell; have f5 := (boxed_gr b5 G1).frozen; have f6 := (boxed_gr b6 G1).frozen)
          apply wpIn_region_prefixA #[true, true, true, true, true, true, true, true, true, true, true, false, false, false] (fuel := 11) (r := 3) (hm := by kernel_rfl) (hd := by kernel_rfl) (hsz := by rfl)
          case hq =>
            refine anyQ_ready (rs := [0]) (by kernel_rfl) (by simp) ?_
            refine allQ_cons (qOp_step rfl (fun _ _ _ _ => trivial) (fun K hK => ?_)) allQ_nil
            go_simp
            refine hK _ ?_
            clear hK K
            refine anyQ_ready (rs := [1]) (by kernel_rfl) (by simp) ?_
            refine allQ_cons (qOp_step rfl (fun _ _ _ _ => trivial) (fun K hK => ?_)) allQ_nil
            go_simp
            refine hK _ ?_
            clear hK K
            refine anyQ_ready (rs := [2]) (by kernel_rfl) (by simp) ?_
            refine allQ_cons (qOp_step rfl (fun _ _ _ _ => trivial) (fun K hK => ?_)) allQ_nil
            go_simp
            refine hK _ ?_
            clear hK K
            refine anyQ_ready (rs := [3]) (by kernel_rfl) (by simp) ?_
            refine allQ_cons (qOp_step rfl (fun _ _ _ _ => trivial) (fun K hK => ?_)) allQ_nil
            go_simp
            refine hK _ ?_
            clear hK K
            refine anyQ_ready (rs := [4]) (by kernel_rfl) (by simp) ?_
            refine allQ_cons (qOp_step rfl (fun _ _ _ _ => trivial) (fun K hK => ?_)) allQ_nil
            go_simp
            refine hK _ ?_
            clear hK K
            refine anyQ_ready (rs := [5]) (by kernel_rfl) (by simp) ?_
            refine allQ_cons (qOp_step rfl (fun _ _ _ _ => trivial) (fun K hK => ?_)) allQ_nil
            go_simp
            refine hK _ ?_
            clear hK K
            refine anyQ_ready (rs := [6]) (by kernel_rfl) (by simp) ?_
            refine allQ_cons (qOp_step rfl (fun _ _ _ _ => trivial) (fun K hK => ?_)) allQ_nil
            go_simp
            refine hK _ ?_
            clear hK K
            refine anyQ_ready (rs := [7, 8, 9]) (by kernel_rfl) (by simp) ?_
            refine allQ_cons (qOp_step rfl (fun _ _ _ _ => trivial) (fun K hK => ?_)) (allQ_cons (qOp_step rfl (fun _ _ _ _ => trivial) (fun K hK => ?_)) (allQ_cons (qOp_step rfl (fun _ _ _ _ => trivial) (fun K hK => ?_)) allQ_nil))
            · go_simp
              refine hK _ ?_
              clear hK K
              refine anyQ_ready (rs := [8, 9]) (by kernel_rfl) (by simp) ?_
              refine allQ_cons (qOp_step rfl (fun _ _ _ _ => trivial) (fun K hK => ?_)) (allQ_cons (qOp_step rfl (fun _ _ _ _ => trivial) (fun K hK => ?_)) allQ_nil)
              · go_simp
                refine hK _ ?_
                clear hK K
                refine anyQ_ready (rs := [9]) (by kernel_rfl) (by simp) ?_
                refine allQ_cons (qOp_step rfl (fun _ _ _ _ => trivial) (fun K hK => ?_)) allQ_nil
                go_simp
                refine hK _ ?_
                clear hK K
                refine anyQ_ready (rs := [10]) (by kernel_rfl) (by simp) ?_
                refine allQ_cons (qOp_step rfl (fun _ _ _ _ => trivial) (fun K hK => ?_)) allQ_nil
                go_simp
                apply Exists.intro
                refine ⟨fun _ => ?_, hK _ ?_⟩
                · gi_at_call 142
                  with_reducible exact CallsIn.quiet_of_same (CallsIn.inRound l' (callsIn_wide.2 ((HDs.out _).mono fun _ _ h => ⟨h.1, h.2.symm⟩)))
                clear hK K
                exact ⟨by decide, rfl⟩
              · go_simp
                refine hK _ ?_
                clear hK K
                refine anyQ_ready (rs := [8]) (by kernel_rfl) (by simp) ?_
                refine allQ_cons (qOp_step rfl (fun _ _ _ _ => trivial) (fun K hK => ?_)) allQ_nil
                go_simp
                refine hK _ ?_
                clear hK K
                refine anyQ_ready (rs := [10]) (by kernel_rfl) (by simp) ?_
                refine allQ_cons (qOp_step rfl (fun _ _ _ _ => trivial) (fun K hK => ?_)) allQ_nil
                go_simp
                apply Exists.intro
                refine ⟨fun _ => ?_, hK _ ?_⟩
                · gi_at_call 142
                  with_reducible exact CallsIn.quiet_of_same (CallsIn.inRound l' (callsIn_wide.2 ((HDs.out _).mono fun _ _ h => ⟨h.1, h.2.symm⟩)))
                clear hK K
                exact ⟨by decide, rfl⟩
            · go_simp
              refine hK _ ?_
              clear hK K
              refine anyQ_ready (rs := [7, 9]) (by kernel_rfl) (by simp) ?_
              refine allQ_cons (qOp_step rfl (fun _ _ _ _ => trivial) (fun K hK => ?_)) (allQ_cons (qOp_step rfl (fun _ _ _ _ => trivial) (fun K hK => ?_)) allQ_nil)
              · go_simp
                refine hK _ ?_
                clear hK K
                refine anyQ_ready (rs := [9]) (by kernel_rfl) (by simp) ?_
                refine allQ_cons (qOp_step rfl (fun _ _ _ _ => trivial) (fun K hK => ?_)) allQ_nil
                go_simp
                refine hK _ ?_
                clear hK K
                refine anyQ_ready (rs := [10]) (by kernel_rfl) (by simp) ?_
                refine allQ_cons (qOp_step rfl (fun _ _ _ _ => trivial) (fun K hK => ?_)) allQ_nil
                go_simp
                apply Exists.intro
                refine ⟨fun _ => ?_, hK _ ?_⟩
                · gi_at_call 142
                  with_reducible exact CallsIn.quiet_of_same (CallsIn.inRound l' (callsIn_wide.2 ((HDs.out _).mono fun _ _ h => ⟨h.1, h.2.symm⟩)))
                clear hK K
                exact ⟨by decide, rfl⟩
              · go_simp
                refine hK _ ?_
                clear hK K
                refine anyQ_ready (rs := [7, 10]) (by kernel_rfl) (by simp) ?_
                refine allQ_cons (qOp_step rfl (fun _ _ _ _ => trivial) (fun K hK => ?_)) (allQ_cons (qOp_step rfl (fun _ _ _ _ => trivial) (fun K hK => ?_)) allQ_nil)
                · go_simp
                  refine hK _ ?_
                  clear hK K
                  refine anyQ_ready (rs := [10]) (by kernel_rfl) (by simp) ?_
                  refine allQ_cons (qOp_step rfl (fun _ _ _ _ => trivial) (fun K hK => ?_)) allQ_nil
                  go_simp
                  apply Exists.intro
                  refine ⟨fun _ => ?_, hK _ ?_⟩
                  · gi_at_call 142
                    with_reducible exact CallsIn.quiet_of_same (CallsIn.inRound l' (callsIn_wide.2 ((HDs.out _).mono fun _ _ h => ⟨h.1, h.2.symm⟩)))
                  clear hK K
                  exact ⟨by decide, rfl⟩
                · go_simp
                  apply Exists.intro
                  refine ⟨fun _ => ?_, hK _ ?_⟩
                  · gi_at_call 142
                    with_reducible exact CallsIn.quiet_of_same (CallsIn.inRound l' (callsIn_wide.2 ((HDs.out _).mono fun _ _ h => ⟨h.1, h.2.symm⟩)))
                  clear hK K
                  refine anyQ_ready (rs := [7]) (by kernel_rfl) (by simp) ?_
                  refine allQ_cons (qOp_step rfl (fun _ _ _ _ => trivial) (fun K hK => ?_)) allQ_nil
                  go_simp
                  refine hK _ ?_
                  clear hK K
                  exact ⟨by decide, rfl⟩
            · go_simp
              refine hK _ ?_
              clear hK K
              refine anyQ_ready (rs := [7, 8]) (by kernel_rfl) (by simp) ?_
              refine allQ_cons (qOp_step rfl (fun _ _ _ _ => trivial) (fun K hK => ?_)) (allQ_cons (qOp_step rfl (fun _ _ _ _ => trivial) (fun K hK => ?_)) allQ_nil)
              · go_simp
                refine hK _ ?_
                clear hK K
                refine anyQ_ready (rs := [8]) (by kernel_rfl) (by simp) ?_
                refine allQ_cons (qOp_step rfl (fun _ _ _ _ => trivial) (fun K hK => ?_)) allQ_nil
                go_simp
                refine hK _ ?_
                clear hK K
                refine anyQ_ready (rs := [10]) (by kernel_rfl) (by simp) ?_
                refine allQ_cons (qOp_step rfl (fun _ _ _ _ => trivial) (fun K hK => ?_)) allQ_nil
                go_simp
                apply Exists.intro
                refine ⟨fun _ => ?_, hK _ ?_⟩
                · gi_at_call 142
                  with_reducible exact CallsIn.quiet_of_same (CallsIn.inRound l' (callsIn_wide.2 ((HDs.out _).mono fun _ _ h => ⟨h.1, h.2.symm⟩)))
                clear hK K
                exact ⟨by decide, rfl⟩
              · go_simp
                refine hK _ ?_
                clear hK K
                refine anyQ_ready (rs := [7, 10]) (by kernel_rfl) (by simp) ?_
                refine allQ_cons (qOp_step rfl (fun _ _ _ _ => trivial) (fun K hK => ?_)) (allQ_cons (qOp_step rfl (fun _ _ _ _ => trivial) (fun K hK => ?_)) allQ_nil)
                · go_simp
                  refine hK _ ?_
                  clear hK K
                  refine anyQ_ready (rs := [10]) (by kernel_rfl) (by simp) ?_
                  refine allQ_cons (qOp_step rfl (fun _ _ _ _ => trivial) (fun K hK => ?_)) allQ_nil
                  go_simp
                  apply Exists.intro
                  refine ⟨fun _ => ?_, hK _ ?_⟩
                  · gi_at_call 142
                    with_reducible exact CallsIn.quiet_of_same (CallsIn.inRound l' (callsIn_wide.2 ((HDs.out _).mono fun _ _ h => ⟨h.1, h.2.symm⟩)))
                  clear hK K
                  exact ⟨by decide, rfl⟩
                · go_simp
                  apply Exists.intro
                  refine ⟨fun _ => ?_, hK _ ?_⟩
                  · gi_at_call 142
                    with_reducible exact CallsIn.quiet_of_same (CallsIn.inRound l' (callsIn_wide.2 ((HDs.out _).mono fun _ _ h => ⟨h.1, h.2.symm⟩)))
                  clear hK K
                  refine anyQ_ready (rs := [7]) (by kernel_rfl) (by simp) ?_
                  refine allQ_cons (qOp_step rfl (fun _ _ _ _ => trivial) (fun K hK => ?_)) allQ_nil
                  go_simp
                  refine hK _ ?_
                  clear hK K
                  exact ⟨by decide, rfl⟩
          case hQ =>
            intro nq
            obtain ⟨fn, tmps, assign, body, hy, hR⟩ := HYX.out (X1.drewN nq) (G1.drewN nq)
            refine wpAnyIn_ready (rs := [11]) (by kernel_rfl) (by simp) ?_
            refine AllReadyIn.cons rfl (fun K hK => ?_) AllReadyIn.nil
            go_simp
            have hkx : Kx (q5 :: q6 :: bs) X (X1.drewN nq) := Kx.of_below (G1.drewN nq).below
            refine (RoundIn_in (l' := l') hR).mono ?_
            rintro e W3 ⟨(⟨rfl, hJ3⟩ | ⟨rfl, hJx3⟩), hk3⟩
            · have hkx3 := hkx.trans (hk3.more (cs := q5 :: q6 :: bs) (fun b hb => by simp [hb]))
              have d4 := hk3.boxed (boxed_gr b4 (G1.drewN nq)) (fun e => by have := hbs _ e; omega)
              have d5 := hk3.boxed (boxed_gr b5 (G1.drewN nq)) (fun e => by have := hbs _ e; omega)
              have d6 := hk3.boxed (boxed_gr b6 (G1.drewN nq)) (fun e => by have := hbs _ e; omega)
              have d2 := hk3.boxed (boxed_gr b2 (G1.drewN nq)) n2
              have d3 := hk3.boxed (boxed_gr b3 (G1.drewN nq)) n3
              have HD3 := Lib.hid ((HDX.out.gr (G1.drewN nq)).kx hk3 nD)
              have u5 := d5.cell
              have u6 := d6.cell
              have v5 := d5.frozen
              have v6 := d6.frozen
              refine hK _ _ ?_
              clear hK K
              refine wpAnyIn_ready (rs := [12]) (by kernel_rfl) (by simp) ?_
              refine AllReadyIn.cons rfl (fun K hK => ?_) AllReadyIn.nil
              go_simp
              refine hK _ _ ?_
              clear hK K
              refine wpAnyIn_ready (rs := [13]) (by kernel_rfl) (by simp) ?_
              refine AllReadyIn.cons rfl (fun K hK => ?_) AllReadyIn.nil
              go_simp
              refine hK _ _ ?_
              clear hK K
              refine wpAnyIn_done (by kernel_rfl) ?_ _
              gi_wp2
              obtain ⟨r1, r2, r3⟩ := gap_end (bs := bs) (X := X) y (mdl 4 len y) _ hJ e5 e6 hlt2 hlt3 hltD hkx3 d4 d5 d6 d2 d3 HD3.out hJ3
              exact ⟨r1, by simp only [HT.out, HLS.out, HLM.out, HG.out]; exact ⟨r2, r3⟩⟩
            · have hkx3 := hkx.trans (hk3.more (cs := q5 :: q6 :: bs) (fun b hb => by simp [hb]))
              refine hK _ _ ?_
              clear hK K
              refine wpAnyIn_ready (rs := [12]) (by kernel_rfl) (by simp) ?_
              refine AllReadyIn.cons rfl (fun K hK => ?_) AllReadyIn.nil
              go_simp
              refine hK _ _ ?_
              clear hK K
              refine wpAnyIn_ready (rs := [13]) (by kernel_rfl) (by simp) ?_
              refine AllReadyIn.cons rfl (fun K hK => ?_) AllReadyIn.nil
              go_simp
              refine hK _ _ ?_
              clear hK K
              refine wpAnyIn_done (by kernel_rfl) ?_ _
              gi_wp2
              exact ⟨hkx3, by simp only [HT.out, HG.out]; exact hJx3⟩
      · have g1 : (s == 4) = false := by simpa using e1
        have HG := Lib.hid (show gapsL s len (unM pre ++ [y]) = gapsL s len (unM pre) ++ [dd] by rw [HGS.out, HG1.out, if_pos (by unfold cnts; simp; omega)])
        gi_wp2_with (refine ⟨trivial, ?_⟩; gi_at_call 103; refine (CallsIn.inRound l' (callsIn_wide.2 (HMO.out _ HDX.out))).mono ?_; rintro e w' ⟨rfl, kk, os, rfl⟩; obtain ⟨X1, hX1⟩ : ∃ X1, gr X kk os = X1 := ⟨_, rfl⟩; rw [hX1]; have G1 : Gr X X1 := (by rw [← hX1]; exact (Gr.refl X).gr kk os); clear hX1; have z2 := (boxed_gr b2 G1).cell; have z4 := (boxed_gr b4 G1).cell; have z5 := (boxed_gr b5 G1).cell; have z6 := (boxed_gr b6 G1).cell; have f5 := (boxed_gr b5 G1).frozen; have f6 := (boxed_gr b6 G1).frozen)
        apply wpIn_region_prefixA #[true, true, true, true, true, true, true, true, true, true, true, false, false, false] (fuel := 11) (r := 3) (hm := by kernel_rfl) (hd := by kernel_rfl) (hsz := by rfl)
        case hq =>
          refine anyQ_ready (rs := [0]) (by kernel_rfl) (by simp) ?_
          refine allQ_cons (qOp_step rfl (fun _ _ _ _ => trivial) (fun K hK => ?_)) allQ_nil
          go_simp
          refine hK _ ?_
          clear hK K
          refine anyQ_ready (rs := [1]) (by kernel_rfl) (by simp) ?_
          refine allQ_cons (qOp_step rfl (fun _ _ _ _ => trivial) (fun K hK => ?_)) allQ_nil
          go_simp
          refine hK _ ?_
          clear hK K
          refine anyQ_ready (rs := [2]) (by kernel_rfl) (by simp) ?_
          refine allQ_cons (qOp_step rfl (fun _ _ _ _ => trivial) (fun K hK => ?_)) allQ_nil
          go_simp
          refine hK _ ?_
          clear hK K
          refine anyQ_ready (rs := [3]) (by kernel_rfl) (by simp) ?_
          refine allQ_cons (qOp_step rfl (fun _ _ _ _ => trivial) (fun K hK => ?_)) allQ_nil
          go_simp
          refine hK _ ?_
          clear hK K
          refine anyQ_ready (rs := [4]) (by kernel_rfl) (by simp) ?_
          refine allQ_cons (qOp_step rfl (fun _ _ _ _ => trivial) (fun K hK => ?_)) allQ_nil
          go_simp
          refine hK _ ?_
          clear hK K
          refine anyQ_ready (rs := [5]) (by kernel_rfl) (by simp) ?_
          refine allQ_cons (qOp_step rfl (fun _ _ _ _ => trivial) (fun K hK => ?_)) allQ_nil
          go_simp
          refine hK _ ?_
          clear hK K
          refine anyQ_ready (rs := [6]) (by kernel_rfl) (by simp) ?_
          refine allQ_cons (qOp_step rfl (fun _ _ _ _ => trivial) (fun K hK => ?_)) allQ_nil
          go_simp
          refine hK _ ?_
          clear hK K
          refine anyQ_ready (rs := [7, 8, 9]) (by kernel_rfl) (by simp) ?_
          refine allQ_cons (qOp_step rfl (fun _ _ _ _ => trivial) (fun K hK => ?_)) (allQ_cons (qOp_step rfl (fun _ _ _ _ => trivial) (fun K hK => ?_)) (allQ_cons (qOp_step rfl (fun _ _ _ _ => trivial) (fun K hK => ?_)) allQ_nil))
          · go_simp
            refine hK _ ?_
            clear hK K
            refine anyQ_ready (rs := [8, 9]) (by kernel_rfl) (by simp) ?_
            refine allQ_cons (qOp_step rfl (fun _ _ _ _ => trivial) (fun K hK => ?_)) (allQ_cons (qOp_step rfl (fun _ _ _ _ => trivial) (fun K hK => ?_)) allQ_nil)
            · go_simp
              refine hK _ ?_
              clear hK K
              refine anyQ_ready (rs := [9]) (by kernel_rfl) (by simp) ?_
              refine allQ_cons (qOp_step rfl (fun _ _ _ _ => trivial) (fun K hK => ?_)) allQ_nil
              go_simp
              refine hK _ ?_
              clear hK K
              refine anyQ_ready (rs := [10]) (by kernel_rfl) (by simp) ?_
              refine allQ_cons (qOp_step rfl (fun _ _ _ _ => trivial) (fun K hK => ?_)) allQ_nil
              go_simp
              apply Exists.intro
              refine ⟨fun _ => ?_, hK _ ?_⟩
              · gi_at_call 142
                with_reducible exact CallsIn.quiet_of_same (CallsIn.inRound l' (callsIn_wide.2 ((HDs.out _).mono fun _ _ h => ⟨h.1, h.2.symm⟩)))
              clear hK K
              exact ⟨by decide, rfl⟩
            · go_simp
              refine hK _ ?_
              clear hK K
              refine anyQ_ready (rs := [8]) (by kernel_rfl) (by simp) ?_
              refine allQ_cons (qOp_step rfl (fun _ _ _ _ => trivial) (fun K hK => ?_)) allQ_nil
              go_simp
              refine hK _ ?_
              clear hK K
              refine anyQ_ready (rs := [10]) (by kernel_rfl) (by simp) ?_
              refine allQ_cons (qOp_step rfl (fun _ _ _ _ => trivial) (fun K hK => ?_)) allQ_nil
              go_simp
              apply Exists.intro
              refine ⟨fun _ => ?_, hK _ ?_⟩
              · gi_at_call 142
                with_reducible exact CallsIn.quiet_of_same (CallsIn.inRound l' (callsIn_wide.2 ((HDs.out _).mono fun _ _ h => ⟨h.1, h.2.symm⟩)))
              clear hK K
              exact ⟨by decide, rfl⟩
          · go_simp
            refine hK _ ?_
            clear hK K
            refine anyQ_ready (rs := [7, 9]) (by kernel_rfl) (by simp) ?_
            refine allQ_cons (qOp_step rfl (fun _ _ _ _ => trivial) (fun K hK => ?_)) (allQ_cons (qOp_step rfl (fun _ _ _ _ => trivial) (fun K hK => ?_)) allQ_nil)
            · go_simp
              refine hK _ ?_
              clear hK K
              refine anyQ_ready (rs := [9]) (by kernel_rfl) (by simp) ?_
              refine allQ_cons (qOp_step rfl (fun _ _ _ _ => trivial) (fun K hK => ?_)) allQ_nil
              go_simp
              refine hK _ ?_
              clear hK K
              refine anyQ_ready (rs := [10]) (by kernel_rfl) (by simp) ?_
              refine allQ_cons (qOp_step rfl (fun _ _ _ _ => trivial) (fun K hK => ?_)) allQ_nil
              go_simp
              apply Exists.intro
              refine ⟨fun _ => ?_, hK _ ?_⟩
              · gi_at_call 142
                with_reducible exact CallsIn.quiet_of_same (CallsIn.inRound l' (callsIn_wide.2 ((HDs.out _).mono fun _ _ h => ⟨h.1, h.2.symm⟩)))
              clear hK K
              exact ⟨by decide, rfl⟩
            · go_simp
              refine hK _ ?_
              clear hK K
              refine anyQ_ready (rs := [7, 10]) (by kernel_rfl) (by simp) ?_
              refine allQ_cons (qOp_step rfl (fun _ _ _ _ => trivial) (fun K hK => ?_)) (allQ_cons (qOp_step rfl (fun _ _ _ _ => trivial) (fun K hK => ?_)) allQ_nil)
              · go_simp
                refine hK _ ?_
                clear hK K
                refine anyQ_ready (rs := [10]) (by kernel_rfl) (by simp) ?_
                refine allQ_cons (qOp_step rfl (fun _ _ _ _ => trivial) (fun K hK => ?_)) allQ_nil
                go_simp
                apply Exists.intro
                refine ⟨fun _ => ?_, hK _ ?_⟩
                · gi_at_call 142
                  with_reducible exact CallsIn.quiet_of_same (CallsIn.inRound l' (callsIn_wide.2 ((HDs.out _).mono fun _ _ h => ⟨h.1, h.2.symm⟩)))
                clear hK K
                exact ⟨by decide, rfl⟩
              · go_simp
                apply Exists.intro
                refine ⟨fun _ => ?_, hK _ ?_⟩
                · gi_at_call 142
                  with_reducible exact CallsIn.quiet_of_same (CallsIn.inRound l' (callsIn_wide.2 ((HDs.out _).mono fun _ _ h => ⟨h.1, h.2.symm⟩)))
                clear hK K
                refine anyQ_ready (rs := [7]) (by kernel_rfl) (by simp) ?_
                refine allQ_cons (qOp_step rfl (fun _ _ _ _ => trivial) (fun K hK => ?_)) allQ_nil
                go_simp
                refine hK _ ?_
                clear hK K
                exact ⟨by decide, rfl⟩
          · go_simp
            refine hK _ ?_
            clear hK K
            refine anyQ_ready (rs := [7, 8]) (by kernel_rfl) (by simp) ?_
            refine allQ_cons (qOp_step rfl (fun _ _ _ _ => trivial) (fun K hK => ?_)) (allQ_cons (qOp_step rfl (fun _ _ _ _ => trivial) (fun K hK => ?_)) allQ_nil)
            · go_simp
              refine hK _ ?_
              clear hK K
              refine anyQ_ready (rs := [8]) (by kernel_rfl) (by simp) ?_
              refine allQ_cons (qOp_step rfl (fun _ _ _ _ => trivial) (fun K hK => ?_)) allQ_nil
              go_simp
              refine hK _ ?_
              clear hK K
              refine anyQ_ready (rs := [10]) (by kernel_rfl) (by simp) ?_
              refine allQ_cons (qOp_step rfl (fun _ _ _ _ => trivial) (fun K hK => ?_)) allQ_nil
              go_simp
              apply Exists.intro
              refine ⟨fun _ => ?_, hK _ ?_⟩
              · gi_at_call 142
                with_reducible exact CallsIn.quiet_of_same (CallsIn.inRound l' (callsIn_wide.2 ((HDs.out _).mono fun _ _ h => ⟨h.1, h.2.symm⟩)))
              clear hK K
              exact ⟨by decide, rfl⟩
            · go_simp
              refine hK _ ?_
              clear hK K
              refine anyQ_ready (rs := [7, 10]) (by kernel_rfl) (by simp) ?_
              refine allQ_cons (qOp_step rfl (fun _ _ _ _ => trivial) (fun K hK => ?_)) (allQ_cons (qOp_step rfl (fun _ _ _ _ => trivial) (fun K hK => ?_)) allQ_nil)
              · go_simp
                refine hK _ ?_
                clear hK K
                refine anyQ_ready (rs := [10]) (by kernel_rfl) (by simp) ?_
                refine allQ_cons (qOp_step rfl (fun _ _ _ _ => trivial) (fun K hK => ?_)) allQ_nil
                go_simp
                apply Exists.intro
                refine ⟨fun _ => ?_, hK _ ?_⟩
                · gi_at_call 142
                  with_reducible exact CallsIn.quiet_of_same (CallsIn.inRound l' (callsIn_wide.2 ((HDs.out _).mono fun _ _ h => ⟨h.1, h.2.symm⟩)))
                clear hK K
                exact ⟨by decide, rfl⟩
              · go_simp
                apply Exists.intro
                refine ⟨fun _ => ?_, hK _ ?_⟩
                · gi_at_call 142
                  with_reducible exact CallsIn.quiet_of_same (CallsIn.inRound l' (callsIn_wide.2 ((HDs.out _).mono fun _ _ h => ⟨h.1, h.2.symm⟩)))
                clear hK K
                refine anyQ_ready (rs := [7]) (by kernel_rfl) (by simp) ?_
                refine allQ_cons (qOp_step rfl (fun _ _ _ _ => trivial) (fun K hK => ?_)) allQ_nil
                go_simp
                refine hK _ ?_
                clear hK K
                exact ⟨by decide, rfl⟩
        case hQ =>
          intro nq
          obtain ⟨fn, tmps, assign, body, hy, hR⟩ := HYX.out (X1.drewN nq) (G1.drewN nq)
          refine wpAnyIn_ready (rs := [11]) (by kernel_rfl) (by simp) ?_
          refine AllReadyIn.cons rfl (fun K hK => ?_) AllReadyIn.nil
          go_simp
          have hkx : Kx (q5 :: q6 :: bs) X (X1.drewN nq) := Kx.of_below (G1.drewN nq).below
          refine (RoundIn_in (l' := l') hR).mono ?_
          rintro e W3 ⟨(⟨rfl, hJ3⟩ | ⟨rfl, hJx3⟩), hk3⟩
          · have hkx3 := hkx.trans (hk3.more (cs := q5 :: q6 :: bs) (fun b hb => by simp [hb]))
            have d4 := hk3.boxed (boxed_gr b4 (G1.drewN nq)) (fun e => by have := hbs _ e; omega)
            have d5 := hk3.boxed (boxed_gr b5 (G1.drewN nq)) (fun e => by have := hbs _ e; omega)
            have d6 := hk3.boxed (boxed_gr b6 (G1.drewN nq)) (fun e => by have := hbs _ e; omega)
            have d2 := hk3.boxed (boxed_gr b2 (G1.drewN nq)) n2
            have d3 := hk3.boxed (boxed_gr b3 (G1.drewN nq)) n3
            have HD3 := Lib.hid ((HDX.out.gr (G1.drewN nq)).kx hk3 nD)
            have u5 := d5.cell
            have u6 := d6.cell
            have v5 := d5.frozen
            have v6 := d6.frozen
            refine hK _ _ ?_
            clear hK K
            refine wpAnyIn_ready (rs := [12]) (by kernel_rfl) (by simp) ?_
            refine AllReadyIn.cons rfl (fun K hK => ?_) AllReadyIn.nil
            go_simp
            refine hK _ _ ?_
            clear hK K
            refine wpAnyIn_ready (rs := [13]) (by kernel_rfl) (by simp) ?_
            refine AllReadyIn.cons rfl (fun K hK => ?_) AllReadyIn.nil
            go_simp
            refine hK _ _ ?_
            clear hK K
            refine wpAnyIn_done (by kernel_rfl) ?_ _
            gi_wp2
            obtain ⟨r1, r2, r3⟩ := gap_end (bs := bs) (X := X) y (mdl s len y) _ hJ e5 e6 hlt2 hlt3 hltD hkx3 d4 d5 d6 d2 d3 HD3.out hJ3
            exact ⟨r1, by simp only [HT.out, HLS.out, HLM.out, HG.out]; exact ⟨r2, r3⟩⟩
          · have hkx3 := hkx.trans (hk3.more (cs := q5 :: q6 :: bs) (fun b hb => by simp [hb]))
            refine hK _ _ ?_
            clear hK K
            refine wpAnyIn_ready (rs := [12]) (by kernel_rfl) (by simp) ?_
            refine AllReadyIn.cons rfl (fun K hK => ?_) AllReadyIn.nil
            go_simp
            refine hK _ _ ?_
            clear hK K
            refine wpAnyIn_ready (rs := [13]) (by kernel_rfl) (by simp) ?_
            refine AllReadyIn.cons rfl (fun K hK => ?_) AllReadyIn.nil
            go_simp
            refine hK _ _ ?_
            clear hK K
            refine wpAnyIn_done (by kernel_rfl) ?_ _
            gi_wp2
            exact ⟨hkx3, by simp only [HT.out, HG.out]; exact hJx3⟩
  case done =>
    rintro D ys X hD' hS ⟨_, hJX⟩ hK
    gi_wp2
    refine ⟨by simp, .inl ⟨_, _, rfl, run_takeDeferred hK, ?_⟩⟩
    exact ⟨_, results_none rfl _ _ _, ⟨_, rfl⟩, .inl ⟨_, by rw [hS], hJ.putObj _ hJX (by omega)⟩⟩
  case stop =>
    rintro D pre X hD' hS hJX hK
    gi_wp2
    refine ⟨by simp, .inl ⟨_, _, rfl, run_takeDeferred hK, ?_⟩⟩
    exact ⟨_, results_none rfl _ _ _, ⟨_, rfl⟩, .inr ⟨_, gapsL_pre s len hS, hJx.putObj _ hJX (by omega)⟩⟩
end Go.Proofs.YtggflladheemoaaDoor
