/- Contracts of chapter 7: the program's least distance. -/
import Derived.Test.YtggflladheemoaaDoor7A
import Derived.Test.YtggflladheemoaaDoorC05a
namespace Go.Proofs.YtggflladheemoaaDoor
open Go.RowKit Go.Shelf
set_option linter.unusedVariables false
set_option linter.unusedSimpArgs false
attribute [local go_sem] Oper.semAt_some

theorem gapsX (s len : Int) (hs : sc s = true) (hln : ln len = true) (A : Option Addr) (cnt c : Nat) (zs : List P3) (hl : zs.length = cnt) (hlN : cnt ≤ 16777216) (hok : ∀ p ∈ zs, ∃ a, ptOk a p = true ∧ 0 ≤ a) (hM : ∀ x ∈ mks zs, 1000 ≤ x ∧ x < 10000)
    (c1 c2 c3 bp : Nat) (bs : List Nat) (w : World) (h1 : Boxed w c1 97 (.func (.func 143) #[] #[.pointer (some ⟨bp, 0, none⟩)])) (h2 : Boxed w c2 2 (.int .i64 s)) (h3 : Boxed w c3 2 (.int .i64 len)) (hb : w.cell? ⟨bp, 0, none⟩ = some (.slice A cnt c)) (hR : RdX bs w A zs) (hD : Dcs w)
    (n2 : c2 ∉ bs) (n3 : c3 ∉ bs) (nD : 5 ∉ bs) :
    SeqX Fence.wide 8 Tryd.prog 141 #[.pointer (some ⟨c1, 0, none⟩), .pointer (some ⟨c2, 0, none⟩), .pointer (some ⟨c3, 0, none⟩)] (fun y : Int => #[Value.int .i64 y]) bs (fun ys => ys = gapsL s len (mks zs)) (fun pre => pre <+: gapsL s len (mks zs)) (mks zs).length w := fun l J Jx W hW hbs hJ hJx hY h0 =>
  gaps1_in 8 rfl s len hs hln A cnt c zs hl hlN hok hM l c1 c2 c3 bp bs J Jx W hbs hJ hJx hY ((hW.block c1 h1.lt).trans h1) ((hW.block c2 h2.lt).trans h2) ((hW.block c3 h3.lt).trans h3)
    ((hW.cell (p := ⟨bp, 0, none⟩) (World.block_lt_of_cell? w _ hb)).trans hb) (hR.keep (Kx.of_below hW)) (hD.kx (Kx.of_below (bs := bs) hW) nD) n2 n3 nD h0

/-- What the two iterators lay. -/
def gapW (V : World) (v : Value) (s l : Int) : World := (((V.alloc (.cells #[v] 26)).alloc (.cells #[.func (.func 143) #[] #[.pointer (some ⟨V.heap.size, 0, none⟩)]] 97)).alloc (.cells #[.int .i64 s] 2)).alloc (.cells #[.int .i64 l] 2)
theorem gaps_ready (s len : Int) (hs : sc s = true) (hln : ln len = true) (A : Option Addr) (cnt c : Nat) (zs : List P3) (hl : zs.length = cnt) (hlN : cnt ≤ 16777216) (hok : ∀ p ∈ zs, ∃ a, ptOk a p = true ∧ 0 ≤ a) (hM : ∀ x ∈ mks zs, 1000 ≤ x ∧ x < 10000) (V : World) (hD : Dcs V) :
    Gr V (gapW V (.slice A cnt c) s len) ∧ (gapW V (.slice A cnt c) s len).heap.size = V.heap.size + 4 ∧ ∀ bs : List Nat, (∀ b ∈ bs, b < V.heap.size ∨ V.heap.size + 4 ≤ b) → RdX bs V A zs → 5 ∉ bs →
      SeqX Fence.wide 8 Tryd.prog 141 #[.pointer (some ⟨V.heap.size + 1, 0, none⟩), .pointer (some ⟨V.heap.size + 1 + 1, 0, none⟩), .pointer (some ⟨V.heap.size + 1 + 2, 0, none⟩)] (fun y : Int => #[Value.int .i64 y]) bs (fun ys => ys = gapsL s len (mks zs)) (fun pre => pre <+: gapsL s len (mks zs)) (mks zs).length (gapW V (.slice A cnt c) s len) := by
  have h0 := (((Boxed.new V 26 (.slice A cnt c)).alloc (.cells #[.func (.func 143) #[] #[.pointer (some ⟨V.heap.size, 0, none⟩)]] 97)).alloc (.cells #[.int .i64 s] 2)).alloc (.cells #[.int .i64 len] 2)
  have h1 := ((Boxed.new (V.alloc (.cells #[.slice A cnt c] 26)) 97 (.func (.func 143) #[] #[.pointer (some ⟨V.heap.size, 0, none⟩)])).alloc (.cells #[.int .i64 s] 2)).alloc (.cells #[.int .i64 len] 2)
  have h2 := (Boxed.new ((V.alloc (.cells #[.slice A cnt c] 26)).alloc (.cells #[.func (.func 143) #[] #[.pointer (some ⟨V.heap.size, 0, none⟩)]] 97)) 2 (.int .i64 s)).alloc (.cells #[.int .i64 len] 2)
  have h3 := Boxed.new (((V.alloc (.cells #[.slice A cnt c] 26)).alloc (.cells #[.func (.func 143) #[] #[.pointer (some ⟨V.heap.size, 0, none⟩)]] 97)).alloc (.cells #[.int .i64 s] 2)) 2 (.int .i64 len)
  have hg : Gr V (gapW V (.slice A cnt c) s len) := by unfold gapW; exact (by repeat (first | with_reducible exact Gr.refl _ | with_reducible refine Gr.alloc ?_ _ | with_reducible refine Gr.gr ?_ _ _ | with_reducible refine Gr.drew ?_ | with_reducible refine Gr.drewN ?_ _))
  simp only [World.size_alloc] at h1 h2 h3
  refine ⟨hg, by unfold gapW; simp, fun bs hb hR hn => ?_⟩
  exact gapsX s len hs hln A cnt c zs hl hlN hok hM (V.heap.size + 1) (V.heap.size + 1 + 1) (V.heap.size + 1 + 2) V.heap.size bs _ h1 h2 h3 h0.cell (hR.keep (Kx.of_below hg.below)) (hD.gr hg) (fun e => by have := hb _ e; omega) (fun e => by have := hb _ e; omega) hn

/-- The least so far and whether there is one, as the program keeps them. -/
def stG (p : Int × Bool) (d : Int) : Int × Bool := if p.2 = false ∨ d < p.1 then (d, true) else p
def pG (G : List Int) : Int × Bool := G.foldl stG (0, false)
theorem pG_snoc (G : List Int) (d : Int) : pG (G ++ [d]) = stG (pG G) d := by unfold pG; rw [List.foldl_append]; rfl
theorem pG_le (G : List Int) (h : ∀ d ∈ G, 0 ≤ d) : (leG G < 0 ∧ pG G = (0, false)) ∨ (0 ≤ leG G ∧ pG G = (leG G, true)) := by
  have key : ∀ (G : List Int) (m : Int) (p : Int × Bool), (∀ d ∈ G, 0 ≤ d) → ((m < 0 ∧ p = (0, false)) ∨ (0 ≤ m ∧ p = (m, true))) → ((G.foldl lm m < 0 ∧ G.foldl stG p = (0, false)) ∨ (0 ≤ G.foldl lm m ∧ G.foldl stG p = (G.foldl lm m, true))) := by
    intro G
    induction G with
    | nil => intro m p _ hp; exact hp
    | cons d G ih =>
      intro m p h hp
      have hd := h d (by simp)
      rw [List.foldl_cons, List.foldl_cons]
      refine ih _ _ (fun x hx => h x (by simp [hx])) ?_
      rcases hp with ⟨h1, rfl⟩ | ⟨h1, rfl⟩
      · rw [lm_lo m d (.inl h1)]
        exact .inr ⟨hd, by unfold stG; simp⟩
      · by_cases hc : d < m
        · rw [lm_lo m d (.inr hc)]
          exact .inr ⟨hd, by unfold stG; simp [hc]⟩
        · rw [lm_hi m d (by omega)]
          exact .inr ⟨h1, by unfold stG; simp [hc]⟩
  exact key G (-1) (0, false) h (.inl ⟨by omega, rfl⟩)

set_option maxRecDepth 100000 in
set_option maxHeartbeats 4000000 in
/-- The main case: all arguments are in their ranges. -/
theorem ld_impl1 (A : Option Addr) (n c : Nat) (zs : List P3) (s l : Int) (w : World) (hn : zs.length = n) (hN : n ≤ 16777216) (hA : Reads w w.heap.size A (cells3 zs)) (hW : Wf3 zs) (hv : gd zs = true) (hs : sc s = true) (hl : ln l = true) (hD : Dcs w) :
    Calls Tryd.prog 19 #[.slice A n c, .int .i64 s, .int .i64 l] w fun e w' => e = .returned (.tuple #[.int .i64 (ldR s l zs).1, .int .i64 (ldR s l zs).2]) ∧ Below w.heap.size w w' := by
  have HG := Lib.hid (fun W (hg : Gr w W) => gd_impl A n c zs W hn hN (hA.gr hg) hW)
  rw [hv] at HG
  have HS := Lib.hid (fun W => isScale_impl s W)
  rw [hs] at HS
  have HLn := Lib.hid (fun W => isLength_impl l W)
  rw [hl] at HLn
  have HA := Lib.hid hA
  have HOK := Lib.hid (fun p hp => (gd_parts hv p hp).imp fun a (h : ptOk a p = true ∧ 1000 ≤ a) => (And.intro h.1 (show 0 ≤ a by omega)))
  have HM := Lib.hid (mks_facts hv)
  have HL := Lib.hid hn
  have HR : Hid (∀ p, pG (gapsL s l (mks zs)) = p → (p.2 = false → ldR s l zs = (0, 4)) ∧ (p.2 = true → ldR s l zs = (p.1, 0))) := Lib.hid (by
    intro p hp
    have hf := ldM_fold s l (mks zs)
    have h2 : (sc s && ln l) = true := by rw [hs, hl]; rfl
    rcases pG_le _ (gapsL_nn s l (mks zs)) with ⟨h1, e⟩ | ⟨h1, e⟩
    · rw [e] at hp
      subst hp
      exact ⟨fun _ => ldR_no s l zs hv h2 (by rw [hf]; exact h1), fun h => by cases h⟩
    · rw [e] at hp
      subst hp
      exact ⟨fun h => (by cases h), fun _ => by rw [ldR_ok s l zs hv h2 (by rw [hf]; omega), hf]⟩)
  clear hA hW hv hn
  refine (callsIn_wide (n := 9)).1 ?_
  refine callsIn_of_wp_marks Tryd.func19 rfl trivial ?_ rfl
  simp only [Tryd.ntmps19, List.size_toArray, List.length_cons, List.length_nil, Nat.reduceAdd, Nat.reduceSub, Array.replicate_succ, Array.replicate_zero, List.push_toArray, List.append_toArray, List.nil_append, List.cons_append]
  gi_wp2_with (first
    | (refine ⟨trivial, ?_⟩; gi_at_call 22; refine (callsIn_wide.2 (HG.out _ (by repeat (first | with_reducible exact Gr.refl _ | with_reducible refine Gr.alloc ?_ _ | with_reducible refine Gr.gr ?_ _ _ | with_reducible refine Gr.drew ?_ | with_reducible refine Gr.drewN ?_ _)))).mono ?_; rintro e w' ⟨rfl, kk, os, rfl⟩)
    | (refine ⟨trivial, ?_⟩; gi_at_call 83; refine (callsIn_wide.2 (HS.out _)).mono ?_; rintro e w' ⟨rfl, rfl⟩)
    | (refine ⟨trivial, ?_⟩; gi_at_call 84; refine (callsIn_wide.2 (HLn.out _)).mono ?_; rintro e w' ⟨rfl, rfl⟩)
    | (refine ⟨trivial, ?_⟩; gi_at_call 89; refine (callsIn_wide.2 (eachMark_any _ _ _ _)).mono ?_; rintro e w' ⟨rfl, rfl⟩)
    | (refine ⟨trivial, ?_⟩; gi_at_call 88; refine (callsIn_wide.2 (eachGap_any _ _ _ _ _)).mono ?_; rintro e w' ⟨rfl, rfl⟩))
  have G1 : Gr w (gr w kk os) := ⟨kk, os, rfl⟩
  generalize gr w kk os = W1 at *
  have yL := (Boxed.new W1 2 (.int .i64 0)).alloc (.cells #[.bool false] 4)
  have yF := Boxed.new (W1.alloc (.cells #[.int .i64 0] 2)) 4 (.bool false)
  have G2 := (G1.alloc (.cells #[.int .i64 0] 2)).alloc (.cells #[.bool false] 4)
  have hsz : ((W1.alloc (.cells #[.int .i64 0] 2)).alloc (.cells #[.bool false] 4)).heap.size = W1.heap.size + 1 + 1 := by simp
  simp only [World.size_alloc] at yF
  have hw1 := G1.below.size
  obtain ⟨S, eS⟩ : ∃ S, W1.heap.size = S := ⟨_, rfl⟩
  rw [eS] at yL yF hsz hw1
  simp only [eS]
  generalize (W1.alloc (.cells #[.int .i64 0] 2)).alloc (.cells #[.bool false] 4) = V0 at *
  obtain ⟨S1, eS1⟩ : ∃ S1, S + 1 = S1 := ⟨_, rfl⟩
  rw [eS1] at yF hsz
  simp only [eS1]
  obtain ⟨V, eV⟩ : ∃ V, S1 + 1 = V := ⟨_, rfl⟩
  rw [eV] at hsz
  simp only [eV]
  have hA0 := HA.out
  obtain ⟨g1, g2, g3⟩ := gaps_ready s l hs hl A n c zs HL.out hN HOK.out HM.out.2.1 V0 (hD.gr G2)
  have hltD : 5 < w.heap.size := World.block_lt_of_cell? w _ (hD 0 (by omega))
  have hWE : gapW V0 (.slice A n c) s l = (((V0.alloc (.cells #[.slice A n c] 26)).alloc (.cells #[.func (.func 143) #[] #[.pointer (some ⟨V, 0, none⟩)]] 97)).alloc (.cells #[.int .i64 s] 2)).alloc (.cells #[.int .i64 l] 2) := by unfold gapW; rw [hsz]
  rw [hsz] at g2 g3
  rw [← hWE]
  replace yL := boxed_gr yL g1
  replace yF := boxed_gr yF g1
  have G3 := G2.trans g1
  generalize gapW V0 (.slice A n c) s l = W0 at *
  refine rangeX rfl (by omega) (gf := 141) (lb := #[.pointer (some ⟨V + 1, 0, none⟩), .pointer (some ⟨V + 1 + 1, 0, none⟩), .pointer (some ⟨V + 1 + 2, 0, none⟩)]) rfl trivial (enters_of Tryd.func141 (by kernel_rfl) rfl) (bs := [S, S1])
    (fun b hb => by simp at hb; omega)
    (g3 _ (fun b hb => by simp at hb; omega) (fun k hk => by
      obtain ⟨g, o, e, hg, hc⟩ := hA0 k hk
      exact ⟨g, o, e, (G2.below.cell hg).trans hc, fun hm => by simp at hm; omega⟩) (by simp; omega)) (Below.refl _ _) ?hps
    (fun pre X => (Boxed X S 2 (.int .i64 (pG pre).1) ∧ Boxed X S1 4 (.bool (pG pre).2)) ∧ Below w.heap.size w X)
    (fun _ _ => False)
    (AbX.and (AbX.and (abX_boxed (by omega) _ (fun pre => .int .i64 (pG pre).1)) (abX_boxed (by omega) _ (fun pre => .bool (pG pre).2))) (abX_below (by omega) (Nat.le_refl _)))
    (fun _ _ _ _ h _ _ => h)
    ⟨⟨yL, yF⟩, G3.below⟩
    (fun y => { tmps := #[.slice A n c, .int .i64 s, .int .i64 l, undef, undef, undef, .int .i64 0, .int .i64 0, .pointer (some ⟨S, 0, none⟩), .pointer (some ⟨S1, 0, none⟩), .int .i64 y, .slice A n c, .bool true, .bool false, .int .i64 s, .bool true, .bool false, .bool false, .int .i64 l, .bool true, .bool false, .bool false, .slice A n c, .func (.func 143) #[] #[.pointer (some ⟨V, 0, none⟩)], .int .i64 s, .int .i64 l, .func (.func 141) #[] #[.pointer (some ⟨V + 1, 0, none⟩), .pointer (some ⟨V + 1 + 1, 0, none⟩), .pointer (some ⟨V + 1 + 2, 0, none⟩)], .int .i64 y, undef, undef, undef, undef, undef, undef, undef, undef, undef, undef, undef], defers := [] }) ?assign ?body ?done ?stop
  case hps => exact fun _ => rfl
  case assign =>
    intro l' y X K hK
    gi_wp2
    exact hK
  case body =>
    rintro l' pre y X ⟨⟨b1, b2⟩, hB⟩ hlen hszX
    have HT := Lib.hid (pG_snoc pre y)
    have HB := Lib.hid hB
    have hBs := hB.size
    clear hB
    generalize pG pre = p at *
    obtain ⟨a, f⟩ := p
    simp only at b1 b2
    have k1 := b1.cell
    have k2 := b2.cell
    have v1 := b1.frozen
    have v2 := b2.frozen
    have hne : S ≠ S1 := by omega
    have HK := Lib.hid ((Kx.set [S, S1] X (B := S) (by simp) (.int .i64 y)).trans (Kx.set [S, S1] _ (B := S1) (by simp) (.bool true)))
    have HE := Lib.hid (And.intro ((b1.set (.int .i64 y)).other hne (.bool true)) ((b2.other hne.symm (.int .i64 y)).set (.bool true)))
    cases f
    · have HS2 := Lib.hid (show stG (a, false) y = (y, true) by unfold stG; simp)
      gi_wp2
      exact ⟨HK.out, by simp only [HT.out, HS2.out]; exact ⟨HE.out, HB.out.trans (HK.out.below (by omega) (by simp; omega))⟩⟩
    · by_cases hc : y < a
      · have HS2 := Lib.hid (show stG (a, true) y = (y, true) by unfold stG; simp [hc])
        gi_wp2
        exact ⟨HK.out, by simp only [HT.out, HS2.out]; exact ⟨HE.out, HB.out.trans (HK.out.below (by omega) (by simp; omega))⟩⟩
      · have HS2 := Lib.hid (show stG (a, true) y = (a, true) by unfold stG; simp [hc])
        gi_wp2
        exact ⟨Kx.refl _ _, by simp only [HT.out, HS2.out]; exact ⟨⟨b1, b2⟩, HB.out⟩⟩
  case done =>
    rintro D ys X hD' hS' ⟨⟨b1, b2⟩, hB⟩ hK
    have HP := Lib.hid (HR.out (pG ys) (by rw [hS']))
    generalize pG ys = p at *
    obtain ⟨a, f⟩ := p
    simp only at b1 b2 HP
    have k1 := b1.cell
    have k2 := b2.cell
    cases f
    · have h := HP.out.1 rfl
      gi_wp2
      refine ⟨by simp, .inl ⟨_, _, rfl, run_takeDeferred hK, ?_⟩⟩
      exact ⟨.tuple #[.int .i64 0, .int .i64 4], by simp [results, Tryd.results19, go_sem], rfl, hB.trans (belowK_b (w := w) (Nat.le_refl _) X D _ _ (by omega) hK rfl rfl)⟩
    · have h := HP.out.2 rfl
      gi_wp2
      refine ⟨by simp, .inl ⟨_, _, rfl, run_takeDeferred hK, ?_⟩⟩
      exact ⟨.tuple #[.int .i64 a, .int .i64 0], by simp [results, Tryd.results19, go_sem], rfl, hB.trans (belowK_b (w := w) (Nat.le_refl _) X D _ _ (by omega) hK rfl rfl)⟩
  case stop =>
    rintro D pre X _ _ h _
    exact h.elim

set_option maxRecDepth 100000 in
set_option maxHeartbeats 2000000 in
theorem ld_impl (A : Option Addr) (n c : Nat) (zs : List P3) (s l : Int) (w : World) (hn : zs.length = n) (hN : n ≤ 16777216) (hA : Reads w w.heap.size A (cells3 zs)) (hW : Wf3 zs) (hD : Dcs w) :
    Calls Tryd.prog 19 #[.slice A n c, .int .i64 s, .int .i64 l] w fun e w' => e = .returned (.tuple #[.int .i64 (ldR s l zs).1, .int .i64 (ldR s l zs).2]) ∧ Below w.heap.size w w' := by
  have HG := Lib.hid (fun W (hg : Gr w W) => gd_impl A n c zs W hn hN (hA.gr hg) hW)
  have HS := Lib.hid (fun W => isScale_impl s W)
  have HLn := Lib.hid (fun W => isLength_impl l W)
  rcases Bool.eq_false_or_eq_true (gd zs) with hv | hv
  rotate_left
  · have HC := Lib.hid (ldR_in s l zs hv)
    rw [hv] at HG
    clear hv hA hn
    go_enter Tryd.func19, Tryd.ntmps19
    go_wp2_with (go_at_call 22; refine (HG.out _ (by repeat (first | with_reducible exact Gr.refl _ | with_reducible refine Gr.alloc ?_ _ | with_reducible refine Gr.gr ?_ _ _ | with_reducible refine Gr.drew ?_ | with_reducible refine Gr.drewN ?_ _))).mono ?_; rintro e w' ⟨rfl, kk, os, rfl⟩)
    ((try simp only [Exit.inBlock, Exit.then]); refine bodyPost_ret (v := .tuple #[.int .i64 0, .int .i64 1]) (by simp [results, Tryd.results19, go_sem]) rfl ?_)
    exact ⟨by rw [HC.out], Gr.below (by repeat (first | with_reducible exact Gr.refl _ | with_reducible refine Gr.alloc ?_ _ | with_reducible refine Gr.gr ?_ _ _ | with_reducible refine Gr.drew ?_ | with_reducible refine Gr.drewN ?_ _))⟩
  rcases sc_tf s with hs | hs
  rotate_left
  · have HC := Lib.hid (ldR_rg s l zs hv (by rw [hs]; rfl))
    rw [hv] at HG
    rw [hs] at HS
    clear hv hA hn hs
    go_enter Tryd.func19, Tryd.ntmps19
    go_wp2_with (first | (go_at_call 22; refine (HG.out _ (by repeat (first | with_reducible exact Gr.refl _ | with_reducible refine Gr.alloc ?_ _ | with_reducible refine Gr.gr ?_ _ _ | with_reducible refine Gr.drew ?_ | with_reducible refine Gr.drewN ?_ _))).mono ?_; rintro e w' ⟨rfl, kk, os, rfl⟩) | (go_at_call 83; refine (HS.out _).mono ?_; rintro e w' ⟨rfl, rfl⟩))
    ((try simp only [Exit.inBlock, Exit.then]); refine bodyPost_ret (v := .tuple #[.int .i64 0, .int .i64 2]) (by simp [results, Tryd.results19, go_sem]) rfl ?_)
    exact ⟨by rw [HC.out], Gr.below (by repeat (first | with_reducible exact Gr.refl _ | with_reducible refine Gr.alloc ?_ _ | with_reducible refine Gr.gr ?_ _ _ | with_reducible refine Gr.drew ?_ | with_reducible refine Gr.drewN ?_ _))⟩
  rcases ln_tf l with hl | hl
  rotate_left
  · have HC := Lib.hid (ldR_rg s l zs hv (by rw [hs, hl]; rfl))
    rw [hv] at HG
    rw [hs] at HS
    rw [hl] at HLn
    clear hv hA hn hs hl
    go_enter Tryd.func19, Tryd.ntmps19
    go_wp2_with (first | (go_at_call 22; refine (HG.out _ (by repeat (first | with_reducible exact Gr.refl _ | with_reducible refine Gr.alloc ?_ _ | with_reducible refine Gr.gr ?_ _ _ | with_reducible refine Gr.drew ?_ | with_reducible refine Gr.drewN ?_ _))).mono ?_; rintro e w' ⟨rfl, kk, os, rfl⟩) | (go_at_call 83; refine (HS.out _).mono ?_; rintro e w' ⟨rfl, rfl⟩) | (go_at_call 84; refine (HLn.out _).mono ?_; rintro e w' ⟨rfl, rfl⟩))
    ((try simp only [Exit.inBlock, Exit.then]); refine bodyPost_ret (v := .tuple #[.int .i64 0, .int .i64 2]) (by simp [results, Tryd.results19, go_sem]) rfl ?_)
    exact ⟨by rw [HC.out], Gr.below (by repeat (first | with_reducible exact Gr.refl _ | with_reducible refine Gr.alloc ?_ _ | with_reducible refine Gr.gr ?_ _ _ | with_reducible refine Gr.drew ?_ | with_reducible refine Gr.drewN ?_ _))⟩
  exact ld_impl1 A n c zs s l w hn hN hA hW hv hs hl hD
end Go.Proofs.YtggflladheemoaaDoor
