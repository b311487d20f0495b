/- Contracts of chapter 8: which ticks stay, in the program. -/
import Derived.Test.YtggflladheemoaaDoorC08k
namespace Go.Proofs.YtggflladheemoaaDoor
open Go.RowKit Go.Shelf
set_option linter.unusedVariables false
set_option linter.unusedSimpArgs false

theorem ka_cases (zs : List P3) (d : Int) : (tkE zs true ≠ 0 ∧ kaE zs d = tkE zs true ∧ kaL zs d = []) ∨ (tkE zs true = 0 ∧ ¬ (allH zs = true ∧ (0 ≤ d ∧ d ≤ 100000)) ∧ kaE zs d = 2 ∧ kaL zs d = []) ∨
    (tkE zs true = 0 ∧ allH zs = true ∧ (0 ≤ d ∧ d ≤ 100000) ∧ kaE zs d = 0 ∧ kaL zs d = natI (lsS zs.length (kpS zs zs.length (nrD zs d) (byH zs zs.length)))) := by
  by_cases h : tkE zs true = 0
  · by_cases h2 : allH zs = true ∧ (0 ≤ d ∧ d ≤ 100000)
    · have e : kaE zs d = 0 := by unfold kaE; rw [if_pos h, if_pos h2]
      exact .inr (.inr ⟨h, h2.1, h2.2, e, by unfold kaL; rw [if_pos e]⟩)
    · have e : kaE zs d = 2 := by unfold kaE; rw [if_pos h, if_neg h2]
      exact .inr (.inl ⟨h, h2, e, by unfold kaL; rw [if_neg (by omega)]⟩)
  · have e : kaE zs d = tkE zs true := by unfold kaE; rw [if_neg h]
    exact .inl ⟨h, e, by unfold kaL; rw [if_neg (by omega)]⟩
theorem lsS_lt {n k : Nat} {S : Nat → Bool} (h : k ∈ lsS n S) : k < n := List.mem_range.1 (List.mem_filter.1 h).1
theorem lsS_len (n : Nat) (S : Nat → Bool) : (lsS n S).length ≤ n := by
  have := List.length_filter_le S (List.range n)
  unfold lsS
  rw [List.length_range] at this
  exact this
def ltZ (a b : Int) : Bool := decide (a < b)
theorem lsS_insZ (n : Nat) (S : Nat → Bool) (i : Nat) (h : i < n) (hS : S i = false) : insB ltZ (i : Int) (natI (lsS n S)) = natI (lsS n (fun j => S j || j == i)) := by
  rw [← lsS_ins n S i h hS]
  exact insB_map (fun (i : Nat) => (i : Int)) (fun a b => decide (a < b)) ltZ i (lsS n S) (fun y _ => by unfold ltZ; exact decide_eq_decide.2 ⟨fun h => by omega, fun h => by omega⟩)

theorem less_cb (a b : Int) (w : World) : Calls Tryd.prog 117 (#[.int .i64 a, .int .i64 b] ++ #[]) w fun e w' => e = .returned (.bool (ltZ a b)) ∧ Gr w w' := by
  rw [show (#[Value.int .i64 a, Value.int .i64 b] ++ #[] : Array Value) = #[.int .i64 a, .int .i64 b] from rfl]
  exact less_any a b w
theorem enters_less (args : Array Value) (w : World) : (callFunc 117 args).run Tryd.prog w = .ok (.enter 117 args) w := by kernel_rfl

set_option maxRecDepth 100000 in
set_option maxHeartbeats 4000000 in
/-- The ticks that stay, by whatever function that tells which are near. -/
theorem keepHighest_any (A : Option Addr) (n c : Nat) (zs : List P3) (g : Nat) (cb : Array Value) (nr : Nat → Nat → Bool) (w : World) (hn : zs.length = n) (hN : n ≤ 150) (hA : Reads w w.heap.size A (cells3 zs)) (hH : allH zs = true) (eg : ∀ args w, (callFunc g args).run Tryd.prog w = .ok (.enter g args) w)
    (hf : ∀ W, Below w.heap.size w W → ∀ (i k : Nat) (x y : P3), zs[i]? = some x → zs[k]? = some y → Calls Tryd.prog g (#[.agg #[.int .i64 x.1, .int .i64 x.2.1, .int .i64 x.2.2], .agg #[.int .i64 y.1, .int .i64 y.2.1, .int .i64 y.2.2]] ++ cb) W fun e w' => e = .returned (.bool (nr i k)) ∧ Gr W w') :
    Calls Tryd.prog 122 #[.slice A n c, .func (.func g) #[] cb] w fun e w' => (∃ v, e = .returned v ∧ Lst w' w.heap.size v (natI (lsS n (kpS zs n nr (byH zs n))))) ∧ Below w.heap.size w w' := by
  have HBF := Lib.hid (fun W (h : Below w.heap.size w W) => byFalling_any A n c zs W hn (by omega) (hA.below h) hH)
  have HAP := Lib.hid (fun (AK : Option Addr) (nk ck : Nat) (K : List Nat) (i : Nat) W (h : Below w.heap.size w W) (hi : i < n) (hk : K.length = nk) (hkN : nk ≤ 2000000) (hK : ∀ k ∈ K, k < n) hR => isApart_any A AK n c nk ck zs K i g cb nr W hn (by omega) (hA.below h) hi hk hkN hK hR eg (fun W' hg k x y hx hy => hf W' (h.trans (hg.below.mono h.size)) i k x y hx hy))
  have HMEM := Lib.hid (fun (i : Nat) (h : i ∈ byH zs n) => (byH_mem hH).1 h)
  have HNEW := Lib.hid (fun m i h => kpS_new zs n nr (byH zs n) m i (byH_nodup zs hH n) h)
  have HNX := Lib.hid (fun m i h => kpS_next zs n nr (byH zs n) m i h)
  have HLN := Lib.hid (byH_len zs hH n)
  have HAS := Lib.hid (fun S i => apS_ls zs n nr S i)
  have HST := Lib.hid (fun S i => show stS zs n nr S i = if apS zs n nr S i = true then fun j => S j || j == i else S from rfl)
  clear hA hn hH hf eg
  go_enter Tryd.func122, Tryd.ntmps122
  have hO2 : Lst (w.alloc (.cells #[] 2)) w.heap.size (.slice (some ⟨w.heap.size, 0, none⟩) 0 0) [] := World.ownsRow_made _ #[] 0 (Nat.le_refl _) (Nat.zero_le _) rfl
  have hs2 : (w.alloc (.cells #[] 2)).heap.size = w.heap.size + 1 := by simp
  have hB2 : Below w.heap.size w (w.alloc (.cells #[] 2)) := (Below.refl _ _).alloc (Nat.le_refl _) _
  have HB2 := Lib.hid hB2
  go_wp2_with (go_at_call 168; refine (HBF.out _ HB2.out).mono ?_; rintro e w5 ⟨⟨vL, rfl, hvL⟩, hb5⟩; obtain ⟨AL, cL, rfl, hRL⟩ := Lst.slice hvL; rw [show (natI (byH zs n)).length = n from by rw [List.length_map]; exact HLN.out]; have HVL := Lib.hid hvL; have HRL := Lib.hid hRL; have HB5 := Lib.hid hb5; clear hvL hb5 hRL)
  generalize w.alloc (.cells #[] 2) = W2 at *
  have hsG : w.heap.size ≤ w.heap.size := Nat.le_refl _
  obtain ⟨bK, hbK⟩ : ∃ b, b = w.heap.size := ⟨_, rfl⟩
  have HO5 := Lib.hid (Lst.below hO2 HB5.out)
  have HW5 := Lib.hid (hB2.trans (HB5.out.mono hB2.size))
  have hs5 := HB5.out.size
  have HGL := Lib.hid (fun g o (e : AL = some ⟨g, o, none⟩) => show W2.heap.size ≤ g ∧ g < w5.heap.size from World.ownsRow.lt HVL.out g (by rw [e]; rfl))
  clear hO2 hB2
  have HZ0 := Lib.hid (show natI (lsS n (kpS zs n nr ((byH zs n).take 0))) = [] by
    show natI ((List.range n).filter (fun _ => false)) = []
    rw [List.filter_eq_nil_iff.2 (by simp)]
    rfl)
  rw [← hbK] at HO5
  go_loopw [5, 12] (fun v i wr => ∃ m : Nat, m ≤ n ∧ i = .int .i64 m ∧ Lst wr bK v (natI (lsS n (kpS zs n nr ((byH zs n).take m)))) ∧ Hid (∀ g o, AL = some ⟨g, o, none⟩ → v.ownBlock ≠ some g ∧ wr.heap[g]? = w5.heap[g]?) ∧ w5.heap.size ≤ wr.heap.size ∧ Below w.heap.size w wr) (fun _ i _ => n - (intOf i).toNat)
  case atStart => exact ⟨0, by omega, rfl, by rw [HZ0.out, hbK]; rw [hbK] at HO5; exact HO5.out, Lib.hid (fun g o e => ⟨fun h => by injection h with h; have := (HGL.out g o e).1; simp at h; omega, rfl⟩), Nat.le_refl _, HW5.out⟩
  case round =>
    obtain ⟨m, hm, rfl, hO, hL, hsz, hB⟩ := hrel
    by_cases hlt : m < n
    · obtain ⟨i, hi⟩ := some_at (l := byH zs n) (k := m) (by rw [HLN.out]; exact hlt)
      have hin := HMEM.out i (List.mem_of_getElem? hi)
      have HN1 := Lib.hid (HNEW.out m i hi)
      have HN2 := Lib.hid (HNX.out m i hi)
      generalize kpS zs n nr ((byH zs n).take m) = S at *
      rw [HST.out, HAS.out] at HN2
      have hik : ((natI (byH zs n)).map vi)[m]? = some (vi (i : Int)) := by rw [List.getElem?_map, List.getElem?_map, hi]; rfl
      obtain ⟨gl, ol, rfl, hgl, hcl⟩ := HRL.out.at_ hik
      have hc2 : wr.cell? ⟨gl, ol + m, none⟩ = some (vi (i : Int)) := (World.cell?_of_block (hL.out gl ol rfl).2).trans hcl
      have hglr : gl < wr.heap.size := by omega
      obtain ⟨AK, cK, rfl, hRK⟩ := Lst.slice hO
      have hKl := lsS_len n S
      have hKl2 : (natI (lsS n S)).length = (lsS n S).length := List.length_map _
      generalize hnk : (natI (lsS n S)).length = nk at *
      have hnk2 : nk ≤ 150 := by omega
      have HAPK := Lib.hid (HAP.out AK nk cK (lsS n S) i wr hB hin hKl2.symm (by omega) (fun k hk => lsS_lt hk) hRK)
      have hbk : bK ≤ wr.heap.size := by omega
      have HLS := Lib.hid (lsS_insZ n S i hin HN1.out)
      have HO := Lib.hid hO
      have HB := Lib.hid hB
      have HINS := Lib.hid (fun w6 (hg : Gr wr w6) => insI_any 117 #[] ltZ (i : Int) (.slice AK nk cK) (natI (lsS n S)) bK w6 (by omega) (by have := hg.below.size; omega) (Lst.below hO hg.below) enters_less (fun W _ y _ => less_cb i y W))
      clear hi hik hcl hRK hO hB hgl hnk hKl2 hKl
      cases hap : (lsS n S).all fun k => !nr i k
      · rw [hap] at HAPK HN2
        rw [if_neg (by simp)] at HN2
        clear hap
        go_wp2_with (go_at_call 169; refine HAPK.out.mono ?_; rintro e w6 ⟨rfl, hg6⟩; have HG6 := Lib.hid hg6; clear hg6)
        go_roundw
        case rel => exact ⟨m + 1, by omega, by go_num, by rw [HN2.out]; exact Lst.below HO.out HG6.out.below, Lib.hid (fun g o e => ⟨(hL.out g o e).1, (HG6.out.below.block g (by injection e with e; injection e with e; omega)).trans (hL.out g o e).2⟩), by have := HG6.out.below.size; omega, HB.out.trans (HG6.out.below.mono (by omega))⟩
        case measure => simp [intOf]; omega
      · rw [hap] at HAPK HN2
        rw [if_pos rfl] at HN2
        clear hap
        go_wp2_with (first
          | (go_at_call 169; refine HAPK.out.mono ?_; rintro e w6 ⟨rfl, hg6⟩; have HG6 := Lib.hid hg6; clear hg6)
          | (go_at_call 116; refine (HINS.out _ HG6.out).mono ?_; rintro e w7 ⟨⟨v7, rfl, hv7, hon7⟩, hg7⟩; have HV7 := Lib.hid hv7; have HON := Lib.hid hon7; have HG7 := Lib.hid hg7; clear hv7 hon7 hg7))
        have hs6 := HG6.out.below.size
        have hs7 := HG7.out.size
        have HL7 := Lib.hid (fun g o (e : some (⟨gl, ol, none⟩ : Addr) = some ⟨g, o, none⟩) => show v7.ownBlock ≠ some g ∧ w7.heap[g]? = w5.heap[g]? from by
          obtain ⟨h1, h2⟩ := hL.out g o e
          have hgl2 := (HGL.out g o e).2
          refine ⟨fun h => ?_, (HG7.out.block g (by omega) (fun h => h1 h.symm)).trans ((HG6.out.below.block g (by omega)).trans h2)⟩
          rcases HON.out with h3 | ⟨g2, h3, h4⟩
          · exact h1 (h3.symm.trans h)
          · rw [h3] at h
            injection h with h
            omega)
        go_roundw
        case rel => exact ⟨m + 1, by omega, by go_num, by rw [HN2.out, ← HLS.out]; exact HV7.out, HL7, by omega, HB.out.trans ((HG6.out.below.mono (by omega)).trans ((Lst.below_of (Lst.below HO.out HG6.out.below) (by omega) HG7.out).mono (by omega)))⟩
        case measure => simp [intOf]; omega
    · obtain rfl : m = n := by omega
      have HF := Lib.hid (show (byH zs m).take m = byH zs m from List.take_of_length_le (by rw [HLN.out]; exact Nat.le_refl _))
      go_wp2
      go_ret
      exact ⟨⟨_, rfl, by rw [← HF.out]; exact hO.mono (by omega)⟩, hB⟩
end Go.Proofs.YtggflladheemoaaDoor
