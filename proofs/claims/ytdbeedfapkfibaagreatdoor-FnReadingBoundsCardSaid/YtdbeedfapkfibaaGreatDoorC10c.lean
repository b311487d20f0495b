/- Contracts of chapter 10: errors multiplied by a fraction. -/
import Derived.Test.YtdbeedfapkfibaaGreatDoorC10b
namespace Go.Proofs.YtdbeedfapkfibaaGreatDoor
open Go.RowKit Go.Shelf
set_option linter.unusedVariables false
set_option linter.unusedSimpArgs false

attribute [local go_sem] e3_i0 e3_i1 e3_i2

/-- The answer of ScaleErrors. -/
theorem ret_xe {X : (Int × Int × Int) × Int} {a b c d : Int} (h : X = ((a, b, c), d)) : Ending.returned (.tuple #[.agg #[.int .i64 (a), .int .i64 (b), .int .i64 (c)], .int .i64 d]) = .returned (.tuple #[.agg #[.int .i64 (X.1.1), .int .i64 (X.1.2.1), .int .i64 (X.1.2.2)], .int .i64 X.2]) := by rw [h]

set_option maxHeartbeats 4000000 in
set_option maxRecDepth 100000 in
/-- The numbers multiplied, behind the tests of the arguments. -/
theorem xe_bad_impl (a b c n d q : Int) (w : World) (h : (er a b c = false ∧ q = 1) ∨ (er a b c = true ∧ (n < 1 ∨ (1 ≤ n ∧ 1000 < n) ∨ (1 ≤ n ∧ n ≤ 1000 ∧ d < 1) ∨ (1 ≤ n ∧ n ≤ 1000 ∧ 1 ≤ d ∧ 1000 < d)) ∧ q = 2)) :
    Calls Tryz.prog 15 #[.agg #[.int .i64 (a), .int .i64 (b), .int .i64 (c)], .int .i64 n, .int .i64 d] w fun e w' => e = .returned (.tuple #[.agg #[.int .i64 (0), .int .i64 (0), .int .i64 (0)], .int .i64 q]) ∧ Gr w w' := by
  have HA := Lib.hid (fun W => areErrors_impl a b c W)
  rcases h with ⟨h, rfl⟩ | ⟨h, hx, rfl⟩
  · rw [h] at HA
    clear h
    go_enter Tryz.func15, Tryz.ntmps15
    go_wp2_with (go_at_call 39; refine (HA.out _).mono ?_; rintro e w' ⟨rfl, k, os, rfl⟩)
    ((try simp only [Exit.inBlock, Exit.then]); refine bodyPost_ret (v := .tuple #[.agg #[.int .i64 (0), .int .i64 (0), .int .i64 (0)], .int .i64 1]) (by simp [results, Tryz.results15, go_sem]) rfl ?_)
    exact ⟨rfl, (by repeat (first | with_reducible exact Gr.refl _ | with_reducible refine Gr.alloc ?_ _ | with_reducible refine Gr.gr ?_ _ _ | with_reducible refine Gr.drew ?_ | with_reducible refine Gr.drewN ?_ _))⟩
  · rw [h] at HA
    clear h
    rcases hx with h1 | ⟨h1, h2⟩ | ⟨h1, h2, h3⟩ | ⟨h1, h2, h3, h4⟩
    all_goals
      go_enter Tryz.func15, Tryz.ntmps15
      go_wp2_with (go_at_call 39; refine (HA.out _).mono ?_; rintro e w' ⟨rfl, k, os, rfl⟩)
      ((try simp only [Exit.inBlock, Exit.then]); refine bodyPost_ret (v := .tuple #[.agg #[.int .i64 (0), .int .i64 (0), .int .i64 (0)], .int .i64 2]) (by simp [results, Tryz.results15, go_sem]) rfl ?_)
      exact ⟨rfl, (by repeat (first | with_reducible exact Gr.refl _ | with_reducible refine Gr.alloc ?_ _ | with_reducible refine Gr.gr ?_ _ _ | with_reducible refine Gr.drew ?_ | with_reducible refine Gr.drewN ?_ _))⟩

set_option maxHeartbeats 8000000 in
set_option maxRecDepth 100000 in
theorem xe_ok_impl (a b c n d x y z : Int) (ok : Bool) (w : World) (h : er a b c = true) (hn : 1 ≤ n ∧ n ≤ 1000) (hd : 1 ≤ d ∧ d ≤ 1000) (hx : cd (a * n) d = x) (hy : cd (b * n) d = y) (hz : cd (c * n) d = z) (hk : er x y z = ok) :
    Calls Tryz.prog 15 #[.agg #[.int .i64 (a), .int .i64 (b), .int .i64 (c)], .int .i64 n, .int .i64 d] w fun e w' => e = .returned (if ok = true then .tuple #[.agg #[.int .i64 (x), .int .i64 (y), .int .i64 (z)], .int .i64 0] else .tuple #[.agg #[.int .i64 (0), .int .i64 (0), .int .i64 (0)], .int .i64 3]) ∧ Gr w w' := by
  obtain ⟨q1, q2, q3⟩ := (er_iff a b c).1 h
  have HA := Lib.hid (fun W => areErrors_impl a b c W)
  have HX := Lib.hid (fun W => areErrors_impl x y z W)
  have HN := Lib.hid (fun W => numbers10_any a b c W)
  rw [h] at HA
  rw [hk] at HX
  obtain ⟨⟨a1, a2⟩, a3, a4⟩ := xe_bd a n d q1 hn hd
  obtain ⟨⟨b1, b2⟩, b3, b4⟩ := xe_bd b n d q2 hn hd
  obtain ⟨⟨c1, c2⟩, c3, c4⟩ := xe_bd c n d q3 hn hd
  have UA := Lib.hid (fun W => quotientUp_any (a * n) d W (by omega) (by omega) (by omega) (by omega) (by omega))
  have UB := Lib.hid (fun W => quotientUp_any (b * n) d W (by omega) (by omega) (by omega) (by omega) (by omega))
  have UC := Lib.hid (fun W => quotientUp_any (c * n) d W (by omega) (by omega) (by omega) (by omega) (by omega))
  rw [hx] at UA a3 a4
  rw [hy] at UB b3 b4
  rw [hz] at UC c3 c4
  obtain ⟨n1, n2⟩ := hn
  obtain ⟨d1, d2⟩ := hd
  clear h hk hx hy hz
  generalize hpa : a * n = pa at *
  generalize hpb : b * n = pb at *
  generalize hpc : c * n = pc at *
  have PA := Lib.hid hpa
  have PB := Lib.hid hpb
  have PC := Lib.hid hpc
  clear hpa hpb hpc
  go_enter Tryz.func15, Tryz.ntmps15
  go_wp2_with fail
  obtain ⟨B0, B1, G0⟩ := twoE_new w 31 (.int .i64 a) (.int .i64 b) (.int .i64 c) (.int .i64 0) (.int .i64 0) (.int .i64 0)
  generalize (w.alloc (.cells #[.int .i64 a, .int .i64 b, .int .i64 c] 31)).alloc (.cells #[.int .i64 0, .int .i64 0, .int .i64 0] 31) = v at *
  refine (HA.out v).mono ?_
  rintro en v1 ⟨rfl, hg1⟩
  have C0 := B0.gr hg1
  have C1 := B1.gr hg1
  have G1 := G0.trans hg1
  clear B0 B1 G0 hg1
  obtain ⟨z0, z1, z2, zf⟩ := C0.tri
  have l0 := C0.lt
  go_wp2_with fail
  refine (HN.out v1).mono ?_
  rintro en v2 ⟨rfl, hg2⟩
  have D1 := C1.gr hg2
  have G2 := G1.trans hg2
  clear C0 C1 G1 hg2 z0 z1 z2 zf l0 v
  go_wp2_with fail
  have hA0 : Blk (v2.alloc (.cells #[.int .i64 a, .int .i64 b, .int .i64 c] 61)) v2.heap.size 61 #[.int .i64 a, .int .i64 b, .int .i64 c] := Blk.new v2 _ _
  have hR0 := D1.alloc (.cells #[.int .i64 a, .int .i64 b, .int .i64 c] 61)
  have hB0 := Lib.hid (G2.alloc (.cells #[.int .i64 a, .int .i64 b, .int .i64 c] 61)).below
  have hne : w.heap.size + 1 ≠ v2.heap.size := by have := D1.lt; omega
  have hne' : v2.heap.size ≠ w.heap.size + 1 := fun e => hne e.symm
  have hle : w.heap.size ≤ v2.heap.size := by have := D1.lt; omega
  generalize v2.heap.size = g at *
  generalize v2.alloc (.cells #[.int .i64 a, .int .i64 b, .int .i64 c] 61) = v3 at *
  clear D1 G2
  go_loopw [34] (fun i wr => ((i = .int .i64 0 ∧ Blk wr g 61 #[.int .i64 a, .int .i64 b, .int .i64 c]) ∨ (i = .int .i64 1 ∧ Blk wr g 61 #[.int .i64 x, .int .i64 b, .int .i64 c]) ∨ (i = .int .i64 2 ∧ Blk wr g 61 #[.int .i64 x, .int .i64 y, .int .i64 c]) ∨ (i = .int .i64 3 ∧ Blk wr g 61 #[.int .i64 x, .int .i64 y, .int .i64 z])) ∧ Blk wr (w.heap.size + 1) 31 #[.int .i64 0, .int .i64 0, .int .i64 0] ∧ Hid (Below w.heap.size w wr)) (fun i _ => 3 - (intOf i).toNat)
  case atStart => exact ⟨.inl ⟨rfl, hA0⟩, hR0, hB0⟩
  case round =>
    obtain ⟨hi, hR, hB⟩ := hrel
    clear hA0 hR0 hB0
    rcases hi with ⟨rfl, hA⟩ | ⟨rfl, hA⟩ | ⟨rfl, hA⟩ | ⟨rfl, hA⟩
    · obtain ⟨c0, c1, c2, cf⟩ := hA.tri
      have cl := hA.lt
      have pa' := PA.out
      go_wp2_with (go_at_call 41; refine (UA.out _).mono ?_; rintro e w' ⟨rfl, rfl⟩)
      go_roundw
      case rel => exact ⟨.inr (.inl ⟨by go_num, hA.set 0 _⟩), hR.far hne' _, Lib.hid (hB.out.setCell (p := ⟨g, 0, none⟩) hle _)⟩
      case measure => simp [intOf]
    · obtain ⟨c0, c1, c2, cf⟩ := hA.tri
      have cl := hA.lt
      have pb' := PB.out
      go_wp2_with (go_at_call 41; refine (UB.out _).mono ?_; rintro e w' ⟨rfl, rfl⟩)
      go_roundw
      case rel => exact ⟨.inr (.inr (.inl ⟨by go_num, hA.set 1 _⟩)), hR.far hne' _, Lib.hid (hB.out.setCell (p := ⟨g, 1, none⟩) hle _)⟩
      case measure => simp [intOf]
    · obtain ⟨c0, c1, c2, cf⟩ := hA.tri
      have cl := hA.lt
      have pc' := PC.out
      go_wp2_with (go_at_call 41; refine (UC.out _).mono ?_; rintro e w' ⟨rfl, rfl⟩)
      go_roundw
      case rel => exact ⟨.inr (.inr (.inr ⟨by go_num, hA.set 2 _⟩)), hR.far hne' _, Lib.hid (hB.out.setCell (p := ⟨g, 2, none⟩) hle _)⟩
      case measure => simp [intOf]
    · obtain ⟨c0, c1, c2, cf⟩ := hA.tri
      have cl := hA.lt
      go_wp2_with fail
      have hS := Blk.new wr 31 #[.int .i64 x, .int .i64 y, .int .i64 z]
      have hR1 := hR.alloc (.cells #[.int .i64 x, .int .i64 y, .int .i64 z] 31)
      have hwl : w.heap.size ≤ wr.heap.size := hB.out.size
      have hB1 := Lib.hid (hB.out.alloc hwl (.cells #[.int .i64 x, .int .i64 y, .int .i64 z] 31))
      have hsn : wr.heap.size ≠ w.heap.size + 1 := by have := hR.lt; omega
      generalize wr.heap.size = s at *
      generalize wr.alloc (.cells #[.int .i64 x, .int .i64 y, .int .i64 z] 31) = v4 at *
      clear c0 c1 c2 cf cl hA hR hB
      refine (HX.out v4).mono ?_
      rintro en v5 ⟨rfl, hg5⟩
      have hS5 := hS.gr hg5
      have hR5 := hR1.gr hg5
      have hB5 := Lib.hid (hB1.out.trans (hg5.below.mono hB1.out.size))
      clear hS hR1 hB1 hg5
      obtain ⟨c0, c1, c2, cf⟩ := hS5.tri
      obtain ⟨r0, r1, r2, rf⟩ := hR5.tri
      have sl := hS5.lt
      have rl := hR5.lt
      clear hS5 hR5
      cases ok
      · go_wp2_with fail
        ((try simp only [Exit.inBlock, Exit.then]); refine bodyPost_ret (v := .tuple #[.agg #[.int .i64 (0), .int .i64 (0), .int .i64 (0)], .int .i64 3]) (by simp [results, Tryz.results15, go_sem, r0, r1, r2, World.cell?_setCell_same']) rfl ?_)
        exact ⟨rfl, Gr.of_below (((hB5.out.setCell (p := ⟨w.heap.size + 1, 0, none⟩) (by simp) _).setCell (p := ⟨w.heap.size + 1, 1, none⟩) (by simp) _).setCell (p := ⟨w.heap.size + 1, 2, none⟩) (by simp) _)⟩
      · go_wp2_with fail
        ((try simp only [Exit.inBlock, Exit.then]); refine bodyPost_ret (v := .tuple #[.agg #[.int .i64 (x), .int .i64 (y), .int .i64 (z)], .int .i64 0]) (by simp [results, Tryz.results15, go_sem, r0, r1, r2, World.cell?_setCell_same']) rfl ?_)
        exact ⟨rfl, Gr.of_below (((hB5.out.setCell (p := ⟨w.heap.size + 1, 0, none⟩) (by simp) _).setCell (p := ⟨w.heap.size + 1, 1, none⟩) (by simp) _).setCell (p := ⟨w.heap.size + 1, 2, none⟩) (by simp) _)⟩

theorem xeR_impl (a b c n d : Int) (w : World) :
    Calls Tryz.prog 15 #[.agg #[.int .i64 (a), .int .i64 (b), .int .i64 (c)], .int .i64 n, .int .i64 d] w fun e w' => e = .returned (.tuple #[.agg #[.int .i64 ((xeR a b c n d).1.1), .int .i64 ((xeR a b c n d).1.2.1), .int .i64 ((xeR a b c n d).1.2.2)], .int .i64 (xeR a b c n d).2]) ∧ Gr w w' := by
  rcases xe_cases a b c n d with ⟨h, e⟩ | ⟨h, h2, e⟩ | ⟨h, h2, h3, e⟩ | ⟨h, h2, h3, h4, e⟩ | ⟨h, h2, h3, h4, e⟩
  · rw [e]; exact xe_bad_impl a b c n d 1 w (.inl ⟨h, rfl⟩)
  · rw [e]
    have hn := mt (th_iff n).2 (by rw [h2]; simp)
    exact xe_bad_impl a b c n d 2 w (.inr ⟨h, by omega, rfl⟩)
  · rw [e]
    have hn := (th_iff n).1 h2
    have hd := mt (th_iff d).2 (by rw [h3]; simp)
    exact xe_bad_impl a b c n d 2 w (.inr ⟨h, by omega, rfl⟩)
  · rw [e]; exact xe_ok_impl a b c n d _ _ _ false w h ((th_iff n).1 h2) ((th_iff d).1 h3) rfl rfl rfl h4
  · rw [e]; exact xe_ok_impl a b c n d _ _ _ true w h ((th_iff n).1 h2) ((th_iff d).1 h3) rfl rfl rfl h4

set_option maxHeartbeats 4000000 in
set_option maxRecDepth 100000 in
theorem xe_ok_spec (a b c n d x y z : Int) (ok : Bool) (w : World) (h : er a b c = true) (h2 : th n = true) (h3 : th d = true) (hx : cd (a * n) d = x) (hy : cd (b * n) d = y) (hz : cd (c * n) d = z) (hk : er x y z = ok) :
    Calls Tryz.prog 16 #[.agg #[.int .i64 (a), .int .i64 (b), .int .i64 (c)], .int .i64 n, .int .i64 d] w fun e w' => e = .returned (if ok = true then .tuple #[.agg #[.int .i64 (x), .int .i64 (y), .int .i64 (z)], .int .i64 0] else .tuple #[.agg #[.int .i64 (0), .int .i64 (0), .int .i64 (0)], .int .i64 3]) ∧ Gr w w' := by
  have hn := (th_iff n).1 h2
  have hd := (th_iff d).1 h3
  obtain ⟨q1, q2, q3⟩ := (er_iff a b c).1 h
  have HA := Lib.hid (fun W => areErrors_spec a b c W)
  have HX := Lib.hid (fun W => areErrors_spec x y z W)
  have HIn := Lib.hid (fun W => in_any n 1 1000 W)
  rw [show decide (1 ≤ n ∧ n ≤ 1000) = th n from rfl, h2] at HIn
  have HId := Lib.hid (fun W => in_any d 1 1000 W)
  rw [show decide (1 ≤ d ∧ d ≤ 1000) = th d from rfl, h3] at HId
  rw [h] at HA
  rw [hk] at HX
  obtain ⟨⟨a1, a2⟩, a3, a4⟩ := xe_bd a n d q1 hn hd
  obtain ⟨⟨b1, b2⟩, b3, b4⟩ := xe_bd b n d q2 hn hd
  obtain ⟨⟨c1, c2⟩, c3, c4⟩ := xe_bd c n d q3 hn hd
  have UA := Lib.hid (fun W => ceil_any (a * n) d W (by omega) (by omega) (by omega) (by omega) (by omega))
  have UB := Lib.hid (fun W => ceil_any (b * n) d W (by omega) (by omega) (by omega) (by omega) (by omega))
  have UC := Lib.hid (fun W => ceil_any (c * n) d W (by omega) (by omega) (by omega) (by omega) (by omega))
  rw [hx] at UA
  rw [hy] at UB
  rw [hz] at UC
  have w1 : IntKind.i64.wrap (a * n) = a * n := IntWalk.i64_in _ (by omega)
  have w2 : IntKind.i64.wrap (b * n) = b * n := IntWalk.i64_in _ (by omega)
  have w3 : IntKind.i64.wrap (c * n) = c * n := IntWalk.i64_in _ (by omega)
  clear h hk hx hy hz h2 h3 hn hd q1 q2 q3 a1 a2 a3 a4 b1 b2 b3 b4 c1 c2 c3 c4
  go_enter Tryz.func16, Tryz.ntmps16
  go_wp2_with fail
  obtain ⟨B0, B1, G0⟩ := twoE_new w 31 (.int .i64 a) (.int .i64 b) (.int .i64 c) (.int .i64 0) (.int .i64 0) (.int .i64 0)
  generalize (w.alloc (.cells #[.int .i64 a, .int .i64 b, .int .i64 c] 31)).alloc (.cells #[.int .i64 0, .int .i64 0, .int .i64 0] 31) = v at *
  refine (HA.out v).mono ?_
  rintro en v1 ⟨rfl, hg1⟩
  have C0 := B0.gr hg1
  have C1 := B1.gr hg1
  have G1 := Lib.hid (G0.trans hg1)
  clear B0 B1 G0 hg1
  obtain ⟨z0, z1, z2, zf⟩ := C0.tri
  obtain ⟨r0, r1, r2, rf⟩ := C1.tri
  have l0 := C0.lt
  have l1 := C1.lt
  have HC1 := Lib.hid C1
  clear C0 C1
  go_wp2_with (first | (go_at_call 27; (with_reducible refine (HIn.out _).mono ?_); rintro e w' ⟨rfl, rfl⟩) | (go_at_call 27; (with_reducible refine (HId.out _).mono ?_); rintro e w' ⟨rfl, rfl⟩))
  go_region_held3 (fun w' => w'.cell? ⟨w.heap.size, 0, none⟩ = some (.int .i64 a) ∧ w'.cell? ⟨w.heap.size, 1, none⟩ = some (.int .i64 b) ∧ w'.cell? ⟨w.heap.size, 2, none⟩ = some (.int .i64 c)) (go_simp) (first | (go_at_call 42; (with_reducible refine (UA.out _).mono ?_); rintro e w' ⟨rfl, rfl⟩) | (go_at_call 42; (with_reducible refine (UB.out _).mono ?_); rintro e w' ⟨rfl, rfl⟩) | (go_at_call 42; (with_reducible refine (UC.out _).mono ?_); rintro e w' ⟨rfl, rfl⟩))
  all_goals
    go_wp2_with fail
    have hS := Blk.new v1 31 #[.int .i64 x, .int .i64 y, .int .i64 z]
    have hR1 := HC1.out.alloc (.cells #[.int .i64 x, .int .i64 y, .int .i64 z] 31)
    have hG1 := Lib.hid ((G1.out.alloc (.cells #[.int .i64 x, .int .i64 y, .int .i64 z] 31)).drew)
    refine (HX.out _).mono ?_
    rintro en v5 ⟨rfl, hg5⟩
    have hS5 := Blk.gr (show Blk (v1.alloc (.cells #[.int .i64 x, .int .i64 y, .int .i64 z] 31)).drew _ _ _ from hS) hg5
    have hR5 := Blk.gr (show Blk (v1.alloc (.cells #[.int .i64 x, .int .i64 y, .int .i64 z] 31)).drew _ _ _ from hR1) hg5
    have hB5 := Lib.hid (hG1.out.trans hg5).below
    clear hS hR1 hG1 hg5 z0 z1 z2 zf l0 r0 r1 r2 rf l1 HC1
    obtain ⟨c0, c1, c2, cf⟩ := hS5.tri
    obtain ⟨r0, r1, r2, rf⟩ := hR5.tri
    have sl := hS5.lt
    have rl := hR5.lt
    clear hS5 hR5 G1
    generalize v1.heap.size = g at *
    cases ok
    · go_wp2_with fail
      ((try simp only [Exit.inBlock, Exit.then]); refine bodyPost_ret (v := .tuple #[.agg #[.int .i64 (0), .int .i64 (0), .int .i64 (0)], .int .i64 3]) (by simp [results, Tryz.results16, go_sem, r0, r1, r2, World.cell?_setCell_same']) rfl ?_)
      exact ⟨rfl, Gr.of_below (((hB5.out.setCell (p := ⟨w.heap.size + 1, 0, none⟩) (by simp) _).setCell (p := ⟨w.heap.size + 1, 1, none⟩) (by simp) _).setCell (p := ⟨w.heap.size + 1, 2, none⟩) (by simp) _)⟩
    · go_wp2_with fail
      ((try simp only [Exit.inBlock, Exit.then]); refine bodyPost_ret (v := .tuple #[.agg #[.int .i64 (x), .int .i64 (y), .int .i64 (z)], .int .i64 0]) (by simp [results, Tryz.results16, go_sem, r0, r1, r2, World.cell?_setCell_same']) rfl ?_)
      exact ⟨rfl, Gr.of_below (((hB5.out.setCell (p := ⟨w.heap.size + 1, 0, none⟩) (by simp) _).setCell (p := ⟨w.heap.size + 1, 1, none⟩) (by simp) _).setCell (p := ⟨w.heap.size + 1, 2, none⟩) (by simp) _)⟩

set_option maxHeartbeats 1000000 in
theorem xe_bad_spec (a b c n d q : Int) (w : World) (h : (er a b c = false ∧ q = 1) ∨ (er a b c = true ∧ (th n = false ∨ (th n = true ∧ th d = false)) ∧ q = 2)) :
    Calls Tryz.prog 16 #[.agg #[.int .i64 (a), .int .i64 (b), .int .i64 (c)], .int .i64 n, .int .i64 d] w fun e w' => e = .returned (.tuple #[.agg #[.int .i64 (0), .int .i64 (0), .int .i64 (0)], .int .i64 q]) ∧ Gr w w' := by
  have HA := Lib.hid (fun W => areErrors_spec a b c W)
  have HIn := Lib.hid (fun W => in_any n 1 1000 W)
  rw [show decide (1 ≤ n ∧ n ≤ 1000) = th n from rfl] at HIn
  have HId := Lib.hid (fun W => in_any d 1 1000 W)
  rw [show decide (1 ≤ d ∧ d ≤ 1000) = th d from rfl] at HId
  rcases h with ⟨h, rfl⟩ | ⟨h, hx, rfl⟩
  · rw [h] at HA
    clear h
    go_enter Tryz.func16, Tryz.ntmps16
    go_wp2_with (go_at_call 32; refine (HA.out _).mono ?_; rintro e w' ⟨rfl, k, os, rfl⟩)
    ((try simp only [Exit.inBlock, Exit.then]); refine bodyPost_ret (v := .tuple #[.agg #[.int .i64 (0), .int .i64 (0), .int .i64 (0)], .int .i64 1]) (by simp [results, Tryz.results16, go_sem]) rfl ?_)
    exact ⟨rfl, (by repeat (first | with_reducible exact Gr.refl _ | with_reducible refine Gr.alloc ?_ _ | with_reducible refine Gr.gr ?_ _ _ | with_reducible refine Gr.drew ?_ | with_reducible refine Gr.drewN ?_ _))⟩
  · rw [h] at HA
    clear h
    rcases hx with h1 | ⟨h1, h2⟩
    · rw [h1] at HIn
      clear h1 HId
      go_enter Tryz.func16, Tryz.ntmps16
      go_wp2_with (first | (go_at_call 32; refine (HA.out _).mono ?_; rintro e w' ⟨rfl, k, os, rfl⟩) | (go_at_call 27; refine (HIn.out _).mono ?_; rintro e w' ⟨rfl, rfl⟩))
      ((try simp only [Exit.inBlock, Exit.then]); refine bodyPost_ret (v := .tuple #[.agg #[.int .i64 (0), .int .i64 (0), .int .i64 (0)], .int .i64 2]) (by simp [results, Tryz.results16, go_sem]) rfl ?_)
      exact ⟨rfl, (by repeat (first | with_reducible exact Gr.refl _ | with_reducible refine Gr.alloc ?_ _ | with_reducible refine Gr.gr ?_ _ _ | with_reducible refine Gr.drew ?_ | with_reducible refine Gr.drewN ?_ _))⟩
    · rw [h1] at HIn
      rw [h2] at HId
      clear h1 h2
      go_enter Tryz.func16, Tryz.ntmps16
      go_wp2_with (first | (go_at_call 32; refine (HA.out _).mono ?_; rintro e w' ⟨rfl, k, os, rfl⟩) | (go_at_call 27; (with_reducible refine (HIn.out _).mono ?_); rintro e w' ⟨rfl, rfl⟩) | (go_at_call 27; (with_reducible refine (HId.out _).mono ?_); rintro e w' ⟨rfl, rfl⟩))
      ((try simp only [Exit.inBlock, Exit.then]); refine bodyPost_ret (v := .tuple #[.agg #[.int .i64 (0), .int .i64 (0), .int .i64 (0)], .int .i64 2]) (by simp [results, Tryz.results16, go_sem]) rfl ?_)
      exact ⟨rfl, (by repeat (first | with_reducible exact Gr.refl _ | with_reducible refine Gr.alloc ?_ _ | with_reducible refine Gr.gr ?_ _ _ | with_reducible refine Gr.drew ?_ | with_reducible refine Gr.drewN ?_ _))⟩
theorem xeR_spec (a b c n d : Int) (w : World) :
    Calls Tryz.prog 16 #[.agg #[.int .i64 (a), .int .i64 (b), .int .i64 (c)], .int .i64 n, .int .i64 d] w fun e w' => e = .returned (.tuple #[.agg #[.int .i64 ((xeR a b c n d).1.1), .int .i64 ((xeR a b c n d).1.2.1), .int .i64 ((xeR a b c n d).1.2.2)], .int .i64 (xeR a b c n d).2]) ∧ Gr w w' := by
  rcases xe_cases a b c n d with ⟨h, e⟩ | ⟨h, h2, e⟩ | ⟨h, h2, h3, e⟩ | ⟨h, h2, h3, h4, e⟩ | ⟨h, h2, h3, h4, e⟩
  · rw [e]; exact xe_bad_spec a b c n d 1 w (.inl ⟨h, rfl⟩)
  · rw [e]; exact xe_bad_spec a b c n d 2 w (.inr ⟨h, .inl h2, rfl⟩)
  · rw [e]; exact xe_bad_spec a b c n d 2 w (.inr ⟨h, .inr ⟨h2, h3⟩, rfl⟩)
  · rw [e]; exact xe_ok_spec a b c n d _ _ _ false w h h2 h3 rfl rfl rfl h4
  · rw [e]; exact xe_ok_spec a b c n d _ _ _ true w h h2 h3 rfl rfl rfl h4
end Go.Proofs.YtdbeedfapkfibaaGreatDoor
