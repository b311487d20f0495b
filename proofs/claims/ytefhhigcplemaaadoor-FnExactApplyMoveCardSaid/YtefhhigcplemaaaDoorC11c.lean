/- Contracts of chapter 11: the program's machines, parts, HasScale. -/
import Derived.Test.YtefhhigcplemaaaDoorC11b
import Derived.Test.YtefhhigcplemaaaDoorLw
namespace Go.Proofs.YtefhhigcplemaaaDoor
open Go.RowKit
set_option linter.unusedVariables false
set_option linter.unusedSimpArgs false

theorem two_boxes (w : World) (T U : TypeId) (a b : Array Value) : Blk ((w.alloc (.cells a T)).alloc (.cells b U)) w.heap.size T a ∧ Blk ((w.alloc (.cells a T)).alloc (.cells b U)) (w.heap.size + 1) U b ∧ Gr w ((w.alloc (.cells a T)).alloc (.cells b U)) := by
  have B0 := (Blk.new w T a).alloc (.cells b U)
  have B1 := Blk.new (w.alloc (.cells a T)) U b
  rw [World.size_alloc] at B1
  exact ⟨B0, B1, (by repeat (first | with_reducible exact Gr.refl _ | with_reducible refine Gr.alloc ?_ _ | with_reducible refine Gr.gr ?_ _ _ | with_reducible refine Gr.drew ?_ | with_reducible refine Gr.drewN ?_ _))⟩
/-- A machine was made. -/
def MachN (L : Int) (A B : Option Addr) (n c m d : Nat) (a q : Int) (r : Bool) (w : World) (e : Ending) (w' : World) : Prop :=
  ∃ g : Nat, e = .returned (.tuple #[.pointer (some ⟨g, 0, none⟩), .bool r]) ∧ w.heap.size ≤ g ∧ Blk w' g 104 #[.int .i64 L, .slice A n c, .slice B m d, .int .i64 a, .int .i64 q] ∧ Gr w w'
set_option maxHeartbeats 4000000 in
set_option maxRecDepth 100000 in
theorem newMachine_any (a q : Int) (L : Int) (A B : Option Addr) (n c m d : Nat) (xs ys : List Int) (w : World) (hx : xs.length = n) (hy : ys.length = m) (hn : n ≤ 16777216) (hm : m ≤ 16777216) (hnc : n ≤ c) (hmd : m ≤ d) (hX : Reads w w.heap.size A (xs.map vi)) (hY : Reads w w.heap.size B (ys.map vi)) :
    Calls Tryd.prog 68 #[.agg #[.int .i64 L, .slice A n c, .slice B m d], .agg #[.int .i64 (a), .int .i64 (q)]] w (MachN L A B n c m d a q (rlB L xs ys && sgB a q) w) := by
  have HR := Lib.hid (fun W h h' => rule_impl L A B n c m d xs ys W hx hy hn hm hnc hmd h h')
  have HS := Lib.hid (fun W => setting_impl a q W)
  have RX := Lib.hid hX
  have RY := Lib.hid hY
  clear hx hy hX hY
  generalize rlB L xs ys = x at *
  generalize sgB a q = y at *
  cases x
  · go_enter Tryd.func68, Tryd.ntmps68
    go_wp2_with fail
    obtain ⟨B0, B1, G0⟩ := two_boxes w 42 39 #[.int .i64 L, .slice A n c, .slice B m d] #[.int .i64 a, .int .i64 q]
    generalize (w.alloc (.cells #[.int .i64 L, .slice A n c, .slice B m d] 42)).alloc (.cells #[.int .i64 a, .int .i64 q] 39) = v at *
    have hX := RX.out.gr G0
    have hY := RY.out.gr G0
    have hbw := G0.below.size
    have HG := Lib.hid G0
    clear RX RY G0
    refine region_grows [(3, .box w.heap.size 104 #[.int .i64 L, .slice A n c, .slice B m d, .int .i64 a, .int .i64 q]), (5, .is (.bool false))] (by kernel_rfl) (by kernel_rfl) ?_
    (refine lz_one rfl (fun K hK => ?_); refine ⟨rfl, ?_⟩; apply Exists.intro; refine ⟨fun wz hz => ?_, ?_⟩; (focus (obtain ⟨c0, c1, c2, -⟩ := (B0.gr hz).trio; go_simp; (first | done | exact ⟨rfl, rfl⟩ | trivial))); (go_simp; refine hK _ _ ?_; clear hK K))
    (refine lz_one rfl (fun K hK => ?_); refine ⟨rfl, ?_⟩; apply Exists.intro; refine ⟨fun wz hz => ?_, ?_⟩; (focus (obtain ⟨c0, c1, -⟩ := (B1.gr hz).two; go_simp; (first | done | exact ⟨rfl, rfl⟩ | trivial))); (go_simp; refine hK _ _ ?_; clear hK K))
    (refine lz_one rfl (fun K hK => ?_); refine ⟨rfl, ?_⟩; apply Exists.intro; refine ⟨fun wz hz => ?_, ?_⟩; (focus (skip; go_simp; (first | done | exact ⟨rfl, rfl⟩ | trivial))); (go_simp; refine hK _ _ ?_; clear hK K))
    (refine lz_many _ rfl (fun K hK => ?_); refine ⟨rfl, fun wz hz ha => ?_, fun vz wz hz hf => ?_⟩; (focus (go_simp; exact lg_box hz (Nat.le_trans hbw hz.below.size))); (obtain ⟨g, rfl, hbg, -⟩ := hf; clear hz wz; go_simp; refine hK _ _ ?_; clear hK K))
    (refine lz_one rfl (fun K hK => ?_); refine ⟨rfl, ?_⟩; apply Exists.intro; refine ⟨fun wz hz => ?_, ?_⟩; (focus (obtain ⟨c0, c1, c2, -⟩ := (B0.gr hz).trio; go_simp; (first | done | exact ⟨rfl, rfl⟩ | trivial))); (go_simp; refine hK _ _ ?_; clear hK K))
    (refine lz_many _ rfl (fun K hK => ?_); refine ⟨rfl, fun wz hz ha => ?_, fun vz wz hz hf => ?_⟩; (focus (go_simp; exact lg_call hz (HR.out _ (hX.gr hz) (hY.gr hz)))); (obtain rfl := hf; clear hz wz; go_simp; refine hK _ _ ?_; clear hK K))
    (refine lz_one rfl (fun K hK => ?_); refine ⟨rfl, ?_⟩; apply Exists.intro; refine ⟨fun wz hz => ?_, ?_⟩; (focus (skip; go_simp; (first | done | exact ⟨rfl, rfl⟩ | trivial))); (go_simp; refine hK _ _ ?_; clear hK K))
    (refine lz_skip (fun K hK => ?_); refine ⟨rfl, ?_⟩; go_simp; refine hK _ _ ?_; clear hK K)
    (refine lz_skip (fun K hK => ?_); refine ⟨rfl, ?_⟩; go_simp; refine hK _ _ ?_; clear hK K)
    (refine lz_one rfl (fun K hK => ?_); refine ⟨rfl, ?_⟩; apply Exists.intro; refine ⟨fun wz hz => ?_, ?_⟩; (focus (skip; go_simp; (first | done | exact ⟨rfl, rfl⟩ | trivial))); (go_simp; refine hK _ _ ?_; clear hK K))
    (refine lz_one rfl (fun K hK => ?_); refine ⟨rfl, ?_⟩; apply Exists.intro; refine ⟨fun wz hz => ?_, ?_⟩; (focus (skip; go_simp; (first | done | exact ⟨rfl, rfl⟩ | trivial))); (go_simp; refine hK _ _ ?_; clear hK K))
    (refine lz_one rfl (fun K hK => ?_); refine ⟨rfl, ?_⟩; apply Exists.intro; refine ⟨fun wz hz => ?_, ?_⟩; (focus (skip; go_simp; (first | done | exact ⟨rfl, rfl⟩ | trivial))); (go_simp; refine hK _ _ ?_; clear hK K))
    refine lz_nil ?_
    intro w' hz hg
    obtain ⟨g2, e2, -, hB⟩ := hg 3
    cases e2
    clear hg
    go_wp2_with fail
    go_ret2
    exact ⟨g, rfl, hbg, hB, HG.out.trans hz⟩
  · go_enter Tryd.func68, Tryd.ntmps68
    go_wp2_with fail
    obtain ⟨B0, B1, G0⟩ := two_boxes w 42 39 #[.int .i64 L, .slice A n c, .slice B m d] #[.int .i64 a, .int .i64 q]
    generalize (w.alloc (.cells #[.int .i64 L, .slice A n c, .slice B m d] 42)).alloc (.cells #[.int .i64 a, .int .i64 q] 39) = v at *
    have hX := RX.out.gr G0
    have hY := RY.out.gr G0
    have hbw := G0.below.size
    have HG := Lib.hid G0
    clear RX RY G0
    refine region_grows [(3, .box w.heap.size 104 #[.int .i64 L, .slice A n c, .slice B m d, .int .i64 a, .int .i64 q]), (5, .is (.bool true)), (8, .is (.bool y))] (by kernel_rfl) (by kernel_rfl) ?_
    (refine lz_one rfl (fun K hK => ?_); refine ⟨rfl, ?_⟩; apply Exists.intro; refine ⟨fun wz hz => ?_, ?_⟩; (focus (obtain ⟨c0, c1, c2, -⟩ := (B0.gr hz).trio; go_simp; (first | done | exact ⟨rfl, rfl⟩ | trivial))); (go_simp; refine hK _ _ ?_; clear hK K))
    (refine lz_one rfl (fun K hK => ?_); refine ⟨rfl, ?_⟩; apply Exists.intro; refine ⟨fun wz hz => ?_, ?_⟩; (focus (obtain ⟨c0, c1, -⟩ := (B1.gr hz).two; go_simp; (first | done | exact ⟨rfl, rfl⟩ | trivial))); (go_simp; refine hK _ _ ?_; clear hK K))
    (refine lz_one rfl (fun K hK => ?_); refine ⟨rfl, ?_⟩; apply Exists.intro; refine ⟨fun wz hz => ?_, ?_⟩; (focus (skip; go_simp; (first | done | exact ⟨rfl, rfl⟩ | trivial))); (go_simp; refine hK _ _ ?_; clear hK K))
    (refine lz_many _ rfl (fun K hK => ?_); refine ⟨rfl, fun wz hz ha => ?_, fun vz wz hz hf => ?_⟩; (focus (go_simp; exact lg_box hz (Nat.le_trans hbw hz.below.size))); (obtain ⟨g, rfl, hbg, -⟩ := hf; clear hz wz; go_simp; refine hK _ _ ?_; clear hK K))
    (refine lz_one rfl (fun K hK => ?_); refine ⟨rfl, ?_⟩; apply Exists.intro; refine ⟨fun wz hz => ?_, ?_⟩; (focus (obtain ⟨c0, c1, c2, -⟩ := (B0.gr hz).trio; go_simp; (first | done | exact ⟨rfl, rfl⟩ | trivial))); (go_simp; refine hK _ _ ?_; clear hK K))
    (refine lz_many _ rfl (fun K hK => ?_); refine ⟨rfl, fun wz hz ha => ?_, fun vz wz hz hf => ?_⟩; (focus (go_simp; exact lg_call hz (HR.out _ (hX.gr hz) (hY.gr hz)))); (obtain rfl := hf; clear hz wz; go_simp; refine hK _ _ ?_; clear hK K))
    (refine lz_one rfl (fun K hK => ?_); refine ⟨rfl, ?_⟩; apply Exists.intro; refine ⟨fun wz hz => ?_, ?_⟩; (focus (skip; go_simp; (first | done | exact ⟨rfl, rfl⟩ | trivial))); (go_simp; refine hK _ _ ?_; clear hK K))
    (refine lz_one rfl (fun K hK => ?_); refine ⟨rfl, ?_⟩; apply Exists.intro; refine ⟨fun wz hz => ?_, ?_⟩; (focus (obtain ⟨c0, c1, -⟩ := (B1.gr hz).two; go_simp; (first | done | exact ⟨rfl, rfl⟩ | trivial))); (go_simp; refine hK _ _ ?_; clear hK K))
    (refine lz_many _ rfl (fun K hK => ?_); refine ⟨rfl, fun wz hz ha => ?_, fun vz wz hz hf => ?_⟩; (focus (go_simp; exact lg_call hz (HS.out _))); (obtain rfl := hf; clear hz wz; go_simp; refine hK _ _ ?_; clear hK K))
    (refine lz_one rfl (fun K hK => ?_); refine ⟨rfl, ?_⟩; apply Exists.intro; refine ⟨fun wz hz => ?_, ?_⟩; (focus (skip; go_simp; (first | done | exact ⟨rfl, rfl⟩ | trivial))); (go_simp; refine hK _ _ ?_; clear hK K))
    (refine lz_one rfl (fun K hK => ?_); refine ⟨rfl, ?_⟩; apply Exists.intro; refine ⟨fun wz hz => ?_, ?_⟩; (focus (skip; go_simp; (first | done | exact ⟨rfl, rfl⟩ | trivial))); (go_simp; refine hK _ _ ?_; clear hK K))
    (refine lz_one rfl (fun K hK => ?_); refine ⟨rfl, ?_⟩; apply Exists.intro; refine ⟨fun wz hz => ?_, ?_⟩; (focus (skip; go_simp; (first | done | exact ⟨rfl, rfl⟩ | trivial))); (go_simp; refine hK _ _ ?_; clear hK K))
    refine lz_nil ?_
    intro w' hz hg
    obtain ⟨g2, e2, -, hB⟩ := hg 3
    cases e2
    clear hg
    go_wp2_with fail
    go_ret2
    exact ⟨g, rfl, hbg, hB, HG.out.trans hz⟩

theorem stock_any (g : Nat) (L : Int) (A B : Option Addr) (n c m d : Nat) (a q : Int) (w : World) (h : Blk w g 104 #[.int .i64 L, .slice A n c, .slice B m d, .int .i64 a, .int .i64 q]) :
    Calls Tryd.prog 76 #[.pointer (some ⟨g, 0, none⟩)] w fun e w' => e = .returned (.agg #[.slice A n c, .int .i64 0]) ∧ Gr w w' := by
  have c1 := cell_of_row w g 1 _ _ _ h
  have gl := h.lt
  simp at c1
  clear h
  go_enter Tryd.func76, Tryd.ntmps76
  go_wp2
  ((try simp only [Exit.inBlock, Exit.then]); refine bodyPost_ret (v := .agg #[.slice A n c, .int .i64 0]) (by simp [results, Tryd.results76, go_sem]) rfl ?_)
  exact ⟨rfl, (by repeat (first | with_reducible exact Gr.refl _ | with_reducible refine Gr.alloc ?_ _ | with_reducible refine Gr.gr ?_ _ _ | with_reducible refine Gr.drew ?_ | with_reducible refine Gr.drewN ?_ _))⟩
theorem slide_any (g : Nat) (L : Int) (A B : Option Addr) (n c m d : Nat) (a q : Int) (w : World) (h : Blk w g 104 #[.int .i64 L, .slice A n c, .slice B m d, .int .i64 a, .int .i64 q]) :
    Calls Tryd.prog 78 #[.pointer (some ⟨g, 0, none⟩)] w fun e w' => e = .returned (.agg #[.slice B m d, .int .i64 a]) ∧ Gr w w' := by
  have c2 := cell_of_row w g 2 _ _ _ h
  have c3 := cell_of_row w g 3 _ _ _ h
  have gl := h.lt
  simp at c2 c3
  clear h
  go_enter Tryd.func78, Tryd.ntmps78
  go_wp2
  go_region
  all_goals
    go_wp2
    ((try simp only [Exit.inBlock, Exit.then]); refine bodyPost_ret (v := .agg #[.slice B m d, .int .i64 a]) (by simp [results, Tryd.results78, go_sem]) rfl ?_)
    exact ⟨rfl, (by repeat (first | with_reducible exact Gr.refl _ | with_reducible refine Gr.alloc ?_ _ | with_reducible refine Gr.gr ?_ _ _ | with_reducible refine Gr.drew ?_ | with_reducible refine Gr.drewN ?_ _))⟩
theorem partHas_any (A : Option Addr) (n c : Nat) (zs : List Int) (st s : Int) (w : World) (hn : zs.length = n) (hN : n ≤ 16777216) (hR : Reads w w.heap.size A (zs.map vi)) :
    Calls Tryd.prog 112 #[.agg #[.slice A n c, .int .i64 st], .int .i64 s] w fun e w' => e = .returned (.bool (hasI zs s)) ∧ Gr w w' := by
  have HC := Lib.hid (fun W h => contains_any A n c zs s W hn hN h)
  have RX := Lib.hid hR
  clear hn hR
  go_enter Tryd.func112, Tryd.ntmps112
  go_wp2_with (go_at_call 124; (with_reducible refine (HC.out _ (RX.out.gr (by repeat (first | with_reducible exact Gr.refl _ | with_reducible refine Gr.alloc ?_ _ | with_reducible refine Gr.gr ?_ _ _ | with_reducible refine Gr.drew ?_ | with_reducible refine Gr.drewN ?_ _)))).mono ?_); rintro e w' ⟨rfl, rfl⟩)
  go_ret
  exact ⟨rfl, (by repeat (first | with_reducible exact Gr.refl _ | with_reducible refine Gr.alloc ?_ _ | with_reducible refine Gr.gr ?_ _ _ | with_reducible refine Gr.drew ?_ | with_reducible refine Gr.drewN ?_ _))⟩

theorem zero_setting : sgB 0 0 = true := by decide
end Go.Proofs.YtefhhigcplemaaaDoor
