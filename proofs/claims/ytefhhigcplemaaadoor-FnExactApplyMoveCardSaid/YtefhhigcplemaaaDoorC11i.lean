/- Contracts of chapter 11: the program's SetCursor and SetSlide. -/
import Derived.Test.YtefhhigcplemaaaDoorC11h
namespace Go.Proofs.YtefhhigcplemaaaDoor
open Go.RowKit
set_option linter.unusedVariables false
set_option linter.unusedSimpArgs false

theorem ret_sgc (a b c : Int) (x : (Int × Int) × Int) (h : x = ((a, b), c)) : Ending.returned (.tuple #[.agg #[.int .i64 a, .int .i64 b], .int .i64 c]) = .returned (.tuple #[.agg #[.int .i64 x.1.1, .int .i64 x.1.2], .int .i64 x.2]) := by rw [h]
/-- What a machine's method answers, and where the setting is then. -/
def mvK (h : Bool) (a q : Int) : Int := if h = true then (if sgB a q = true then 0 else 5) else 2
theorem setc_any (b : Bool) (g : Nat) (a q s u t : Int) (L : Int) (A B : Option Addr) (n c m d : Nat) (xs ys : List Int) (w : World) (hx : xs.length = n) (hy : ys.length = m) (hn : n ≤ 16777216) (hm : m ≤ 16777216) (hnc : n ≤ c) (hmd : m ≤ d) (hX : Reads w w.heap.size A (xs.map vi)) (hY : Reads w w.heap.size B (ys.map vi)) (hD : Dcs w) (hr : rlB L xs ys = true) (h : Blk w g 104 (mcs L A B n c m d a q)) (hf : fg u t = true) (ha : -1048576 ≤ a ∧ a ≤ 1048576) :
    Calls Tryd.prog 75 #[.pointer (some ⟨g, 0, none⟩), pmet b, .int .i64 s, .agg #[.int .i64 u, .int .i64 t]] w (Moved g (mcs L A B n c m d a (if hasI (onP b xs ys) s = true then stP b a + pnt s u t else q)) (mvK (hasI (onP b xs ys) s) a (stP b a + pnt s u t)) w) := by
  obtain ⟨C, k, r, hC, hzl, hk, hZ⟩ := part_of b w A B n c m d xs ys hx hy hn hm hX hY
  refine (setCursor_any b (onP b xs ys) k C r g a q s u t L A B n c m d w hD hzl hk hC hZ h hf ha (fun e => onP_mem hr e)).mono ?_
  intro e w' he
  rcases hasI_tf (onP b xs ys) s with hs | hs
  · rw [hs, if_pos rfl] at he
    rw [hs, if_pos rfl]
    exact he
  · rw [hs, if_neg (by simp)] at he
    rw [hs, if_neg (by simp)]
    exact ⟨he.1, h.gr he.2, Gx.of he.2⟩
theorem sets_any (g : Nat) (a q s u t : Int) (L : Int) (A B : Option Addr) (n c m d : Nat) (xs ys : List Int) (w : World) (hx : xs.length = n) (hy : ys.length = m) (hn : n ≤ 16777216) (hm : m ≤ 16777216) (hnc : n ≤ c) (hmd : m ≤ d) (hX : Reads w w.heap.size A (xs.map vi)) (hY : Reads w w.heap.size B (ys.map vi)) (hD : Dcs w) (hr : rlB L xs ys = true) (h : Blk w g 104 (mcs L A B n c m d a q)) (hf : fg u t = true) (hq : 0 ≤ q ∧ q ≤ 1048576) :
    Calls Tryd.prog 80 #[.pointer (some ⟨g, 0, none⟩), .int .i64 s, .agg #[.int .i64 u, .int .i64 t]] w (Moved g (mcs L A B n c m d (if hasI ys s = true then q - pnt s u t else a) q) (mvK (hasI ys s) (q - pnt s u t) q) w) := by
  refine (setSlide_any g a q s u t L A B n c m d xs ys w hD hy hm hY h hf hq (fun e => onP_mem (b := true) (xs := xs) hr e)).mono ?_
  intro e w' he
  rcases hasI_tf ys s with hs | hs
  · rw [hs, if_pos rfl] at he
    rw [hs, if_pos rfl]
    exact he
  · rw [hs, if_neg (by simp)] at he
    rw [hs, if_neg (by simp)]
    exact ⟨he.1, h.gr he.2, Gx.of he.2⟩
theorem cuR_mv (L : Int) (xs ys : List Int) (a q : Int) (b : Bool) (s d t : Int) (hr : rlB L xs ys = true) (hs : sgB a q = true) (hf : fg d t = true) :
    cuR L xs ys a q b s d t = if mvK (hasI (onP b xs ys) s) a (stP b a + pnt s d t) = 0 then ((a, if hasI (onP b xs ys) s = true then stP b a + pnt s d t else q), 0) else ((0, 0), mvK (hasI (onP b xs ys) s) a (stP b a + pnt s d t)) := by
  have h := seC_cases L xs ys a q b s d t
  rw [hr, hs, hf] at h
  unfold mvK
  rcases h with ⟨e, -⟩ | ⟨-, e, -⟩ | ⟨-, -, e, -⟩ | ⟨-, -, -, e, e'⟩ | ⟨-, -, -, e, e'⟩
  · cases e
  · cases e
  · cases e
  · rw [cuR_no _ _ _ _ _ _ _ _ _ (by omega), e', e]; simp
  · rw [cuR_ok _ _ _ _ _ _ _ _ _ e', e]
    rcases sgB_tf a (stP b a + pnt s d t) with g | g
    · rw [rsS_ok _ _ g, g]; simp
    · rw [rsS_no _ _ g, g]; simp
theorem slR_mv (L : Int) (xs ys : List Int) (a q s d t : Int) (hr : rlB L xs ys = true) (hs : sgB a q = true) (hf : fg d t = true) :
    slR L xs ys a q s d t = if mvK (hasI ys s) (q - pnt s d t) q = 0 then ((if hasI ys s = true then q - pnt s d t else a, q), 0) else ((0, 0), mvK (hasI ys s) (q - pnt s d t) q) := by
  have h := seC_cases L xs ys a q true s d t
  rw [hr, hs, hf, onP_t] at h
  unfold mvK
  rcases h with ⟨e, -⟩ | ⟨-, e, -⟩ | ⟨-, -, e, -⟩ | ⟨-, -, -, e, e'⟩ | ⟨-, -, -, e, e'⟩
  · cases e
  · cases e
  · cases e
  · rw [slR_no _ _ _ _ _ _ _ _ (by omega), e', e]; simp
  · rw [slR_ok _ _ _ _ _ _ _ _ e', e]
    rcases sgB_tf (q - pnt s d t) q with g | g
    · rw [rsS_ok _ _ g, g]; simp
    · rw [rsS_no _ _ g, g]; simp

/-- Four blocks made behind one another. -/
theorem four_new (w : World) (T U V X : TypeId) (a b c d : Array Value) :
    Blk ((((w.alloc (.cells a T)).alloc (.cells b U)).alloc (.cells c V)).alloc (.cells d X)) w.heap.size T a ∧ Blk ((((w.alloc (.cells a T)).alloc (.cells b U)).alloc (.cells c V)).alloc (.cells d X)) (w.heap.size + 1) U b ∧ Blk ((((w.alloc (.cells a T)).alloc (.cells b U)).alloc (.cells c V)).alloc (.cells d X)) (w.heap.size + 1 + 1) V c ∧
    Blk ((((w.alloc (.cells a T)).alloc (.cells b U)).alloc (.cells c V)).alloc (.cells d X)) (w.heap.size + 1 + 1 + 1) X d ∧ Gr w ((((w.alloc (.cells a T)).alloc (.cells b U)).alloc (.cells c V)).alloc (.cells d X)) := by
  obtain ⟨B0, B1, B2, G⟩ := tri_new w T U V a b c
  have B3 := Blk.new (((w.alloc (.cells a T)).alloc (.cells b U)).alloc (.cells c V)) X d
  simp only [World.size_alloc] at B3
  exact ⟨B0.alloc _, B1.alloc _, B2.alloc _, B3, G.alloc _⟩

end Go.Proofs.YtefhhigcplemaaaDoor
