/- Contracts of chapter 13: chains sorted, in the model. -/
import Derived.Test.YtphebmbapllinaaDoorC13f
import Derived.Test.YtphebmbapllinaaDoorCT
namespace Go.Proofs.YtphebmbapllinaaDoor
open Go.RowKit Go.Shelf Go.ChangeShapes Go.WideShapes Go.ChangeAt
set_option linter.unusedVariables false
set_option linter.unusedSimpArgs false

theorem tk_drop {cs : List Tm} {k : Nat} {m : Tm} (h : cs[k]? = some m) (hk : 1 ≤ k) : (cs.take (k + 1)).drop 1 = (cs.take k).drop 1 ++ [m] := by
  obtain ⟨h1, e⟩ := List.getElem?_eq_some_iff.1 h
  rw [List.take_succ_eq_append_getElem h1, e, List.drop_append_of_le_length (by rw [List.length_take]; omega)]
/-- Two lists in blocks apart. -/
def Aprt (u v : Value) : Prop := ∀ g, u.ownBlock = some g → v.ownBlock = some g → False
theorem Aprt.left {w : World} {B : Nat} {u u' v : Value} {T : TypeId} {xs : List Tm} (h : Aprt u v) (ho : OldOrNew w u u') (hv : LstG tcl 3 T w B v xs) : Aprt u' v := by
  intro g h1 h2
  rcases ho with h3 | ⟨g3, h3, h4⟩
  · exact h g (h3 ▸ h1) h2
  · rw [h1] at h3
    injection h3 with h3
    subst h3
    have := (World.ownsRow.lt hv g h2).2
    omega
theorem Aprt.right {w : World} {B : Nat} {u v v' : Value} {T : TypeId} {xs : List Tm} (h : Aprt u v) (ho : OldOrNew w v v') (hu : LstG tcl 3 T w B u xs) : Aprt u v' := by
  intro g h1 h2
  rcases ho with h3 | ⟨g3, h3, h4⟩
  · exact h g h1 (h3 ▸ h2)
  · rw [h2] at h3
    injection h3 with h3
    subst h3
    have := (World.ownsRow.lt hu g h1).2
    omega
theorem Aprt.keep {w w' : World} {B : Nat} {u v : Value} {T : TypeId} {xs : List Tm} (h : Aprt u v) (hg : w.grownBy w' u.ownBlock) (hv : LstG tcl 3 T w B v xs) : LstG tcl 3 T w' B v xs :=
  LstG.keepT hv (fun g e hl => hg.block g hl (fun e2 => h g e2.symm e))
theorem Aprt.keep' {w w' : World} {B : Nat} {u v : Value} {T : TypeId} {xs : List Tm} (h : Aprt u v) (hg : w.grownBy w' v.ownBlock) (hu : LstG tcl 3 T w B u xs) : LstG tcl 3 T w' B u xs :=
  LstG.keepT hu (fun g e hl => hg.block g hl (fun e2 => h g e e2.symm))
theorem rnd_at (xs ys : List Tm) (k : Nat) : rnds xs ys (k + 1) = rnds xs ys k ++ (xs[k]?.toList ++ ys[k]?.toList) := rfl

end Go.Proofs.YtphebmbapllinaaDoor
