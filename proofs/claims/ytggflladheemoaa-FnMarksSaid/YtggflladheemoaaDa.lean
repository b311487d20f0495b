/- Draws: what lies below or above the source. -/
import Derived.Test.YtggflladheemoaaD2
import Derived.Below
import Derived.OwnWalk
namespace Go.Proofs.Ytggflladheemoaa
open Go.RowKit Go.ChangeShapes Go.WideShapes Go.ChangeAt
set_option linter.unusedVariables false
set_option linter.unusedSimpArgs false

theorem Src.under {A : Option Addr} {n c b B : Nat} {w w' : World} (h : Src A n c b w) (hb : Below B w w') (hlt : b < B) : Src A n c b w' := by
  obtain ⟨p, s, hp, hn, hs, hc, hB⟩ := h
  exact ⟨p, s, hp, hn, hs, (hb.block b hlt).trans hc, hB.keep fun k hk => hb.block k (by omega)⟩
theorem Dr.after {b : Nat} {u v v' : World} (h : Dr b u v) (hb : Below u.heap.size v v') : Dr b u v' :=
  ⟨hb.os.trans h.os, hb.tape.trans h.tape, hb.output.trans h.output, Nat.le_trans h.size hb.size, fun k hk hn => (hb.block k hk).trans (h.block k hk hn)⟩
theorem ownsRow_dr {w w' : World} {B b m n : Nat} {t : TypeId} {v : Value} {cs : List Value} (h : w.ownsRow B t m v n cs) (hd : Dr b w w') (hlt : b < B) : w'.ownsRow B t m v n cs := by
  have hl := h.lt
  exact h.kept ⟨hd.os, hd.tape, hd.output, hd.size, fun k hk hn => hd.block k hk (fun e => hn (by rw [e]))⟩ (row := some b) (.inr fun e => by have := (hl b e).1; omega)

end Go.Proofs.Ytggflladheemoaa
