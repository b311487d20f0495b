/- Contracts of chapter 6: the model's needed length: whole. -/
import Derived.Test.YtgadkpkpdpphbaaDoorC06e
import Derived.Test.YtgadkpkpdpphbaaDoorC06f
namespace Go.Proofs.YtgadkpkpdpphbaaDoor
open Go.RowKit
set_option linter.unusedVariables false
set_option linter.unusedSimpArgs false

theorem nlR_spec (s d t e g : Int) (w : World) :
    Calls Tryd.prog 28 #[.int .i64 s, .agg #[.int .i64 d, .int .i64 t], .int .i64 e, .int .i64 g] w fun e' w' => e' = .returned (.tuple #[.int .i64 (nlR s d t e g).1, .int .i64 (nlR s d t e g).2]) ∧ Gr w w' := by
  rcases nl_cases s d t e g with ⟨h1, H⟩ | ⟨h1, h2, H⟩ | ⟨h1, h2, h3, H⟩ | ⟨h1, h2, h3, h4, H⟩
  · exact nl_bad s d t e g w (.inl ⟨h1, H⟩)
  · exact nl_bad s d t e g w (.inr ⟨h1, h2, H⟩)
  · exact nl_no s d t e g w h1 h2 h3 H
  · exact nl_ok s d t e g w h1 h2 h3 h4 H
end Go.Proofs.YtgadkpkpdpphbaaDoor
