/- Contracts of chapter 3: logarithms of numbers and of figures, in the program and in the model. -/
import Derived.Test.YtddnmhkhgpangaaDoorC03d
import Derived.Test.YtddnmhkhgpangaaDoorC02a
namespace Go.Proofs.YtddnmhkhgpangaaDoor
open Go.RowKit
set_option linter.unusedVariables false
set_option linter.unusedSimpArgs false

end Go.Proofs.YtddnmhkhgpangaaDoor
