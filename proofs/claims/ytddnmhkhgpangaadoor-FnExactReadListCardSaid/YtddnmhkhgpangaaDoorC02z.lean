/- A figure is equal to itself. -/
import Derived.Test.YtddnmhkhgpangaaDoorC02a
namespace Go.Proofs.YtddnmhkhgpangaaDoor
open Go.RowKit
end Go.Proofs.YtddnmhkhgpangaaDoor
