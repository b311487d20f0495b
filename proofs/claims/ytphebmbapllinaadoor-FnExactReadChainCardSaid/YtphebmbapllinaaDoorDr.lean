/- What a row over listed variables needs besides: their tables, and a world in which they lie. -/
import Derived.Test.YtphebmbapllinaaDoorRows
import Derived.Lib.LaidTab
import Derived.LaidSub
import Derived.LaidHandle
import Derived.MakeChecks
import Derived.Lay
import Derived.LaidOnce
import Derived.SevenTiedAt
import Derived.ProofKit
namespace Go.Proofs.YtphebmbapllinaaDoor
open Go.RowKit
end Go.Proofs.YtphebmbapllinaaDoor
