/- Contracts of chapter 7: graduations in the laws (copied, compared) and the model's validity. -/
import Derived.Test.YtlimfpdibohioabDoorC07a0
import Derived.Test.YtlimfpdibohioabDoorMC
namespace Go.Proofs.YtlimfpdibohioabDoor
open Go.RowKit
set_option linter.unusedVariables false
set_option linter.unusedSimpArgs false

end Go.Proofs.YtlimfpdibohioabDoor
