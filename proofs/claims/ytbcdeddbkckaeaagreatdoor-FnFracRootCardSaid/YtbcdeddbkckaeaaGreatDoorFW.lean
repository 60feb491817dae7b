/- Sums of fractions: the specification. No condition. -/
import Derived.Test.YtbcdeddbkckaeaaGreatDoorFV
namespace Go.Proofs.YtbcdeddbkckaeaaGreatDoor
open Go.RowKit
set_option linter.unusedVariables false
set_option maxRecDepth 100000

end Go.Proofs.YtbcdeddbkckaeaaGreatDoor
