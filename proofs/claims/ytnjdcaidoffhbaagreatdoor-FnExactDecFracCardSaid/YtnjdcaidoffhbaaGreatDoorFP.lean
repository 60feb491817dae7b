/- Products of ratios: the program. Conditions: digits, 1024 at most. -/
import Derived.Test.YtnjdcaidoffhbaaGreatDoorFO
import Derived.Test.YtnjdcaidoffhbaaGreatDoorFL
namespace Go.Proofs.YtnjdcaidoffhbaaGreatDoor
open Go.RowKit
set_option linter.unusedVariables false
set_option maxRecDepth 100000

end Go.Proofs.YtnjdcaidoffhbaaGreatDoor
