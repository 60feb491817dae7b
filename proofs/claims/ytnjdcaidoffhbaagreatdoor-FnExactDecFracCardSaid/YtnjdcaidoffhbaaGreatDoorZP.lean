/- Literals: both sides answer alike. Nothing that was there is written. Conditions: texts of 2^20 bytes at most. -/
import Derived.Test.YtnjdcaidoffhbaaGreatDoorZM
namespace Go.Proofs.YtnjdcaidoffhbaaGreatDoor
open Go.RowKit
set_option linter.unusedVariables false
set_option maxRecDepth 100000

end Go.Proofs.YtnjdcaidoffhbaaGreatDoor
