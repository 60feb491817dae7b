/- What a rule makes of two fractions, in lowest terms: of whatever function that answers with a ratio and writes nothing that was there. Conditions: the library's table and its handle of errors hold what their texts lay. -/
import Derived.Test.YtnjdcaidoffhbaaGreatDoorFM
namespace Go.Proofs.YtnjdcaidoffhbaaGreatDoor
open Go.RowKit
set_option linter.unusedVariables false
set_option maxRecDepth 100000

end Go.Proofs.YtnjdcaidoffhbaaGreatDoor
