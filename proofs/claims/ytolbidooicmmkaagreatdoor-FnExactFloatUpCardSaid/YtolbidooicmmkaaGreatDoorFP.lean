/- Products of ratios: the program. Conditions: digits, 1024 at most. -/
import Derived.Test.YtolbidooicmmkaaGreatDoorFO
import Derived.Test.YtolbidooicmmkaaGreatDoorFL
namespace Go.Proofs.YtolbidooicmmkaaGreatDoor
open Go.RowKit
set_option linter.unusedVariables false
set_option maxRecDepth 100000

end Go.Proofs.YtolbidooicmmkaaGreatDoor
