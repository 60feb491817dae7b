/- Products of ratios: the program. Conditions: digits, 1024 at most. -/
import Derived.Test.YtmnjkhfpgjolbaaGreatDoorFO
import Derived.Test.YtmnjkhfpgjolbaaGreatDoorFL
namespace Go.Proofs.YtmnjkhfpgjolbaaGreatDoor
open Go.RowKit
set_option linter.unusedVariables false
set_option maxRecDepth 100000

end Go.Proofs.YtmnjkhfpgjolbaaGreatDoor
