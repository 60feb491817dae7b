/- Products of ratios: the program. Conditions: digits, 1024 at most. -/
import Derived.Test.YtlfaiekcmflgnaaGreatDoorFO
import Derived.Test.YtlfaiekcmflgnaaGreatDoorFL
namespace Go.Proofs.YtlfaiekcmflgnaaGreatDoor
open Go.RowKit
set_option linter.unusedVariables false
set_option maxRecDepth 100000

end Go.Proofs.YtlfaiekcmflgnaaGreatDoor
