/- Fractions with the other sign: the specification. Conditions: digits, 1024 at most. -/
import Derived.Test.YtlfaiekcmflgnaaGreatDoorFQ
namespace Go.Proofs.YtlfaiekcmflgnaaGreatDoor
open Go.RowKit
set_option linter.unusedVariables false
set_option maxRecDepth 100000

end Go.Proofs.YtlfaiekcmflgnaaGreatDoor
