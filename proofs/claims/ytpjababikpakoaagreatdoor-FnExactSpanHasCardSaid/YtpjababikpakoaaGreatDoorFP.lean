/- Products of ratios: the program. Conditions: digits, 1024 at most. -/
import Derived.Test.YtpjababikpakoaaGreatDoorFO
import Derived.Test.YtpjababikpakoaaGreatDoorFL
namespace Go.Proofs.YtpjababikpakoaaGreatDoor
open Go.RowKit
set_option linter.unusedVariables false
set_option maxRecDepth 100000

end Go.Proofs.YtpjababikpakoaaGreatDoor
