/- Products of ratios: the program. Conditions: digits, 1024 at most. -/
import Derived.Test.YtekhokemekaeoaaDoorFO
import Derived.Test.YtekhokemekaeoaaDoorFL
namespace Go.Proofs.YtekhokemekaeoaaDoor
open Go.RowKit
set_option linter.unusedVariables false
set_option maxRecDepth 100000

end Go.Proofs.YtekhokemekaeoaaDoor
