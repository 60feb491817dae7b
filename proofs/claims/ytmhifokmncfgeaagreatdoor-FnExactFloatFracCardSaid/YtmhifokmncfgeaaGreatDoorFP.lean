/- Products of ratios: the program. Conditions: digits, 1024 at most. -/
import Derived.Test.YtmhifokmncfgeaaGreatDoorFO
import Derived.Test.YtmhifokmncfgeaaGreatDoorFL
namespace Go.Proofs.YtmhifokmncfgeaaGreatDoor
open Go.RowKit
set_option linter.unusedVariables false
set_option maxRecDepth 100000

end Go.Proofs.YtmhifokmncfgeaaGreatDoor
