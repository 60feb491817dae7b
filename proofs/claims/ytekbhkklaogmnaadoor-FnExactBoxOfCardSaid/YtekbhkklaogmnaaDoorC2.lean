/- One pair after the other is taken in: of whatever function that answers so at each pair and writes nothing that was there. -/
import Derived.Test.YtekbhkklaogmnaaDoorB4
namespace Go.Proofs.YtekbhkklaogmnaaDoor
open Go.RowKit
set_option linter.unusedVariables false
set_option maxRecDepth 100000

end Go.Proofs.YtekbhkklaogmnaaDoor
