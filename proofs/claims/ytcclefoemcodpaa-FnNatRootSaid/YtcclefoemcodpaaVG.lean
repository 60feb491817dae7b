/- Square roots of numbers, down: the specification's bits; both, if they are numbers. No condition. -/
import Derived.Test.YtcclefoemcodpaaVF
namespace Go.Proofs.Ytcclefoemcodpaa
open Go.RowKit
set_option linter.unusedVariables false

end Go.Proofs.Ytcclefoemcodpaa
