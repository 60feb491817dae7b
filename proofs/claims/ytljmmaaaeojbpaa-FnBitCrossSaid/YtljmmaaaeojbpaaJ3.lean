/- Closed facts of the translated program that every row of this seat asks for. No condition. -/
import Derived.Test.YtljmmaaaeojbpaaRows
import Derived.ProofKit
namespace Go.Proofs.Ytljmmaaaeojbpaa
open Go.ChangeShapes Go.WideShapes Go.ChangeAt Go.RowKit
theorem jf26 : ((Rows.fnExactBitUpRow.lifted == Try.prog.liftsFinal)) = true := by kernel_rfl
end Go.Proofs.Ytljmmaaaeojbpaa
