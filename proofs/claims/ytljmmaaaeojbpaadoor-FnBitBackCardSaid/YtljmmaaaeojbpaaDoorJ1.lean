/- Closed facts of the translated program that every row of this seat asks for. No condition. -/
import Derived.Test.YtljmmaaaeojbpaaDoorRows
import Derived.ProofKit
namespace Go.Proofs.YtljmmaaaeojbpaaDoor
open Go.ChangeShapes Go.WideShapes Go.ChangeAt Go.RowKit
theorem jf22 : ((Rows.fnExactBitMakeRow.plainKeys == Tryd.prog.plainKeys)) = true := by kernel_rfl
end Go.Proofs.YtljmmaaaeojbpaaDoor
