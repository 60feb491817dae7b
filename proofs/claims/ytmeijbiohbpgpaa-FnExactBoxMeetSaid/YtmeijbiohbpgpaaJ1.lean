/- Closed facts of the translated program that every row of this seat asks for. No condition. -/
import Derived.Test.YtmeijbiohbpgpaaRows
import Derived.ProofKit
namespace Go.Proofs.Ytmeijbiohbpgpaa
open Go.ChangeShapes Go.WideShapes Go.ChangeAt Go.RowKit
theorem jf24 : (Try.prog.stopsHeard) = true := by kernel_rfl
end Go.Proofs.Ytmeijbiohbpgpaa
