/- Closed facts of the translated program that every row of this seat asks for. No condition. -/
import Derived.Test.YtmeijbiohbpgpaaRows
import Derived.ProofKit
namespace Go.Proofs.Ytmeijbiohbpgpaa
open Go.ChangeShapes Go.WideShapes Go.ChangeAt Go.RowKit
theorem jf1 : (laidOutB Try.prog) = true := by kernel_rfl
theorem jf2 : (mapsRowed Try.prog) = true := by kernel_rfl
end Go.Proofs.Ytmeijbiohbpgpaa
