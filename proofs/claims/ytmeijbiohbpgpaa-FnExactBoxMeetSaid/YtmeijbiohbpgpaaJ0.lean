/- Closed facts of the translated program that every row of this seat asks for. No condition. -/
import Derived.Test.YtmeijbiohbpgpaaRows
import Derived.ProofKit
namespace Go.Proofs.Ytmeijbiohbpgpaa
open Go.ChangeShapes Go.WideShapes Go.ChangeAt Go.RowKit
theorem jf6 : ((Try.prog.stops == [])) = true := by kernel_rfl
theorem jf8 : ((Try.prog.stopKnobs == [])) = true := by kernel_rfl
theorem and2 {a b : Bool} (h : a = true) (g : b = true) : (a && b) = true := by rw [h, g]; rfl
end Go.Proofs.Ytmeijbiohbpgpaa
