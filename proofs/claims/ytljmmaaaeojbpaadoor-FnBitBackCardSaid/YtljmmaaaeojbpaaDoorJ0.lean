/- Closed facts of the translated program that every row of this seat asks for. No condition. -/
import Derived.Test.YtljmmaaaeojbpaaDoorRows
import Derived.ProofKit
namespace Go.Proofs.YtljmmaaaeojbpaaDoor
open Go.ChangeShapes Go.WideShapes Go.ChangeAt Go.RowKit
theorem jf1 : (laidOutB Tryd.prog) = true := by kernel_rfl
theorem jf2 : (mapsRowed Tryd.prog) = true := by kernel_rfl
theorem jf6 : ((Tryd.prog.stops == [])) = true := by kernel_rfl
theorem jf8 : ((Tryd.prog.stopKnobs == [])) = true := by kernel_rfl
theorem jf24 : (Tryd.prog.stopsHeard) = true := by kernel_rfl
theorem jf27 : ((Tryd.prog.make == some Rows.fnExactBitMakeRow.make)) = true := by kernel_rfl
theorem and2 {a b : Bool} (h : a = true) (g : b = true) : (a && b) = true := by rw [h, g]; rfl
end Go.Proofs.YtljmmaaaeojbpaaDoor
