/- Closed facts of the translated program that every row of this seat asks for. No condition. -/
import Derived.Test.YtpamnpdigoikoaaDoorRows
import Derived.ProofKit
namespace Go.Proofs.YtpamnpdigoikoaaDoor
open Go.ChangeShapes Go.WideShapes Go.ChangeAt Go.RowKit
theorem jf6 : ((Tryd.prog.stops == [])) = true := by kernel_rfl
theorem jf8 : ((Tryd.prog.stopKnobs == [])) = true := by kernel_rfl
theorem and2 {a b : Bool} (h : a = true) (g : b = true) : (a && b) = true := by rw [h, g]; rfl
theorem jf24 : (Tryd.prog.stopsHeard) = true := by kernel_rfl
theorem jf22 : ((Rows.fnNatGcdRow.plainKeys == Tryd.prog.plainKeys)) = true := by kernel_rfl
theorem jf1 : (laidOutB Tryd.prog) = true := by kernel_rfl
theorem jf2 : (mapsRowed Tryd.prog) = true := by kernel_rfl
end Go.Proofs.YtpamnpdigoikoaaDoor
