/- Closed facts of the translated program that every row of this seat asks for. No condition. -/
import Derived.Test.YtbhebnhjgkjikaaRows
import Derived.ProofKit
namespace Go.Proofs.Ytbhebnhjgkjikaa
open Go.ChangeShapes Go.WideShapes Go.ChangeAt Go.RowKit
theorem jf6 : ((Try.prog.stops == [])) = true := by kernel_rfl
theorem jf8 : ((Try.prog.stopKnobs == [])) = true := by kernel_rfl
theorem and2 {a b : Bool} (h : a = true) (g : b = true) : (a && b) = true := by rw [h, g]; rfl
theorem jf24 : (Try.prog.stopsHeard) = true := by kernel_rfl
theorem jf22 : ((Rows.fnExactLangNameOkRow.plainKeys == Try.prog.plainKeys)) = true := by kernel_rfl
theorem jf1 : (laidOutB Try.prog) = true := by kernel_rfl
theorem jf2 : (mapsRowed Try.prog) = true := by kernel_rfl
end Go.Proofs.Ytbhebnhjgkjikaa
