/- Products of numbers, where they have no more digits than may be. No condition. -/
import Derived.Test.YtpamnpdigoikoaaDoorNN
namespace Go.Proofs.YtpamnpdigoikoaaDoor
open Go.RowKit
set_option linter.unusedVariables false
set_option maxRecDepth 100000

def mulB (xs ys : List Int) : Bool := natOk xs && (natOk ys && fitsB (val xs * val ys))
theorem mulB_fits {xs ys : List Int} (h : mulB xs ys = true) : fitsB (val xs * val ys) = true := by
  unfold mulB at h
  simp only [Bool.and_eq_true] at h
  exact h.2.2
end Go.Proofs.YtpamnpdigoikoaaDoor
