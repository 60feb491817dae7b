/- Shifts of numbers, if they are numbers: by the program and by the specification. No condition. -/
import Derived.Test.YtfdikhiaphgkpaaDoorBE
import Derived.Test.YtfdikhiaphgkpaaDoorV5
import Derived.Test.YtfdikhiaphgkpaaDoorBC
namespace Go.Proofs.YtfdikhiaphgkpaaDoor
open Go.RowKit
set_option linter.unusedVariables false
set_option maxRecDepth 100000

def shiftB (xs : List Int) (k : Int) : Bool := natOk xs && (decide (-4096 ≤ k ∧ k ≤ 4096) && fitsB (shV (val xs) k))
theorem shiftB_fits {xs : List Int} {k : Int} : shiftB xs k = true → fitsB (shV (val xs) k) = true := by
  unfold shiftB
  intro h
  simp only [Bool.and_eq_true] at h
  exact h.2.2
end Go.Proofs.YtfdikhiaphgkpaaDoor
