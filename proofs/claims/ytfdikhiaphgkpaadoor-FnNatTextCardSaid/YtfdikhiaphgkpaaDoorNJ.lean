/- Differences of numbers, if they are numbers. No condition. -/
import Derived.Test.YtfdikhiaphgkpaaDoorNI
namespace Go.Proofs.YtfdikhiaphgkpaaDoor
open Go.RowKit
set_option linter.unusedVariables false
set_option maxRecDepth 100000

def subB (xs ys : List Int) : Bool := natOk xs && (natOk ys && decide (val ys ≤ val xs))
theorem subB_len {xs ys : List Int} : (resN (subB xs ys) (val xs - val ys)).length ≤ 1048576 := by
  unfold resN
  split
  · rename_i g
    unfold subB at g
    simp only [Bool.and_eq_true, decide_eq_true_eq] at g
    have h := natOk_lt g.1
    have := natL_len.2 (show val xs - val ys < 65536 ^ 256 by omega)
    omega
  · simp
end Go.Proofs.YtfdikhiaphgkpaaDoor
