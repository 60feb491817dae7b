/- The narrow box around a wide one, a narrow box among the wide ones: the specification's loop, the program's box of each place. Conditions: 2^20 pairs at most. -/
import Derived.Test.YtekbhkklaogmnaaDoorE3
import Derived.Test.YtekbhkklaogmnaaDoorB7
namespace Go.Proofs.YtekbhkklaogmnaaDoor
open Go.RowKit
set_option linter.unusedVariables false
set_option maxRecDepth 100000

theorem okRow_at {wd : Int} {ps : List (Int × Int)} (h : okRow wd ps = true) {k : Nat} (hk : k < ps.length) : pokB wd (ps.getD k (0, 0)).1 (ps.getD k (0, 0)).2 = true := by
  cases e : pokB wd (ps.getD k (0, 0)).1 (ps.getD k (0, 0)).2
  · rw [okRow_no (x := (ps.getD k (0, 0)).1) (y := (ps.getD k (0, 0)).2) hk rfl e] at h; cases h
  · rfl

def lessX (ps : List (Int × Int)) (k : Nat) : Int := belI (ps.getD k (0, 0)).1
def lessY (ps : List (Int × Int)) (k : Nat) : Int := -belI (-(ps.getD k (0, 0)).2)
def lessL (ps : List (Int × Int)) : List (Int × Int) := madeL ps.length (lessX ps) (lessY ps)

end Go.Proofs.YtekbhkklaogmnaaDoor
