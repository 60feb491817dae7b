/- Whether few floats stand between the bounds of each coordinate: the specification's loop, the program's search. No condition. -/
import Derived.Test.YtekbhkklaogmnaaDoorB5
namespace Go.Proofs.YtekbhkklaogmnaaDoor
open Go.RowKit
set_option linter.unusedVariables false
set_option maxRecDepth 100000

def gapAt (ps : List (Int × Int)) (k : Nat) : Int := gapI (ps.getD k (0, 0)).1 (ps.getD k (0, 0)).2
theorem gapAt_eq {ps : List (Int × Int)} {k : Nat} {x y : Int} (h : ps.getD k (0, 0) = (x, y)) : gapAt ps k = gapI x y := by unfold gapAt; rw [h]
def mostI (bt : Int) : Int := min (max bt 1) 1000000 + 1
theorem mostI_bd (bt : Int) : 2 ≤ mostI bt ∧ mostI bt ≤ 1000001 := by unfold mostI; omega
def fineAt (ps : List (Int × Int)) (m : Int) (k : Nat) : Bool := decide (gapAt ps k ≤ m)
def fineRow (wd : Int) (ps : List (Int × Int)) (bt : Int) : Bool := okRow wd ps && allI ps.length (fineAt ps (mostI bt))

end Go.Proofs.YtekbhkklaogmnaaDoor
