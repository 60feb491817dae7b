/- The narrow box around a wide one, a narrow box among the wide ones: by the program; the second one by the specification. Conditions: 2^20 pairs at most. -/
import Derived.Test.YtekbhkklaogmnaaDoorE4
import Derived.Test.YtekbhkklaogmnaaDoorCut
namespace Go.Proofs.YtekbhkklaogmnaaDoor
open Go.RowKit
set_option linter.unusedVariables false
set_option maxRecDepth 100000

def moreX (ps : List (Int × Int)) (k : Nat) : Int := widI (ps.getD k (0, 0)).1
def moreY (ps : List (Int × Int)) (k : Nat) : Int := widI (ps.getD k (0, 0)).2
def moreL (ps : List (Int × Int)) : List (Int × Int) := madeL ps.length (moreX ps) (moreY ps)

end Go.Proofs.YtekbhkklaogmnaaDoor
