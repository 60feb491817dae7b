/- Steps and middles that leave the world as it was; counted and l3Gap; PairSplit of the program and of the specification. -/
import Derived.Test.YtekbhkklaogmnaaDoorR3
import Derived.Test.YtekbhkklaogmnaaDoorW7
namespace Go.Proofs.YtekbhkklaogmnaaDoor
open Go.RowKit

theorem gapI_bd (lo hi : Int) (l1 : -9223372036854775808 ≤ lo) (k2 : hi ≤ 9223372036854775807) : 0 ≤ gapI lo hi ∧ gapI lo hi ≤ 18446744073709551615 := by unfold gapI; split <;> omega
end Go.Proofs.YtekbhkklaogmnaaDoor
