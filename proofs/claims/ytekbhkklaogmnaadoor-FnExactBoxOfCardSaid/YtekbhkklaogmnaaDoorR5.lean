/- PairSplit of the program and of the specification, at all pairs: one closed form for both; nothing that was there is written. -/
import Derived.Test.YtekbhkklaogmnaaDoorR4
namespace Go.Proofs.YtekbhkklaogmnaaDoor
open Go.RowKit

def pair2V (r : Bool) (a b c d : Int) : Value := .tuple #[if r then .agg #[.int .i64 a, .int .i64 b] else .agg #[.int .i64 0, .int .i64 0], if r then .agg #[.int .i64 c, .int .i64 d] else .agg #[.int .i64 0, .int .i64 0], .bool r]
theorem pair2V_no (a b c d : Int) {r : Bool} (h : r = false) : Ending.returned (.tuple #[.agg #[.int .i64 0, .int .i64 0], .agg #[.int .i64 0, .int .i64 0], .bool false]) = .returned (pair2V r a b c d) := by rw [h]; rfl
theorem pair2V_yes (a b c d : Int) {r : Bool} (h : r = true) : Ending.returned (.tuple #[.agg #[.int .i64 a, .int .i64 b], .agg #[.int .i64 c, .int .i64 d], .bool true]) = .returned (pair2V r a b c d) := by rw [h]; rfl
def splitB (wd lo hi : Int) : Bool := pokB wd lo hi && decide (2 ≤ gapI lo hi)

end Go.Proofs.YtekbhkklaogmnaaDoor
