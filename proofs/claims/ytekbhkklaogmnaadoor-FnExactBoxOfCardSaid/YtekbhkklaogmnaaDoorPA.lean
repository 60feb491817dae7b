/- Contracts of BitPartOf, of the program and of the specification, at every argument: one closed form for both; nothing that was there is written. -/
import Derived.Test.YtekbhkklaogmnaaDoorP32
import Derived.Test.YtekbhkklaogmnaaDoorP64
import Derived.Test.YtekbhkklaogmnaaDoorSP
import Derived.Test.YtekbhkklaogmnaaDoorW6
namespace Go.Proofs.YtekbhkklaogmnaaDoor
open Go.RowKit

def absI (n : Int) : Int := if n < 0 then -n else n
def partV (U L n : Int) : Value := .tuple #[.agg #[.bool (decide (n < 0)), .int .u64 (pSize U (absI n)), .int .i64 (pPow U L (absI n))], .bool true]
def partNo : Value := .tuple #[.agg #[.bool false, .int .u64 0, .int .i64 0], .bool false]

end Go.Proofs.YtekbhkklaogmnaaDoor
