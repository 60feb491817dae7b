/- Contracts of BitGap and BitMiddle, of the program and of the specification: steps and middle; nothing that was there is written. -/
import Derived.Test.YtekbhkklaogmnaaDoorW2
import Derived.Test.YtekbhkklaogmnaaDoorF2
namespace Go.Proofs.YtekbhkklaogmnaaDoor
open Go.RowKit

def gapI (lo hi : Int) : Int := if hi < lo then 0 else hi - lo
def midI (lo hi : Int) : Int := lo + gapI lo hi / 2

end Go.Proofs.YtekbhkklaogmnaaDoor
