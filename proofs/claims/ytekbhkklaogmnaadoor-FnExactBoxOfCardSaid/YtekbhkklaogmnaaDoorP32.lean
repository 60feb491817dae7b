/- The contract of the program's BitPartOf at width 32, finite floats: sign, size and power; nothing that was there is written. -/
import Derived.Test.YtekbhkklaogmnaaDoorW2
import Derived.Test.YtekbhkklaogmnaaDoorF2
namespace Go.Proofs.YtekbhkklaogmnaaDoor
open Go.RowKit


end Go.Proofs.YtekbhkklaogmnaaDoor
