/- The contract of the program's BitPartOf at width 32, finite floats: sign, size and power; nothing that was there is written. -/
import Derived.Test.YteigdooniolmlaaW2
import Derived.Test.YteigdooniolmlaaF2
namespace Go.Proofs.Yteigdooniolmlaa
open Go.RowKit


end Go.Proofs.Yteigdooniolmlaa
