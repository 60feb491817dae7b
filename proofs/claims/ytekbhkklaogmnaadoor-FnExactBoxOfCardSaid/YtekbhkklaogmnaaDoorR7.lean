/- PairCut of the specification, at all pairs: the same closed form; nothing that was there is written. -/
import Derived.Test.YtekbhkklaogmnaaDoorR6
namespace Go.Proofs.YtekbhkklaogmnaaDoor
open Go.RowKit

end Go.Proofs.YtekbhkklaogmnaaDoor
