/- The contract of the specification's BitPartOf at finite floats: sign, size and power; nothing that was there is written. -/
import Derived.Test.YtljmmaaaeojbpaaDoorW2
import Derived.Test.YtljmmaaaeojbpaaDoorF2
namespace Go.Proofs.YtljmmaaaeojbpaaDoor
open Go.RowKit


end Go.Proofs.YtljmmaaaeojbpaaDoor
