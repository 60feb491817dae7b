/- The contract of the program's BitPartOf at width 32, finite floats: sign, size and power; nothing that was there is written. -/
import Derived.Test.YtmeijbiohbpgpaaW2
import Derived.Test.YtmeijbiohbpgpaaF2
namespace Go.Proofs.Ytmeijbiohbpgpaa
open Go.RowKit


end Go.Proofs.Ytmeijbiohbpgpaa
