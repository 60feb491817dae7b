/- The contract of the program's BitPartOf at width 64, finite floats: sign, size and power; nothing that was there is written. -/
import Derived.Test.YtpdigbmeehpmdaaW2
import Derived.Test.YtpdigbmeehpmdaaF2
namespace Go.Proofs.Ytpdigbmeehpmdaa
open Go.RowKit


end Go.Proofs.Ytpdigbmeehpmdaa
