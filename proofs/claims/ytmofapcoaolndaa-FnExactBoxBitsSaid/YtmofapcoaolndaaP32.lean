/- The contract of the program's BitPartOf at width 32, finite floats: sign, size and power; nothing that was there is written. -/
import Derived.Test.YtmofapcoaolndaaW2
import Derived.Test.YtmofapcoaolndaaF2
namespace Go.Proofs.Ytmofapcoaolndaa
open Go.RowKit


end Go.Proofs.Ytmofapcoaolndaa
