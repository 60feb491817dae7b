/- The contract of the specification's BitPartOf at finite floats: sign, size and power; nothing that was there is written. -/
import Derived.Test.YtdmnfcmngcmleaaW2
import Derived.Test.YtdmnfcmngcmleaaF2
namespace Go.Proofs.Ytdmnfcmngcmleaa
open Go.RowKit


end Go.Proofs.Ytdmnfcmngcmleaa
