/- Contracts of BitOrd, of the program and of the specification: both answer the same; nothing that was there is written. -/
import Derived.Test.YtdmnfcmngcmleaaW2
import Derived.Test.YtdmnfcmngcmleaaF
namespace Go.Proofs.Ytdmnfcmngcmleaa
open Go.RowKit


end Go.Proofs.Ytdmnfcmngcmleaa
