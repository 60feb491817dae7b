/- The draw of two numbers: nothing that was there is written. -/
import Derived.Test.YtdmnfcmngcmleaaD5
import Derived.Deep.QuietTactic
import Derived.BigQuiet
namespace Go.Proofs.Ytdmnfcmngcmleaa
open Go.RowKit


end Go.Proofs.Ytdmnfcmngcmleaa
