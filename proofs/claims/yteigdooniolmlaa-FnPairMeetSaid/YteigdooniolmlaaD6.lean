/- The draw of two numbers: nothing that was there is written. -/
import Derived.Test.YteigdooniolmlaaD5
import Derived.Deep.QuietTactic
import Derived.BigQuiet
namespace Go.Proofs.Yteigdooniolmlaa
open Go.RowKit


end Go.Proofs.Yteigdooniolmlaa
