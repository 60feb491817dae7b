/- One pair after the other is taken in: of whatever function that answers so at each pair and writes nothing that was there. -/
import Derived.Test.YtmofapcoaolndaaB4
namespace Go.Proofs.Ytmofapcoaolndaa
open Go.RowKit
set_option linter.unusedVariables false

end Go.Proofs.Ytmofapcoaolndaa
