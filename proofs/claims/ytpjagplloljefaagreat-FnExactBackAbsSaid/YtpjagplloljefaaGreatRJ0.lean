/- What goes back, by the program: what is met, and what is left; nothing that was there is written. -/
import Derived.Test.YtpjagplloljefaaGreatRF
import Derived.Test.YtpjagplloljefaaGreatRG
import Derived.Test.YtpjagplloljefaaGreatRI
import Derived.Deep.DeepCutAuto
namespace Go.Proofs.YtpjagplloljefaaGreat
open Go.RowKit
set_option linter.unusedVariables false
set_option maxRecDepth 100000

attribute [local go_sem] eql_span
def metK (k : Bool) (wd : Int) (x p q : Sp) : Sp := if k then meetS wd x p else nilS
def leftS (k : Bool) (wd : Int) (x p q : Sp) : Sp := hullS wd (metK k wd x p q) (metK k wd x q p)
end Go.Proofs.YtpjagplloljefaaGreat
