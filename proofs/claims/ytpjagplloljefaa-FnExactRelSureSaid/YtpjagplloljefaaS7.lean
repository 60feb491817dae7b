/- Spans: the rows of what is reckoned without rounding, and how a span's bounds come to them. Nothing that was there is written. -/
import Derived.Test.YtpjagplloljefaaS5
import Derived.Test.YtpjagplloljefaaS6
namespace Go.Proofs.Ytpjagplloljefaa
open Go.RowKit
set_option linter.unusedVariables false

def absLo (a b : Int) : Int := max (max a (-b)) 0
def absHi (a b : Int) : Int := max b (-a)
theorem Bnd.cong {w : World} {n : Nat} {ok : Bool} {x x' y y' : Int} {v : Value} (h : Bnd w n ok x' y' v) (hx : x = x') (hy : y = y') : Bnd w n ok x y v := by rw [hx, hy]; exact h
end Go.Proofs.Ytpjagplloljefaa
