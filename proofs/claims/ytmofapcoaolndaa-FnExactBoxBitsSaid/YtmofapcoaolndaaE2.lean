/- A new box of what is made at each place; nothing, if one is not made: of whatever function that answers so at each place and writes nothing that was there. Conditions: 2^20 places at most. -/
import Derived.Test.YtmofapcoaolndaaE1
namespace Go.Proofs.Ytmofapcoaolndaa
open Go.RowKit
set_option linter.unusedVariables false

/-- what is made at the first n places -/
def madeL (n : Nat) (x y : Nat → Int) : List (Int × Int) := (List.range n).map (fun i => (x i, y i))
theorem madeL_length (n : Nat) (x y : Nat → Int) : (madeL n x y).length = n := by simp [madeL]
theorem madeL_getD {n i : Nat} (x y : Nat → Int) (h : i < n) : (madeL n x y).getD i (0, 0) = (x i, y i) := by simp [madeL, List.getD_eq_getElem?_getD, h]
def anyNo (n : Nat) (ok : Nat → Bool) : Bool := !(List.range n).all ok

end Go.Proofs.Ytmofapcoaolndaa
