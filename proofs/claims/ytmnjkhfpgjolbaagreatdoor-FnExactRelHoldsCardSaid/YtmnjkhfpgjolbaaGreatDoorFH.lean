/- The fraction of a sign and two numbers: by the program and by the specification; a law's own marks of fractions. Conditions, of the program: the library's table and its handle of errors hold what their texts lay. -/
import Derived.Test.YtmnjkhfpgjolbaaGreatDoorFG
namespace Go.Proofs.YtmnjkhfpgjolbaaGreatDoor
open Go.RowKit
set_option linter.unusedVariables false
set_option maxRecDepth 100000

def ofB (xs ys : List Int) : Bool := natOk xs && (natOk ys && lowB (val xs) (val ys))
theorem sl (a : Option Addr) (l c : Nat) : ∃ a' l' c', Value.slice a l c = .slice a' l' c' := ⟨a, l, c, rfl⟩
/-- an answer put into a variable -/
theorem FRes.put {w w' : World} {base n b : Nat} {ok s : Bool} {A B : Nat} {av av' : Option Addr} {cv cv' : Nat} (h1 : OI w n av cv (fT ok A B)) (h2 : OI w n av' cv' (fU ok A B)) (h3 : Sep av av') (hb : base ≤ n) (hn : b < n) :
    FRes (((w.setCell ⟨b, 0, none⟩ (.bool (fS ok s A))).setCell ⟨b, 1, none⟩ (.slice av (fT ok A B).length cv)).setCell ⟨b, 2, none⟩ (.slice av' (fU ok A B).length cv')) base (.returned (.tuple #[.agg #[.bool (fS ok s A), .slice av (fT ok A B).length cv, .slice av' (fU ok A B).length cv'], .bool ok])) ok s A B :=
  ⟨av, cv, av', cv', rfl, (oi_set3 h1 hn).mono hb, (oi_set3 h2 hn).mono hb, h3⟩
end Go.Proofs.YtmnjkhfpgjolbaaGreatDoor
