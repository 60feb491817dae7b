/- Answers with and without a fault; fractions of two numbers: by the program and by the specification; a law's own marks of fractions. Conditions, of the program: the library's table and its handle of errors hold what their texts lay. -/
import Derived.Test.YtmnjkhfpgjolbaaGreatDoorFF
namespace Go.Proofs.YtmnjkhfpgjolbaaGreatDoor
open Go.RowKit
set_option linter.unusedVariables false
set_option maxRecDepth 100000

def fT (ok : Bool) (A B : Nat) : List Int := if ok then lowT A B else []
def fU (ok : Bool) (A B : Nat) : List Int := if ok then lowU A B else []
def fS (ok s : Bool) (A : Nat) : Bool := ok && (s && decide (A ≠ 0))
/-- a fraction that a call answers with, and whether there is one -/
def FRes (w : World) (base : Nat) (e : Ending) (ok s : Bool) (A B : Nat) : Prop := ∃ av cv av' cv', e = .returned (.tuple #[.agg #[.bool (fS ok s A), .slice av (fT ok A B).length cv, .slice av' (fU ok A B).length cv'], .bool ok]) ∧ OI w base av cv (fT ok A B) ∧ OI w base av' cv' (fU ok A B) ∧ Sep av av'
theorem FRes.no (w : World) (base : Nat) (s : Bool) (A B : Nat) : FRes w base (.returned (.tuple #[.agg #[.bool false, .slice none 0 0, .slice none 0 0], .bool false])) false s A B := ⟨none, 0, none, 0, rfl, OI.none _ _, OI.none _ _, Sep.none _⟩
theorem FRes.yes {w : World} {base : Nat} {s : Bool} {A B : Nat} {av av' : Option Addr} {cv cv' : Nat} (h1 : OI w base av cv (lowT A B)) (h2 : OI w base av' cv' (lowU A B)) (h3 : Sep av av') : FRes w base (.returned (.tuple #[.agg #[.bool (s && decide (A ≠ 0)), .slice av (lowT A B).length cv, .slice av' (lowU A B).length cv'], .bool true])) true s A B := ⟨av, cv, av', cv', by unfold fS fT fU; simp only [Bool.true_and, if_true], h1, h2, h3⟩
end Go.Proofs.YtmnjkhfpgjolbaaGreatDoor
