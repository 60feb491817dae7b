/- What a rule makes of a fraction, in lowest terms: of whatever function that answers with a ratio or a fault and writes nothing that was there. Conditions: the library's table and its handle of errors hold what their texts lay. -/
import Derived.Test.YtnjdcaidoffhbaaGreatDoorFI
namespace Go.Proofs.YtnjdcaidoffhbaaGreatDoor
open Go.RowKit
set_option linter.unusedVariables false
set_option maxRecDepth 100000

/-- what a rule answers with: a ratio, or a fault -/
def RRes (w : World) (e : Ending) (ok s : Bool) (A B : Nat) : Prop := (ok = true ∧ ∃ a1 c1 a2 c2, e = .returned (.tuple #[.agg #[.bool s, .slice a1 (natL A).length c1, .slice a2 (natL B).length c2], .nilIface]) ∧ InI w a1 (natL A).length c1 (natL A) ∧ InI w a2 (natL B).length c2 (natL B)) ∨ (ok = false ∧ ∃ f, e = .returned (.tuple #[.agg #[.bool false, .slice none 0 0, .slice none 0 0], .iface 69 (.agg #[.string f])]))
end Go.Proofs.YtnjdcaidoffhbaaGreatDoor
