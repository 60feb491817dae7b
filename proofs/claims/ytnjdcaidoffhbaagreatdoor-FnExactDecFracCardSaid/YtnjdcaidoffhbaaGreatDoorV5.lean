/- Powers of two and shifts, by the specification. Conditions: numbers. -/
import Derived.Test.YtnjdcaidoffhbaaGreatDoorBD
import Derived.Test.YtnjdcaidoffhbaaGreatDoorBC
namespace Go.Proofs.YtnjdcaidoffhbaaGreatDoor
open Go.RowKit
set_option linter.unusedVariables false
set_option maxRecDepth 100000

theorem pow2_split (P p : Nat) : 2 ^ (16 * P + p) = 65536 ^ P * 2 ^ p := by rw [Nat.pow_add, Nat.pow_mul]
/-- a shift by k, down -/
def shV (v : Nat) (k : Int) : Nat := if 0 ≤ k then v * 2 ^ k.toNat else v / 2 ^ (-k).toNat
theorem split16q (n : Nat) : ∃ P p, n = 16 * P + p ∧ p < 16 := ⟨n / 16, n % 16, by omega, by omega⟩
end Go.Proofs.YtnjdcaidoffhbaaGreatDoor
