/- What BitMake answers, of either text: at which sizes and powers there is such a float, and its order number. -/
import Derived.Test.YtljmmaaaeojbpaaDoorF2
namespace Go.Proofs.YtljmmaaaeojbpaaDoor
open Go.RowKit

def MkPost (L U E P m Dm : Int) (bl : Bool) (e : Ending) : Prop :=
  (m < 0 ∨ E ≤ P - m - L + 1 → e = .returned (.tuple #[.int .i64 0, .bool false])) ∧ (0 ≤ m → P - m - L + 1 < E → e = .returned (.tuple #[.int .i64 (if bl then -((P - m - L) * U + Dm) else (P - m - L) * U + Dm), .bool true]))
theorem MkPost.fail {L U E P m Dm : Int} {bl : Bool} (h : m < 0 ∨ E ≤ P - m - L + 1) : MkPost L U E P m Dm bl (.returned (.tuple #[.int .i64 0, .bool false])) :=
  ⟨fun _ => rfl, fun a b => by omega⟩
theorem MkPost.ok {L U E P m Dm v : Int} {bl : Bool} (h : 0 ≤ m) (g : P - m - L + 1 < E) (hv : v = if bl then -((P - m - L) * U + Dm) else (P - m - L) * U + Dm) : MkPost L U E P m Dm bl (.returned (.tuple #[.int .i64 v, .bool true])) :=
  ⟨fun a => by omega, fun _ _ => by rw [hv]⟩
theorem MkPost.one {L U E P m Dm : Int} {bl : Bool} {a b : Ending} (h : MkPost L U E P m Dm bl a) (g : MkPost L U E P m Dm bl b) : a = b := by
  by_cases c : m < 0 ∨ E ≤ P - m - L + 1
  · rw [h.1 c, g.1 c]
  · rw [h.2 (by omega) (by omega), g.2 (by omega) (by omega)]
end Go.Proofs.YtljmmaaaeojbpaaDoor
