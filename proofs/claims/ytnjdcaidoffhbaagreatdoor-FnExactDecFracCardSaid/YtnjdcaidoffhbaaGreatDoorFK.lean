/- Fractions without their sign, and with the other one: the program. Conditions: the library's table and its handle of errors hold what their texts lay. -/
import Derived.Test.YtnjdcaidoffhbaaGreatDoorFJ
namespace Go.Proofs.YtnjdcaidoffhbaaGreatDoor
open Go.RowKit
set_option linter.unusedVariables false
set_option maxRecDepth 100000

theorem FRes.any {w : World} {base : Nat} {e : Ending} {s s' : Bool} {A B A' B' : Nat} (h : FRes w base e false s A B) : FRes w base e false s' A' B' := h
theorem fracOk_low {bl : Bool} {xs ys : List Int} (h : fracOk bl xs ys = true) : lowB (val xs) (val ys) = true ∧ lowT (val xs) (val ys) = xs ∧ lowU (val xs) (val ys) = ys := by
  have q := fracOk_in h
  have eA := natOk_canon q.1
  have eB := natOk_canon q.2.1
  have h1 : lowT (val xs) (val ys) = xs := by unfold lowT; rw [q.2.2.2.1, Nat.div_one, eA]
  have h2 : lowU (val xs) (val ys) = ys := by unfold lowU; rw [q.2.2.2.1, Nat.div_one, eB]
  refine ⟨lowB_mk ?_ ?_ ?_, h1, h2⟩
  · intro e
    rw [e, natL_zero] at eB
    exact q.2.2.1 (by rw [← eB]; rfl)
  · rw [h1]; exact (natOk_in q.1).1
  · rw [h2]; exact (natOk_in q.2.1).1
end Go.Proofs.YtnjdcaidoffhbaaGreatDoor
