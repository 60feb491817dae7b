/- Differences of fractions: by the program and by the specification. Conditions, of the program: the library's table and its handle of errors hold what their texts lay. -/
import Derived.Test.YtbcdeddbkckaeaaGreatDoorFW
import Derived.Test.YtbcdeddbkckaeaaGreatDoorFN
namespace Go.Proofs.YtbcdeddbkckaeaaGreatDoor
open Go.RowKit
set_option linter.unusedVariables false
set_option maxRecDepth 100000

theorem Cel6.new (w : World) (v0 v1 v2 v3 v4 v5 : Value) (ty : TypeId) : Cel6 (w.alloc (.cells #[v0, v1, v2, v3, v4, v5] ty)) w.heap.size v0 v1 v2 v3 v4 v5 := by
  refine ⟨by simp, ?_, ?_, ?_, ?_, ?_, ?_⟩ <;> simp [go_sem]
theorem sum_neg (bl bm : Bool) (x u y : Nat) : sumN bl (!bm && decide (u ≠ 0)) x (u * y) = sumN bl (!bm) x (u * y) ∧ sumS bl (!bm && decide (u ≠ 0)) x (u * y) = sumS bl (!bm) x (u * y) := by
  by_cases h : u = 0
  · subst h
    rw [Nat.zero_mul]
    have h1 : ∀ k, sumN bl k x 0 = x := by
      intro k
      unfold sumN
      rw [if_neg (Nat.not_lt_zero x)]
      split <;> simp
    have h2 : ∀ k, sumS bl k x 0 = bl := by
      intro k
      unfold sumS
      rw [if_neg (Nat.not_lt_zero x)]
      split <;> simp
    exact ⟨(h1 _).trans (h1 _).symm, (h2 _).trans (h2 _).symm⟩
  · rw [decide_eq_true h, Bool.and_true]
    exact ⟨rfl, rfl⟩
theorem fracOk_neg {bm : Bool} {us vs : List Int} (h : fracOk bm us vs = true) : fracOk (!bm && decide (val us ≠ 0)) us vs = true := by
  have q := fracOk_in h
  refine fracOk_mk q.1 q.2.1 q.2.2.1 q.2.2.2.1 ?_
  rintro ⟨h1, h2⟩
  rw [Bool.and_eq_true, decide_eq_true_eq] at h1
  exact h1.2 (by rw [List.length_eq_zero_iff.1 h2]; rfl)
end Go.Proofs.YtbcdeddbkckaeaaGreatDoor
