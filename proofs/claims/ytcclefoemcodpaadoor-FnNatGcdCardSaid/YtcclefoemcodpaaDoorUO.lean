/- Draws of a number's digits, squares and next to squares now and then: some list, in new memory. -/
import Derived.Test.YtcclefoemcodpaaDoorUK
import Derived.Test.YtcclefoemcodpaaDoorBB
import Derived.Test.YtcclefoemcodpaaDoorBC
namespace Go.Proofs.YtcclefoemcodpaaDoor
open Go.RowKit
set_option linter.unusedVariables false

theorem len_mul {A B n m : Nat} (hA : A < 65536 ^ n) (hB : B < 65536 ^ m) : (natL (A * B)).length ≤ n + m := by
  refine natL_len.2 ?_
  rw [Nat.pow_add]
  have hp : 0 < 65536 ^ m := Nat.pow_pos (by omega)
  exact Nat.lt_of_le_of_lt (Nat.mul_le_mul_left A (Nat.le_of_lt hB)) (Nat.mul_lt_mul_of_pos_right hA hp)
theorem len_add1 {A n : Nat} (h : (natL A).length ≤ n) : (natL (A + 1)).length ≤ n + 1 := by
  have h1 := natL_len.1 h
  refine natL_len.2 ?_
  rw [Nat.pow_succ]
  have hp : 0 < 65536 ^ n := Nat.pow_pos (by omega)
  omega
/-- a list in new memory -/
def Li (w : World) (base : Nat) (e : Ending) : Prop := ∃ av cv xs, e = .returned (.slice av (List.length xs) cv) ∧ OI w base av cv xs ∧ List.length xs ≤ 257
end Go.Proofs.YtcclefoemcodpaaDoor
