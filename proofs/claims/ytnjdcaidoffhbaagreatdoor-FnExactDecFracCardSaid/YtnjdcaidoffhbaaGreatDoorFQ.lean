/- Products of fractions: by the program and by the specification. Conditions, of the program: the library's table and its handle of errors hold what their texts lay. -/
import Derived.Test.YtnjdcaidoffhbaaGreatDoorFP
import Derived.Deep.DeepCutAuto
namespace Go.Proofs.YtnjdcaidoffhbaaGreatDoor
open Go.RowKit
set_option linter.unusedVariables false
set_option maxRecDepth 100000

theorem Cel3.lts {w : World} {b : Nat} {v0 v1 v2 : Value} (h : Cel3 w b v0 v1 v2) : b < w.heap.size := h.1
theorem newN {R W W' : World} (h : Below R.heap.size R W) (hb : Below (W.alloc (.cells #[.bool false, .slice none 0 0, .slice none 0 0] 24)).heap.size (W.alloc (.cells #[.bool false, .slice none 0 0, .slice none 0 0] 24)) W') : Cel3 W' W.heap.size (.bool false) (.slice none 0 0) (.slice none 0 0) ∧ R.heap.size ≤ W.heap.size ∧ W.heap.size < (W.alloc (.cells #[.bool false, .slice none 0 0, .slice none 0 0] 24)).heap.size := ⟨(Cel3.new W _ _ _ _).old hb, h.size, by simp⟩
theorem newN' {R W W' : World} (h : Below R.heap.size R W) (hb : Below (W.alloc (.cells #[.bool false, .slice none 0 0, .slice none 0 0] 24)).drew.heap.size (W.alloc (.cells #[.bool false, .slice none 0 0, .slice none 0 0] 24)).drew W') : Cel3 W' W.heap.size (.bool false) (.slice none 0 0) (.slice none 0 0) ∧ R.heap.size ≤ W.heap.size ∧ W.heap.size < (W.alloc (.cells #[.bool false, .slice none 0 0, .slice none 0 0] 24)).drew.heap.size := ⟨(Cel3.new W _ _ _ _).drew.old hb, h.size, by show W.heap.size < (W.alloc _).heap.size; simp⟩
theorem ok2_low {a b c : Bool} (h : (a && (b && c)) = true) : c = true := by
  simp only [Bool.and_eq_true] at h
  exact h.2.2
theorem mul_lenG {a b n m : Nat} (h1 : a < 65536 ^ n) (h2 : b < 65536 ^ m) : (natL (a * b)).length ≤ n + m := by
  refine natL_len.2 ?_
  rw [Nat.pow_add]
  exact Nat.mul_lt_mul'' h1 h2
theorem mul_len4 {xs ys : List Int} (h1 : natOk xs = true) (h2 : natOk ys = true) : (natL (val xs * val ys)).length ≤ 512 := mul_lenG (natOk_lt h1) (natOk_lt h2)
end Go.Proofs.YtnjdcaidoffhbaaGreatDoor
