/- The answers of the pair functions as plain tuples; a pair is the same as itself. -/
import Derived.Test.YtekbhkklaogmnaaDoorR7
import Derived.Test.YtekbhkklaogmnaaDoorR8
namespace Go.Proofs.YtekbhkklaogmnaaDoor
open Go.RowKit

theorem pairV_eq (r : Bool) (x y : Int) : pairV r x y = .tuple #[.agg #[.int .i64 (if r then x else 0), .int .i64 (if r then y else 0)], .bool r] := by cases r <;> rfl
theorem pair2V_eq (r : Bool) (a b c d : Int) : pair2V r a b c d = .tuple #[.agg #[.int .i64 (if r then a else 0), .int .i64 (if r then b else 0)], .agg #[.int .i64 (if r then c else 0), .int .i64 (if r then d else 0)], .bool r] := by cases r <;> rfl
theorem cutV_eq (wd a b c d : Int) : ∃ (x1 x2 x3 x4 : Int) (r : Bool), cutV wd a b c d = .tuple #[.agg #[.int .i64 x1, .int .i64 x2], .agg #[.int .i64 x3, .int .i64 x4], .bool r] := by
  unfold cutV
  split <;> (rw [pair2V_eq]; exact ⟨_, _, _, _, _, rfl⟩)
theorem eqPair_same (a b : Int) (w : World) :
    Calls Tryd.prog 31 #[.agg #[.int .i64 a, .int .i64 b], .agg #[.int .i64 a, .int .i64 b]] w fun e w' => e = .returned (.bool true) ∧ Below w.heap.size w w' := by
  have := eqPair a b a b w
  simp only [BEq.rfl, Bool.and_self] at this
  exact this
end Go.Proofs.YtekbhkklaogmnaaDoor
