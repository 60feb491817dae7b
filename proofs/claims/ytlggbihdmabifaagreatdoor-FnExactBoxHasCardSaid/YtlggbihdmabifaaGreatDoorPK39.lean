/- PairLess and PairMore of the program and of the specification; the laws' toPair and eqPair; nothing that was there is written. -/
import Derived.Test.YtlggbihdmabifaaGreatDoorPK38
import Derived.Test.YtlggbihdmabifaaGreatDoorPK36
namespace Go.Proofs.YtlggbihdmabifaaGreatDoor
open Go.RowKit

set_option maxHeartbeats 800000 in
theorem toPair (lo hi : Int) (w : World) :
    Calls Tryz.prog 31 #[.agg #[.int .i64 lo, .int .i64 hi]] w fun e w' => e = .returned (.agg #[.int .i64 lo, .int .i64 hi]) ∧ Below w.heap.size w w' := by
  go_enter Tryz.func31, Tryz.ntmps31
  go_wp2
  refine bodyPost_ret (v := .agg #[.int .i64 lo, .int .i64 hi]) ?_ rfl ⟨rfl, (by repeat (first | exact Below.refl _ _ | refine Below.drew ?_ | refine Below.setCell ?_ (by first | (simp; done) | omega | (simp; omega)) _ | refine old_alloc ?_ _ | refine old_trans ?_ (by assumption)))⟩
  simp [results, Tryz.results31, go_sem]
theorem eqPair (a b c d : Int) (w : World) :
    Calls Tryz.prog 38 #[.agg #[.int .i64 a, .int .i64 b], .agg #[.int .i64 c, .int .i64 d]] w fun e w' => e = .returned (.bool (a == c && b == d)) ∧ Below w.heap.size w w' := by
  by_cases h1 : (a != c) = true
  · go_enter Tryz.func38, Tryz.ntmps38
    go_wp2
    go_ret
    exact ⟨ret_b (by have : (a == c) = false := by simpa using h1
                     rw [this]; rfl), (by repeat (first | exact Below.refl _ _ | refine Below.drew ?_ | refine old_alloc ?_ _ | refine old_trans ?_ (by assumption)))⟩
  · replace h1 : (a != c) = false := by simpa using h1
    have e : (a == c) = true := by simpa using h1
    rw [e]
    clear e
    by_cases h2 : (b != d) = true
    · have e : (b == d) = false := by simpa using h2
      rw [e]
      clear e
      go_enter Tryz.func38, Tryz.ntmps38
      go_wp2
      go_ret
      exact ⟨rfl, (by repeat (first | exact Below.refl _ _ | refine Below.drew ?_ | refine old_alloc ?_ _ | refine old_trans ?_ (by assumption)))⟩
    · replace h2 : (b != d) = false := by simpa using h2
      have e : (b == d) = true := by simpa using h2
      rw [e]
      clear e
      go_enter Tryz.func38, Tryz.ntmps38
      go_wp2
      go_ret
      exact ⟨rfl, (by repeat (first | exact Below.refl _ _ | refine Below.drew ?_ | refine old_alloc ?_ _ | refine old_trans ?_ (by assumption)))⟩
end Go.Proofs.YtlggbihdmabifaaGreatDoor

/- The answers of the pair functions as plain tuples; a pair is the same as itself. -/
namespace Go.Proofs.YtlggbihdmabifaaGreatDoor
open Go.RowKit

theorem eqPair_same (a b : Int) (w : World) :
    Calls Tryz.prog 38 #[.agg #[.int .i64 a, .int .i64 b], .agg #[.int .i64 a, .int .i64 b]] w fun e w' => e = .returned (.bool true) ∧ Below w.heap.size w w' := by
  have := eqPair a b a b w
  simp only [BEq.rfl, Bool.and_self] at this
  exact this
end Go.Proofs.YtlggbihdmabifaaGreatDoor
