/- PairLess and PairMore of the program and of the specification; the laws' toPair and eqPair; nothing that was there is written. -/
import Derived.Test.YtekbhkklaogmnaaDoorB1
import Derived.Test.YtekbhkklaogmnaaDoorR3
namespace Go.Proofs.YtekbhkklaogmnaaDoor
open Go.RowKit

/-- the greatest narrow float that is not above a wide one, as a function -/
def nrI (o : Int) : Int := if widI 2139095039 < o then 2139095040 else if o < widI (-2139095039) then -2139095040 else if o < 0 then -(nar (if o < 0 then -o else o).toNat : Int) else (nar (if o < 0 then -o else o).toNat : Int)
def belI (o : Int) : Int := if widI (nrI o) ≤ o then nrI o else nrI o - 1
theorem nrI_is (o : Int) (h1 : -9218868437227405312 ≤ o) (h2 : o ≤ 9218868437227405312) : IsNear o (nrI o) := by
  unfold nrI
  by_cases c1 : widI 2139095039 < o
  · rw [if_pos c1]; exact near_hi_is o c1 h2
  rw [if_neg c1]
  by_cases c2 : o < widI (-2139095039)
  · rw [if_pos c2]; exact near_lo_is o c2 h1
  rw [if_neg c2]
  have e1 : widI 2139095039 = (wid 2139095039 : Int) := widI_nat 2139095039
  have e2 : widI (-2139095039) = -(wid 2139095039 : Int) := widI_natneg 2139095039
  rw [e1] at c1
  rw [e2] at c2
  clear e1 e2
  refine near_is o (if o < 0 then -o else o).toNat ?_ ?_
  · generalize wid 2139095039 = A at *
    split <;> omega
  · generalize wid 2139095039 = A at *
    split <;> omega
theorem belI_is (o : Int) (h1 : -9218868437227405312 ≤ o) (h2 : o ≤ 9218868437227405312) : IsBelow o (belI o) := by
  unfold belI
  rcases nrI_is o h1 h2 with h | ⟨_, _, h, hlt⟩
  · rw [if_pos h.2.2.1]; exact h
  · rw [if_neg (by exact Int.not_le.2 hlt)]; exact h
theorem eqPair (a b c d : Int) (w : World) :
    Calls Tryd.prog 31 #[.agg #[.int .i64 a, .int .i64 b], .agg #[.int .i64 c, .int .i64 d]] w fun e w' => e = .returned (.bool (a == c && b == d)) ∧ Below w.heap.size w w' := by
  by_cases h1 : (a != c) = true
  · go_enter Tryd.func31, Tryd.ntmps31
    go_wp2
    go_ret
    exact ⟨ret_b (by have : (a == c) = false := by simpa using h1
                     rw [this]; rfl), (by repeat (first | exact Below.refl _ _ | refine Below.drew ?_ | refine old_alloc ?_ _ | refine old_trans ?_ (by assumption)))⟩
  · replace h1 : (a != c) = false := by simpa using h1
    have e : (a == c) = true := by simpa using h1
    rw [e]
    clear e
    by_cases h2 : (b != d) = true
    · have e : (b == d) = false := by simpa using h2
      rw [e]
      clear e
      go_enter Tryd.func31, Tryd.ntmps31
      go_wp2
      go_ret
      exact ⟨rfl, (by repeat (first | exact Below.refl _ _ | refine Below.drew ?_ | refine old_alloc ?_ _ | refine old_trans ?_ (by assumption)))⟩
    · replace h2 : (b != d) = false := by simpa using h2
      have e : (b == d) = true := by simpa using h2
      rw [e]
      clear e
      go_enter Tryd.func31, Tryd.ntmps31
      go_wp2
      go_ret
      exact ⟨rfl, (by repeat (first | exact Below.refl _ _ | refine Below.drew ?_ | refine old_alloc ?_ _ | refine old_trans ?_ (by assumption)))⟩
end Go.Proofs.YtekbhkklaogmnaaDoor
