/- Contracts of BitGap and BitMiddle, of the program and of the specification: steps and middle; nothing that was there is written. -/
import Derived.Test.YtmofapcoaolndaaW2
import Derived.Test.YtmofapcoaolndaaF2
namespace Go.Proofs.Ytmofapcoaolndaa
open Go.RowKit

def gapI (lo hi : Int) : Int := if hi < lo then 0 else hi - lo
def midI (lo hi : Int) : Int := lo + gapI lo hi / 2

set_option maxHeartbeats 800000 in
theorem iGap (lo hi : Int) (l1 : -9223372036854775808 ≤ lo) (l2 : lo ≤ 9223372036854775807) (k1 : -9223372036854775808 ≤ hi) (k2 : hi ≤ 9223372036854775807) (w : World) :
    Calls Try.prog 57 #[.int .i64 lo, .int .i64 hi] w fun e w' => e = .returned (.int .u64 (gapI lo hi)) ∧ Below w.heap.size w w' := by
  go_enter Try.func57, Try.ntmps57
  go_wp2
  all_goals
    go_ret
    refine ⟨ret_int ?_, (by repeat (first | exact Below.refl _ _ | refine Below.drew ?_ | refine old_alloc ?_ _ | refine old_trans ?_ (by assumption)))⟩
    try simp only [IntKind.wrap_u64]
    unfold gapI
    split <;> omega

set_option maxHeartbeats 800000 in
theorem sGap (lo hi : Int) (l1 : -9223372036854775808 ≤ lo) (l2 : lo ≤ 9223372036854775807) (k1 : -9223372036854775808 ≤ hi) (k2 : hi ≤ 9223372036854775807) (w : World) :
    Calls Try.prog 54 #[.int .i64 lo, .int .i64 hi] w fun e w' => e = .returned (.int .u64 (gapI lo hi)) ∧ Below w.heap.size w w' := by
  go_enter Try.func54, Try.ntmps54
  go_wp2
  all_goals
    go_ret
    refine ⟨ret_int ?_, (by repeat (first | exact Below.refl _ _ | refine Below.drew ?_ | refine old_alloc ?_ _ | refine old_trans ?_ (by assumption)))⟩
    try simp only [IntKind.wrap_u64]
    unfold gapI
    split <;> omega

set_option maxHeartbeats 800000 in
theorem iMid (lo hi : Int) (l1 : -9223372036854775808 ≤ lo) (l2 : lo ≤ 9223372036854775807) (k1 : -9223372036854775808 ≤ hi) (k2 : hi ≤ 9223372036854775807) (w : World) :
    Calls Try.prog 46 #[.int .i64 lo, .int .i64 hi] w fun e w' => e = .returned (.int .i64 (midI lo hi)) ∧ Below w.heap.size w w' := by
  have q1 : 0 ≤ gapI lo hi := by unfold gapI; split <;> omega
  have q2 : gapI lo hi ≤ 18446744073709551615 := by unfold gapI; split <;> omega
  have q3 : Hid (lo + gapI lo hi / 2 ≤ 9223372036854775807) := by show _ ≤ _; unfold gapI; split <;> omega
  have q4 : Hid (midI lo hi = lo + gapI lo hi / 2) := rfl
  go_enter Try.func46, Try.ntmps46
  go_wp2_with (go_at_call 57; refine (iGap _ _ l1 l2 k1 k2 _).mono ?_; rintro e w1 ⟨rfl, hb1⟩)
  generalize gapI lo hi = g at *
  go_wp2
  go_ret
  refine ⟨ret_int ?_, (by repeat (first | exact Below.refl _ _ | refine Below.drew ?_ | refine old_alloc ?_ _ | refine old_trans ?_ (by assumption)))⟩
  rw [q4.out]
  have q5 := q3.out
  simp only [wrap64]
  omega

set_option maxHeartbeats 800000 in
theorem sMid (lo hi : Int) (l1 : -9223372036854775808 ≤ lo) (l2 : lo ≤ 9223372036854775807) (k1 : -9223372036854775808 ≤ hi) (k2 : hi ≤ 9223372036854775807) (w : World) :
    Calls Try.prog 42 #[.int .i64 lo, .int .i64 hi] w fun e w' => e = .returned (.int .i64 (midI lo hi)) ∧ Below w.heap.size w w' := by
  have q1 : 0 ≤ gapI lo hi := by unfold gapI; split <;> omega
  have q2 : gapI lo hi ≤ 18446744073709551615 := by unfold gapI; split <;> omega
  have q3 : Hid (lo + gapI lo hi / 2 ≤ 9223372036854775807) := by show _ ≤ _; unfold gapI; split <;> omega
  have q4 : Hid (midI lo hi = lo + gapI lo hi / 2) := rfl
  go_enter Try.func42, Try.ntmps42
  go_wp2_with (go_at_call 54; refine (sGap _ _ l1 l2 k1 k2 _).mono ?_; rintro e w1 ⟨rfl, hb1⟩)
  generalize gapI lo hi = g at *
  go_wp2
  go_ret
  refine ⟨ret_int ?_, (by repeat (first | exact Below.refl _ _ | refine Below.drew ?_ | refine old_alloc ?_ _ | refine old_trans ?_ (by assumption)))⟩
  rw [q4.out]
  have q5 := q3.out
  simp only [IntKind.wrap_u64, wrap64]
  omega
end Go.Proofs.Ytmofapcoaolndaa
