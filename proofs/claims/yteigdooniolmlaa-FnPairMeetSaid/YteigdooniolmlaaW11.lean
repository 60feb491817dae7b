/- The contract of the specification's BitBelow and BitAbove: the greatest narrow float that is not above a wide one, and its mirror; nothing that was there is written. -/
import Derived.Test.YteigdooniolmlaaW10
namespace Go.Proofs.Yteigdooniolmlaa
open Go.RowKit

/-- n is the greatest narrow order number whose wide one is not above o -/
def IsBelow (o n : Int) : Prop := -2139095040 ≤ n ∧ n ≤ 2139095040 ∧ widI n ≤ o ∧ (n < 2139095040 → o < widI (n + 1))

theorem IsBelow.one {o a b : Int} (ha : IsBelow o a) (hb : IsBelow o b) : a = b := by
  obtain ⟨a1, a2, a3, a4⟩ := ha
  obtain ⟨b1, b2, b3, b4⟩ := hb
  by_cases h : a < b
  · have x := a4 (by omega)
    have y := widI_le (a := a + 1) (b := b) (by omega) (by omega) b2
    omega
  by_cases h' : b < a
  · have x := b4 (by omega)
    have y := widI_le (a := b + 1) (b := a) (by omega) (by omega) a2
    omega
  omega

theorem widI_bot : widI (-2139095040) = -9218868437227405312 := by unfold widI; rw [if_pos (by decide)]; show -((wid 2139095040 : Nat) : Int) = _; rw [wid_top]; rfl
theorem widI_top : widI 2139095040 = 9218868437227405312 := by unfold widI; rw [if_neg (by decide)]; show ((wid 2139095040 : Nat) : Int) = _; rw [wid_top]; rfl

set_option maxHeartbeats 1000000 in
theorem sBitBelow (o : Int) (h1 : -9218868437227405312 ≤ o) (h2 : o ≤ 9218868437227405312) (w : World) :
    Calls Try.prog 52 #[.int .i64 o] w fun e w' => (∃ n, IsBelow o n ∧ e = .returned (.tuple #[.int .i64 n, .bool true])) ∧ Below w.heap.size w w' := by
  have st : Hid (widI (-2139095040) ≤ o) := by show _ ≤ _; rw [widI_bot]; exact h1
  go_enter Try.func52, Try.ntmps52
  go_wp2_with (first | (go_at_call 48; refine (sBitOk_64 o _ h1 h2).mono ?_; rintro e w1 ⟨rfl, hb1⟩) | go_in)
  go_loopw [4, 5] (fun a b wr => ∃ lo hi : Int, a = .int .i64 lo ∧ b = .int .i64 hi ∧ -2139095040 ≤ lo ∧ lo ≤ hi ∧ hi ≤ 2139095040 ∧ Hid (widI lo ≤ o) ∧ Hid (hi < 2139095040 → o < widI (hi + 1)) ∧ Below w.heap.size w wr) (fun a b _ => (intOf b - intOf a).toNat)
  case atStart => exact ⟨_, _, rfl, rfl, by omega, by omega, by omega, st, (fun h => absurd h (by omega)), (by repeat (first | exact Below.refl _ _ | refine Below.drew ?_ | refine old_alloc ?_ _ | refine old_trans ?_ (by assumption)))⟩
  case round =>
    obtain ⟨lo, hi, rfl, rfl, q1, q2, q3, q4, q5, q6⟩ := hrel
    by_cases hlt : lo < hi
    · have m1 : -2139095040 ≤ hi - (hi - lo) / 2 := by omega
      have m2 : hi - (hi - lo) / 2 ≤ 2139095040 := by omega
      by_cases c : widI (hi - (hi - lo) / 2) ≤ o
      · have c' : decide (widI (hi - (hi - lo) / 2) ≤ o) = true := by simpa using c
        have hc : Hid (widI (hi - (hi - lo) / 2) ≤ o) := c
        clear c
        go_wp2_with (go_at_call 56; refine (sWide _ m1 m2 _).mono ?_; rintro e w2 ⟨rfl, hb2⟩)
        go_roundw
        case rel => (repeat apply Exists.intro); exact ⟨⟨_, _, rfl, rfl, by omega, by omega, by omega, hc, q5, (by repeat (first | exact q6 | refine Below.drew ?_ | refine old_alloc ?_ _ | refine old_trans ?_ (by assumption)))⟩, rfl⟩
        case measure => simp [intOf]; omega
      · have c' : decide (widI (hi - (hi - lo) / 2) ≤ o) = false := by simpa using c
        have hc : Hid (hi - (hi - lo) / 2 - 1 < 2139095040 → o < widI (hi - (hi - lo) / 2 - 1 + 1)) := by
          intro _
          rw [Int.sub_add_cancel]
          omega
        clear c
        go_wp2_with (go_at_call 56; refine (sWide _ m1 m2 _).mono ?_; rintro e w2 ⟨rfl, hb2⟩)
        go_roundw
        case rel => (repeat apply Exists.intro); exact ⟨⟨_, _, rfl, rfl, by omega, by omega, by omega, q4, hc, (by repeat (first | exact q6 | refine Below.drew ?_ | refine old_alloc ?_ _ | refine old_trans ?_ (by assumption)))⟩, rfl⟩
        case measure => simp [intOf]; omega
    · have e : lo = hi := by omega
      subst e
      go_wp2
      go_ret2
      exact ⟨⟨_, ⟨q1, q3, q4, q5⟩, rfl⟩, (by repeat (first | exact q6 | refine Below.drew ?_ | refine old_alloc ?_ _ | refine old_trans ?_ (by assumption)))⟩
set_option maxHeartbeats 400000 in
theorem sBitBelow_out (o : Int) (h : ¬ (-9218868437227405312 ≤ o ∧ o ≤ 9218868437227405312)) (w : World) :
    Calls Try.prog 52 #[.int .i64 o] w fun e w' => e = .returned (.tuple #[.int .i64 0, .bool false]) ∧ Below w.heap.size w w' := by
  go_enter Try.func52, Try.ntmps52
  go_wp2_with (go_at_call 48; refine (sBitOk_64_out o _ h).mono ?_; rintro e w1 ⟨rfl, hb1⟩)
  go_ret2
  exact ⟨rfl, (by repeat (first | exact Below.refl _ _ | refine Below.drew ?_ | refine old_alloc ?_ _ | refine old_trans ?_ (by assumption)))⟩
set_option maxHeartbeats 400000 in
theorem sBitAbove (o : Int) (h1 : -9218868437227405312 ≤ o) (h2 : o ≤ 9218868437227405312) (w : World) :
    Calls Try.prog 53 #[.int .i64 o] w fun e w' => (∃ n, IsBelow (-o) n ∧ e = .returned (.tuple #[.int .i64 (-n), .bool true])) ∧ Below w.heap.size w w' := by
  go_enter Try.func53, Try.ntmps53
  go_wp2_with fail
  refine (sBitBelow (-o) (by omega) (by omega) _).mono ?_
  rintro e w1 ⟨⟨n, hn, rfl⟩, hb1⟩
  have n1 := hn.1
  have n2 := hn.2.1
  go_wp2
  go_ret2
  exact ⟨⟨n, hn, rfl⟩, (by repeat (first | exact Below.refl _ _ | refine Below.drew ?_ | refine old_alloc ?_ _ | refine old_trans ?_ (by assumption)))⟩
set_option maxHeartbeats 400000 in
theorem sBitAbove_out (o : Int) (h : ¬ (-9218868437227405312 ≤ o ∧ o ≤ 9218868437227405312)) (k1 : -9223372036854775808 ≤ o) (k2 : o ≤ 9223372036854775807) (w : World) :
    Calls Try.prog 53 #[.int .i64 o] w fun e w' => e = .returned (.tuple #[.int .i64 0, .bool false]) ∧ Below w.heap.size w w' := by
  go_enter Try.func53, Try.ntmps53
  go_wp2_with fail
  refine (sBitBelow_out _ ?_ _).mono ?_
  · first | omega | (unfold wrap64; omega)
  rintro e w1 ⟨rfl, hb1⟩
  go_wp2
  go_ret2
  exact ⟨rfl, (by repeat (first | exact Below.refl _ _ | refine Below.drew ?_ | refine old_alloc ?_ _ | refine old_trans ?_ (by assumption)))⟩
end Go.Proofs.Yteigdooniolmlaa
