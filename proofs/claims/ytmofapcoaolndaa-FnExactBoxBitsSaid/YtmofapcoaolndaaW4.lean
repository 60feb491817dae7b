/- Contracts of BitBits, of the program and of the specification: both answer the same; nothing that was there is written. -/
import Derived.Test.YtmofapcoaolndaaW2
import Derived.Test.YtmofapcoaolndaaF
namespace Go.Proofs.Ytmofapcoaolndaa
open Go.RowKit


set_option maxHeartbeats 800000 in
theorem iBitBits_32 (n : Int) (h1 : -2139095040 ≤ n) (h2 : n ≤ 2139095040) (w : World) :
    Calls Try.prog 39 #[.int .i64 32, .int .i64 n] w fun e w' => e = .returned (.int .u64 (bitsI 2147483648 n)) ∧ Below w.heap.size w w' := by
  have m0 := meth_sign_32
  go_enter Try.func39, Try.ntmps39
  go_wp2_with (first | (go_at_call 60; refine (formOf_32 _).mono ?_; rintro e w1 ⟨rfl, hb1⟩) | (go_at_call 51; refine (formWith_32 _ _ h1 h2).mono ?_; rintro e w1 ⟨rfl, hb1⟩) | go_in)
  all_goals
    go_ret
    refine ⟨ret_int ?_, (by repeat (first | exact Below.refl _ _ | refine Below.drew ?_ | refine old_alloc ?_ _ | refine old_trans ?_ (by assumption)))⟩
    try rw [or_32 _ (by omega) (by omega)]
    unfold bitsI; (repeat' split) <;> omega

set_option maxHeartbeats 800000 in
theorem sBitBits_32 (n : Int) (h1 : -2139095040 ≤ n) (h2 : n ≤ 2139095040) (w : World) :
    Calls Try.prog 35 #[.int .i64 32, .int .i64 n] w fun e w' => e = .returned (.int .u64 (bitsI 2147483648 n)) ∧ Below w.heap.size w w' := by
  go_enter Try.func35, Try.ntmps35
  go_wp2_with (first | (go_at_call 48; refine (sBitOk_32 _ _ h1 h2).mono ?_; rintro e w1 ⟨rfl, hb1⟩) | go_in)
  all_goals
    go_ret
    refine ⟨ret_int ?_, (by repeat (first | exact Below.refl _ _ | refine Below.drew ?_ | refine old_alloc ?_ _ | refine old_trans ?_ (by assumption)))⟩
    unfold bitsI; (repeat' split) <;> omega

set_option maxHeartbeats 800000 in
theorem iBitBits_32_out (n : Int) (h : ¬ (-2139095040 ≤ n ∧ n ≤ 2139095040)) (w : World) :
    Calls Try.prog 39 #[.int .i64 32, .int .i64 n] w fun e w' => e = .returned (.int .u64 0) ∧ Below w.heap.size w w' := by
  go_enter Try.func39, Try.ntmps39
  go_wp2_with (go_at_call 51; refine (formWith_32_out _ _ h).mono ?_; rintro e w1 ⟨rfl, hb1⟩)
  go_ret
  exact ⟨rfl, (by repeat (first | exact Below.refl _ _ | refine Below.drew ?_ | refine old_alloc ?_ _ | refine old_trans ?_ (by assumption)))⟩

set_option maxHeartbeats 800000 in
theorem sBitBits_32_out (n : Int) (h : ¬ (-2139095040 ≤ n ∧ n ≤ 2139095040)) (w : World) :
    Calls Try.prog 35 #[.int .i64 32, .int .i64 n] w fun e w' => e = .returned (.int .u64 0) ∧ Below w.heap.size w w' := by
  go_enter Try.func35, Try.ntmps35
  go_wp2_with (go_at_call 48; refine (sBitOk_32_out _ _ h).mono ?_; rintro e w1 ⟨rfl, hb1⟩)
  go_ret
  exact ⟨rfl, (by repeat (first | exact Below.refl _ _ | refine Below.drew ?_ | refine old_alloc ?_ _ | refine old_trans ?_ (by assumption)))⟩

set_option maxHeartbeats 800000 in
theorem iBitBits_64 (n : Int) (h1 : -9218868437227405312 ≤ n) (h2 : n ≤ 9218868437227405312) (w : World) :
    Calls Try.prog 39 #[.int .i64 64, .int .i64 n] w fun e w' => e = .returned (.int .u64 (bitsI 9223372036854775808 n)) ∧ Below w.heap.size w w' := by
  have m0 := meth_sign_64
  go_enter Try.func39, Try.ntmps39
  go_wp2_with (first | (go_at_call 60; refine (formOf_64 _).mono ?_; rintro e w1 ⟨rfl, hb1⟩) | (go_at_call 51; refine (formWith_64 _ _ h1 h2).mono ?_; rintro e w1 ⟨rfl, hb1⟩) | go_in)
  all_goals
    go_ret
    refine ⟨ret_int ?_, (by repeat (first | exact Below.refl _ _ | refine Below.drew ?_ | refine old_alloc ?_ _ | refine old_trans ?_ (by assumption)))⟩
    try rw [or_64 _ (by omega) (by omega)]
    unfold bitsI; (repeat' split) <;> omega

set_option maxHeartbeats 800000 in
theorem sBitBits_64 (n : Int) (h1 : -9218868437227405312 ≤ n) (h2 : n ≤ 9218868437227405312) (w : World) :
    Calls Try.prog 35 #[.int .i64 64, .int .i64 n] w fun e w' => e = .returned (.int .u64 (bitsI 9223372036854775808 n)) ∧ Below w.heap.size w w' := by
  go_enter Try.func35, Try.ntmps35
  go_wp2_with (first | (go_at_call 48; refine (sBitOk_64 _ _ h1 h2).mono ?_; rintro e w1 ⟨rfl, hb1⟩) | go_in)
  all_goals
    go_ret
    refine ⟨ret_int ?_, (by repeat (first | exact Below.refl _ _ | refine Below.drew ?_ | refine old_alloc ?_ _ | refine old_trans ?_ (by assumption)))⟩
    unfold bitsI; (repeat' split) <;> omega

set_option maxHeartbeats 800000 in
theorem iBitBits_64_out (n : Int) (h : ¬ (-9218868437227405312 ≤ n ∧ n ≤ 9218868437227405312)) (w : World) :
    Calls Try.prog 39 #[.int .i64 64, .int .i64 n] w fun e w' => e = .returned (.int .u64 0) ∧ Below w.heap.size w w' := by
  go_enter Try.func39, Try.ntmps39
  go_wp2_with (go_at_call 51; refine (formWith_64_out _ _ h).mono ?_; rintro e w1 ⟨rfl, hb1⟩)
  go_ret
  exact ⟨rfl, (by repeat (first | exact Below.refl _ _ | refine Below.drew ?_ | refine old_alloc ?_ _ | refine old_trans ?_ (by assumption)))⟩

set_option maxHeartbeats 800000 in
theorem sBitBits_64_out (n : Int) (h : ¬ (-9218868437227405312 ≤ n ∧ n ≤ 9218868437227405312)) (w : World) :
    Calls Try.prog 35 #[.int .i64 64, .int .i64 n] w fun e w' => e = .returned (.int .u64 0) ∧ Below w.heap.size w w' := by
  go_enter Try.func35, Try.ntmps35
  go_wp2_with (go_at_call 48; refine (sBitOk_64_out _ _ h).mono ?_; rintro e w1 ⟨rfl, hb1⟩)
  go_ret
  exact ⟨rfl, (by repeat (first | exact Below.refl _ _ | refine Below.drew ?_ | refine old_alloc ?_ _ | refine old_trans ?_ (by assumption)))⟩

set_option maxHeartbeats 800000 in
theorem iBitBits_no (wd n : Int) (g1 : wd ≠ 32) (g2 : wd ≠ 64) (w : World) :
    Calls Try.prog 39 #[.int .i64 wd, .int .i64 n] w fun e w' => e = .returned (.int .u64 0) ∧ Below w.heap.size w w' := by
  go_enter Try.func39, Try.ntmps39
  go_wp2_with (go_at_call 51; refine (formWith_no wd _ _ g1 g2).mono ?_; rintro e w1 ⟨rfl, hb1⟩)
  go_ret
  exact ⟨rfl, (by repeat (first | exact Below.refl _ _ | refine Below.drew ?_ | refine old_alloc ?_ _ | refine old_trans ?_ (by assumption)))⟩

set_option maxHeartbeats 800000 in
theorem sBitBits_no (wd n : Int) (g1 : wd ≠ 32) (g2 : wd ≠ 64) (w : World) :
    Calls Try.prog 35 #[.int .i64 wd, .int .i64 n] w fun e w' => e = .returned (.int .u64 0) ∧ Below w.heap.size w w' := by
  go_enter Try.func35, Try.ntmps35
  go_wp2_with (go_at_call 48; refine (sBitOk_no wd _ _ g1 g2).mono ?_; rintro e w1 ⟨rfl, hb1⟩)
  go_ret
  exact ⟨rfl, (by repeat (first | exact Below.refl _ _ | refine Below.drew ?_ | refine old_alloc ?_ _ | refine old_trans ?_ (by assumption)))⟩
end Go.Proofs.Ytmofapcoaolndaa
