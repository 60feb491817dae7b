/- Contracts of the methods of a form, of formWith and of BitTop: what each call returns at each width; nothing that was there is written. -/
import Derived.Test.YtpjababikpakoaaGreatDoorW1
namespace Go.Proofs.YtpjababikpakoaaGreatDoor
open Go.RowKit

theorem meth_fraction_32 (w : World) : (method 355 146 (.agg #[]) "loop.example/pinfold/impl.fraction").run Tryz.prog w = .ok (200, .agg #[]) w := by kernel_rfl
theorem meth_least_32 (w : World) : (method 355 146 (.agg #[]) "loop.example/pinfold/impl.least").run Tryz.prog w = .ok (201, .agg #[]) w := by kernel_rfl
theorem meth_sign_32 (w : World) : (method 355 146 (.agg #[]) "loop.example/pinfold/impl.sign").run Tryz.prog w = .ok (202, .agg #[]) w := by kernel_rfl
theorem meth_top_32 (w : World) : (method 355 146 (.agg #[]) "loop.example/pinfold/impl.top").run Tryz.prog w = .ok (203, .agg #[]) w := by kernel_rfl
theorem meth_fraction_64 (w : World) : (method 355 149 (.agg #[]) "loop.example/pinfold/impl.fraction").run Tryz.prog w = .ok (204, .agg #[]) w := by kernel_rfl
theorem meth_least_64 (w : World) : (method 355 149 (.agg #[]) "loop.example/pinfold/impl.least").run Tryz.prog w = .ok (205, .agg #[]) w := by kernel_rfl
theorem meth_sign_64 (w : World) : (method 355 149 (.agg #[]) "loop.example/pinfold/impl.sign").run Tryz.prog w = .ok (206, .agg #[]) w := by kernel_rfl
theorem meth_top_64 (w : World) : (method 355 149 (.agg #[]) "loop.example/pinfold/impl.top").run Tryz.prog w = .ok (207, .agg #[]) w := by kernel_rfl

set_option maxHeartbeats 400000 in
theorem formWith_32 (n : Int) (w : World) (h1 : -2139095040 ≤ n) (h2 : n ≤ 2139095040) :
    Calls Tryz.prog 85 #[.int .i64 32, .int .i64 n] w fun e w' => e = .returned (.tuple #[.iface 146 (.agg #[]), .bool true]) ∧ Below w.heap.size w w' := by
  have m1 := meth_top_32
  have t1 : decide (n < -2139095040) = false := by simp; omega
  have t2 : decide (2139095040 < n) = false := by simp; omega
  go_enter Tryz.func85, Tryz.ntmps85
  go_wp2_with (first | (go_at_call 76; refine (formOf_32 _).mono ?_; rintro e w1 ⟨rfl, hb1⟩) | go_in)
  go_ret2
  exact ⟨rfl, (by repeat (first | exact Below.refl _ _ | refine Below.drew ?_ | refine old_alloc ?_ _ | refine old_trans ?_ (by assumption)))⟩
set_option maxHeartbeats 400000 in
theorem formWith_32_lo (n : Int) (w : World) (h1 : n < -2139095040) :
    Calls Tryz.prog 85 #[.int .i64 32, .int .i64 n] w fun e w' => e = .returned (.tuple #[.nilIface, .bool false]) ∧ Below w.heap.size w w' := by
  have m1 := meth_top_32
  have t1 : decide (n < -2139095040) = true := by simp; omega
  go_enter Tryz.func85, Tryz.ntmps85
  go_wp2_with (first | (go_at_call 76; refine (formOf_32 _).mono ?_; rintro e w1 ⟨rfl, hb1⟩) | go_in)
  go_ret2
  exact ⟨rfl, (by repeat (first | exact Below.refl _ _ | refine Below.drew ?_ | refine old_alloc ?_ _ | refine old_trans ?_ (by assumption)))⟩
set_option maxHeartbeats 400000 in
theorem formWith_32_hi (n : Int) (w : World) (h1 : 2139095040 < n) :
    Calls Tryz.prog 85 #[.int .i64 32, .int .i64 n] w fun e w' => e = .returned (.tuple #[.nilIface, .bool false]) ∧ Below w.heap.size w w' := by
  have m1 := meth_top_32
  have t1 : decide (n < -2139095040) = false := by simp; omega
  have t2 : decide (2139095040 < n) = true := by simp; omega
  go_enter Tryz.func85, Tryz.ntmps85
  go_wp2_with (first | (go_at_call 76; refine (formOf_32 _).mono ?_; rintro e w1 ⟨rfl, hb1⟩) | go_in)
  go_ret2
  exact ⟨rfl, (by repeat (first | exact Below.refl _ _ | refine Below.drew ?_ | refine old_alloc ?_ _ | refine old_trans ?_ (by assumption)))⟩
theorem formWith_32_out (n : Int) (w : World) (h : ¬ (-2139095040 ≤ n ∧ n ≤ 2139095040)) :
    Calls Tryz.prog 85 #[.int .i64 32, .int .i64 n] w fun e w' => e = .returned (.tuple #[.nilIface, .bool false]) ∧ Below w.heap.size w w' := by
  by_cases h1 : n < -2139095040
  · exact formWith_32_lo n w h1
  · exact formWith_32_hi n w (by omega)
set_option maxHeartbeats 400000 in
theorem iBitTop_32 (w : World) :
    Calls Tryz.prog 35 #[.int .i64 32] w fun e w' => e = .returned (.int .i64 2139095040) ∧ Below w.heap.size w w' := by
  have m1 := meth_top_32
  go_enter Tryz.func35, Tryz.ntmps35
  go_wp2_with (first | (go_at_call 76; refine (formOf_32 _).mono ?_; rintro e w1 ⟨rfl, hb1⟩) | go_in)
  go_ret
  exact ⟨rfl, (by repeat (first | exact Below.refl _ _ | refine Below.drew ?_ | refine old_alloc ?_ _ | refine old_trans ?_ (by assumption)))⟩
set_option maxHeartbeats 400000 in
theorem sBitTop_32 (w : World) :
    Calls Tryz.prog 60 #[.int .i64 32] w fun e w' => e = .returned (.int .i64 2139095040) ∧ w' = w := by
  go_enter Tryz.func60, Tryz.ntmps60
  go_wp2
  go_ret
  exact ⟨rfl, rfl⟩
set_option maxHeartbeats 400000 in
theorem sBitOk_32 (n : Int) (w : World) (h1 : -2139095040 ≤ n) (h2 : n ≤ 2139095040) :
    Calls Tryz.prog 39 #[.int .i64 32, .int .i64 n] w fun e w' => e = .returned (.bool true) ∧ Below w.heap.size w w' := by
  have t1 : decide (-2139095040 ≤ n) = true := by simp; omega
  have t2 : decide (n ≤ 2139095040) = true := by simp; omega
  go_enter Tryz.func39, Tryz.ntmps39
  go_wp2
  go_ret
  exact ⟨rfl, (by repeat (first | exact Below.refl _ _ | refine Below.drew ?_ | refine old_alloc ?_ _ | refine old_trans ?_ (by assumption)))⟩
set_option maxHeartbeats 400000 in
theorem sBitOk_32_lo (n : Int) (w : World) (h1 : n < -2139095040) :
    Calls Tryz.prog 39 #[.int .i64 32, .int .i64 n] w fun e w' => e = .returned (.bool false) ∧ Below w.heap.size w w' := by
  have t1 : decide (-2139095040 ≤ n) = false := by simp; omega
  go_enter Tryz.func39, Tryz.ntmps39
  go_wp2
  go_ret
  exact ⟨rfl, (by repeat (first | exact Below.refl _ _ | refine Below.drew ?_ | refine old_alloc ?_ _ | refine old_trans ?_ (by assumption)))⟩
set_option maxHeartbeats 400000 in
theorem sBitOk_32_hi (n : Int) (w : World) (h1 : 2139095040 < n) :
    Calls Tryz.prog 39 #[.int .i64 32, .int .i64 n] w fun e w' => e = .returned (.bool false) ∧ Below w.heap.size w w' := by
  have t1 : decide (-2139095040 ≤ n) = true := by simp; omega
  have t2 : decide (n ≤ 2139095040) = false := by simp; omega
  go_enter Tryz.func39, Tryz.ntmps39
  go_wp2
  go_ret
  exact ⟨rfl, (by repeat (first | exact Below.refl _ _ | refine Below.drew ?_ | refine old_alloc ?_ _ | refine old_trans ?_ (by assumption)))⟩
theorem sBitOk_32_out (n : Int) (w : World) (h : ¬ (-2139095040 ≤ n ∧ n ≤ 2139095040)) :
    Calls Tryz.prog 39 #[.int .i64 32, .int .i64 n] w fun e w' => e = .returned (.bool false) ∧ Below w.heap.size w w' := by
  by_cases h1 : n < -2139095040
  · exact sBitOk_32_lo n w h1
  · exact sBitOk_32_hi n w (by omega)

set_option maxHeartbeats 400000 in
theorem formWith_64 (n : Int) (w : World) (h1 : -9218868437227405312 ≤ n) (h2 : n ≤ 9218868437227405312) :
    Calls Tryz.prog 85 #[.int .i64 64, .int .i64 n] w fun e w' => e = .returned (.tuple #[.iface 149 (.agg #[]), .bool true]) ∧ Below w.heap.size w w' := by
  have m1 := meth_top_64
  have t1 : decide (n < -9218868437227405312) = false := by simp; omega
  have t2 : decide (9218868437227405312 < n) = false := by simp; omega
  go_enter Tryz.func85, Tryz.ntmps85
  go_wp2_with (first | (go_at_call 76; refine (formOf_64 _).mono ?_; rintro e w1 ⟨rfl, hb1⟩) | go_in)
  go_ret2
  exact ⟨rfl, (by repeat (first | exact Below.refl _ _ | refine Below.drew ?_ | refine old_alloc ?_ _ | refine old_trans ?_ (by assumption)))⟩
set_option maxHeartbeats 400000 in
theorem formWith_64_lo (n : Int) (w : World) (h1 : n < -9218868437227405312) :
    Calls Tryz.prog 85 #[.int .i64 64, .int .i64 n] w fun e w' => e = .returned (.tuple #[.nilIface, .bool false]) ∧ Below w.heap.size w w' := by
  have m1 := meth_top_64
  have t1 : decide (n < -9218868437227405312) = true := by simp; omega
  go_enter Tryz.func85, Tryz.ntmps85
  go_wp2_with (first | (go_at_call 76; refine (formOf_64 _).mono ?_; rintro e w1 ⟨rfl, hb1⟩) | go_in)
  go_ret2
  exact ⟨rfl, (by repeat (first | exact Below.refl _ _ | refine Below.drew ?_ | refine old_alloc ?_ _ | refine old_trans ?_ (by assumption)))⟩
set_option maxHeartbeats 400000 in
theorem formWith_64_hi (n : Int) (w : World) (h1 : 9218868437227405312 < n) :
    Calls Tryz.prog 85 #[.int .i64 64, .int .i64 n] w fun e w' => e = .returned (.tuple #[.nilIface, .bool false]) ∧ Below w.heap.size w w' := by
  have m1 := meth_top_64
  have t1 : decide (n < -9218868437227405312) = false := by simp; omega
  have t2 : decide (9218868437227405312 < n) = true := by simp; omega
  go_enter Tryz.func85, Tryz.ntmps85
  go_wp2_with (first | (go_at_call 76; refine (formOf_64 _).mono ?_; rintro e w1 ⟨rfl, hb1⟩) | go_in)
  go_ret2
  exact ⟨rfl, (by repeat (first | exact Below.refl _ _ | refine Below.drew ?_ | refine old_alloc ?_ _ | refine old_trans ?_ (by assumption)))⟩
theorem formWith_64_out (n : Int) (w : World) (h : ¬ (-9218868437227405312 ≤ n ∧ n ≤ 9218868437227405312)) :
    Calls Tryz.prog 85 #[.int .i64 64, .int .i64 n] w fun e w' => e = .returned (.tuple #[.nilIface, .bool false]) ∧ Below w.heap.size w w' := by
  by_cases h1 : n < -9218868437227405312
  · exact formWith_64_lo n w h1
  · exact formWith_64_hi n w (by omega)
set_option maxHeartbeats 400000 in
theorem iBitTop_64 (w : World) :
    Calls Tryz.prog 35 #[.int .i64 64] w fun e w' => e = .returned (.int .i64 9218868437227405312) ∧ Below w.heap.size w w' := by
  have m1 := meth_top_64
  go_enter Tryz.func35, Tryz.ntmps35
  go_wp2_with (first | (go_at_call 76; refine (formOf_64 _).mono ?_; rintro e w1 ⟨rfl, hb1⟩) | go_in)
  go_ret
  exact ⟨rfl, (by repeat (first | exact Below.refl _ _ | refine Below.drew ?_ | refine old_alloc ?_ _ | refine old_trans ?_ (by assumption)))⟩
set_option maxHeartbeats 400000 in
theorem sBitTop_64 (w : World) :
    Calls Tryz.prog 60 #[.int .i64 64] w fun e w' => e = .returned (.int .i64 9218868437227405312) ∧ w' = w := by
  go_enter Tryz.func60, Tryz.ntmps60
  go_wp2
  go_ret
  exact ⟨rfl, rfl⟩
set_option maxHeartbeats 400000 in
theorem sBitOk_64 (n : Int) (w : World) (h1 : -9218868437227405312 ≤ n) (h2 : n ≤ 9218868437227405312) :
    Calls Tryz.prog 39 #[.int .i64 64, .int .i64 n] w fun e w' => e = .returned (.bool true) ∧ Below w.heap.size w w' := by
  have t1 : decide (-9218868437227405312 ≤ n) = true := by simp; omega
  have t2 : decide (n ≤ 9218868437227405312) = true := by simp; omega
  go_enter Tryz.func39, Tryz.ntmps39
  go_wp2
  go_ret
  exact ⟨rfl, (by repeat (first | exact Below.refl _ _ | refine Below.drew ?_ | refine old_alloc ?_ _ | refine old_trans ?_ (by assumption)))⟩
set_option maxHeartbeats 400000 in
theorem sBitOk_64_lo (n : Int) (w : World) (h1 : n < -9218868437227405312) :
    Calls Tryz.prog 39 #[.int .i64 64, .int .i64 n] w fun e w' => e = .returned (.bool false) ∧ Below w.heap.size w w' := by
  have t1 : decide (-9218868437227405312 ≤ n) = false := by simp; omega
  go_enter Tryz.func39, Tryz.ntmps39
  go_wp2
  go_ret
  exact ⟨rfl, (by repeat (first | exact Below.refl _ _ | refine Below.drew ?_ | refine old_alloc ?_ _ | refine old_trans ?_ (by assumption)))⟩
set_option maxHeartbeats 400000 in
theorem sBitOk_64_hi (n : Int) (w : World) (h1 : 9218868437227405312 < n) :
    Calls Tryz.prog 39 #[.int .i64 64, .int .i64 n] w fun e w' => e = .returned (.bool false) ∧ Below w.heap.size w w' := by
  have t1 : decide (-9218868437227405312 ≤ n) = true := by simp; omega
  have t2 : decide (n ≤ 9218868437227405312) = false := by simp; omega
  go_enter Tryz.func39, Tryz.ntmps39
  go_wp2
  go_ret
  exact ⟨rfl, (by repeat (first | exact Below.refl _ _ | refine Below.drew ?_ | refine old_alloc ?_ _ | refine old_trans ?_ (by assumption)))⟩
theorem sBitOk_64_out (n : Int) (w : World) (h : ¬ (-9218868437227405312 ≤ n ∧ n ≤ 9218868437227405312)) :
    Calls Tryz.prog 39 #[.int .i64 64, .int .i64 n] w fun e w' => e = .returned (.bool false) ∧ Below w.heap.size w w' := by
  by_cases h1 : n < -9218868437227405312
  · exact sBitOk_64_lo n w h1
  · exact sBitOk_64_hi n w (by omega)

set_option maxHeartbeats 400000 in
theorem formWith_no (wd n : Int) (w : World) (h1 : wd ≠ 32) (h2 : wd ≠ 64) :
    Calls Tryz.prog 85 #[.int .i64 wd, .int .i64 n] w fun e w' => e = .returned (.tuple #[.nilIface, .bool false]) ∧ Below w.heap.size w w' := by
  have t1 : (32 == wd) = false := by simp; omega
  have t2 : (64 == wd) = false := by simp; omega
  go_enter Tryz.func85, Tryz.ntmps85
  go_wp2_with (first | (go_at_call 76; refine (formOf_no wd _ t1 t2).mono ?_; rintro e w1 ⟨rfl, hb1⟩) | go_in)
  go_ret2
  exact ⟨rfl, (by repeat (first | exact Below.refl _ _ | refine Below.drew ?_ | refine old_alloc ?_ _ | refine old_trans ?_ (by assumption)))⟩
set_option maxHeartbeats 400000 in
theorem iBitTop_no (wd : Int) (w : World) (h1 : wd ≠ 32) (h2 : wd ≠ 64) :
    Calls Tryz.prog 35 #[.int .i64 wd] w fun e w' => e = .returned (.int .i64 0) ∧ Below w.heap.size w w' := by
  have t1 : (32 == wd) = false := by simp; omega
  have t2 : (64 == wd) = false := by simp; omega
  go_enter Tryz.func35, Tryz.ntmps35
  go_wp2_with (first | (go_at_call 76; refine (formOf_no wd _ t1 t2).mono ?_; rintro e w1 ⟨rfl, hb1⟩) | go_in)
  go_ret
  exact ⟨rfl, (by repeat (first | exact Below.refl _ _ | refine Below.drew ?_ | refine old_alloc ?_ _ | refine old_trans ?_ (by assumption)))⟩
set_option maxHeartbeats 400000 in
theorem sBitTop_no (wd : Int) (w : World) (h1 : wd ≠ 32) (h2 : wd ≠ 64) :
    Calls Tryz.prog 60 #[.int .i64 wd] w fun e w' => e = .returned (.int .i64 0) ∧ w' = w := by
  have t1 : (wd == 32) = false := by simp; omega
  have t2 : (wd == 64) = false := by simp; omega
  go_enter Tryz.func60, Tryz.ntmps60
  go_wp2
  go_ret
  exact ⟨rfl, rfl⟩
set_option maxHeartbeats 400000 in
theorem sBitOk_no (wd n : Int) (w : World) (h1 : wd ≠ 32) (h2 : wd ≠ 64) :
    Calls Tryz.prog 39 #[.int .i64 wd, .int .i64 n] w fun e w' => e = .returned (.bool false) ∧ Below w.heap.size w w' := by
  have t1 : (wd == 32) = false := by simp; omega
  have t2 : (wd == 64) = false := by simp; omega
  go_enter Tryz.func39, Tryz.ntmps39
  go_wp2
  go_ret
  exact ⟨rfl, (by repeat (first | exact Below.refl _ _ | refine Below.drew ?_ | refine old_alloc ?_ _ | refine old_trans ?_ (by assumption)))⟩
end Go.Proofs.YtpjababikpakoaaGreatDoor
