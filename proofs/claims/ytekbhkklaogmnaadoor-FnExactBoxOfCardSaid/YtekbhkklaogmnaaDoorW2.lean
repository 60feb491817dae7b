/- Contracts of the methods of a form, of formWith and of BitTop: what each call returns at each width; nothing that was there is written. -/
import Derived.Test.YtekbhkklaogmnaaDoorW1
namespace Go.Proofs.YtekbhkklaogmnaaDoor
open Go.RowKit

theorem meth_fraction_32 (w : World) : (method 233 77 (.agg #[]) "loop.example/pinfold/impl.fraction").run Tryd.prog w = .ok (65, .agg #[]) w := by kernel_rfl
theorem meth_least_32 (w : World) : (method 233 77 (.agg #[]) "loop.example/pinfold/impl.least").run Tryd.prog w = .ok (66, .agg #[]) w := by kernel_rfl
theorem meth_sign_32 (w : World) : (method 233 77 (.agg #[]) "loop.example/pinfold/impl.sign").run Tryd.prog w = .ok (67, .agg #[]) w := by kernel_rfl
theorem meth_top_32 (w : World) : (method 233 77 (.agg #[]) "loop.example/pinfold/impl.top").run Tryd.prog w = .ok (68, .agg #[]) w := by kernel_rfl
theorem meth_fraction_64 (w : World) : (method 233 80 (.agg #[]) "loop.example/pinfold/impl.fraction").run Tryd.prog w = .ok (69, .agg #[]) w := by kernel_rfl
theorem meth_least_64 (w : World) : (method 233 80 (.agg #[]) "loop.example/pinfold/impl.least").run Tryd.prog w = .ok (70, .agg #[]) w := by kernel_rfl
theorem meth_sign_64 (w : World) : (method 233 80 (.agg #[]) "loop.example/pinfold/impl.sign").run Tryd.prog w = .ok (71, .agg #[]) w := by kernel_rfl
theorem meth_top_64 (w : World) : (method 233 80 (.agg #[]) "loop.example/pinfold/impl.top").run Tryd.prog w = .ok (72, .agg #[]) w := by kernel_rfl

set_option maxHeartbeats 400000 in
theorem formWith_32 (n : Int) (w : World) (h1 : -2139095040 ≤ n) (h2 : n ≤ 2139095040) :
    Calls Tryd.prog 43 #[.int .i64 32, .int .i64 n] w fun e w' => e = .returned (.tuple #[.iface 77 (.agg #[]), .bool true]) ∧ Below w.heap.size w w' := by
  have m1 := meth_top_32
  have t1 : decide (n < -2139095040) = false := by simp; omega
  have t2 : decide (2139095040 < n) = false := by simp; omega
  go_enter Tryd.func43, Tryd.ntmps43
  go_wp2_with (first | (go_at_call 22; refine (formOf_32 _).mono ?_; rintro e w1 ⟨rfl, hb1⟩) | go_in)
  go_ret2
  exact ⟨rfl, (by repeat (first | exact Below.refl _ _ | refine Below.drew ?_ | refine old_alloc ?_ _ | refine old_trans ?_ (by assumption)))⟩
set_option maxHeartbeats 400000 in
theorem formWith_32_lo (n : Int) (w : World) (h1 : n < -2139095040) :
    Calls Tryd.prog 43 #[.int .i64 32, .int .i64 n] w fun e w' => e = .returned (.tuple #[.nilIface, .bool false]) ∧ Below w.heap.size w w' := by
  have m1 := meth_top_32
  have t1 : decide (n < -2139095040) = true := by simp; omega
  go_enter Tryd.func43, Tryd.ntmps43
  go_wp2_with (first | (go_at_call 22; refine (formOf_32 _).mono ?_; rintro e w1 ⟨rfl, hb1⟩) | go_in)
  go_ret2
  exact ⟨rfl, (by repeat (first | exact Below.refl _ _ | refine Below.drew ?_ | refine old_alloc ?_ _ | refine old_trans ?_ (by assumption)))⟩
set_option maxHeartbeats 400000 in
theorem formWith_32_hi (n : Int) (w : World) (h1 : 2139095040 < n) :
    Calls Tryd.prog 43 #[.int .i64 32, .int .i64 n] w fun e w' => e = .returned (.tuple #[.nilIface, .bool false]) ∧ Below w.heap.size w w' := by
  have m1 := meth_top_32
  have t1 : decide (n < -2139095040) = false := by simp; omega
  have t2 : decide (2139095040 < n) = true := by simp; omega
  go_enter Tryd.func43, Tryd.ntmps43
  go_wp2_with (first | (go_at_call 22; refine (formOf_32 _).mono ?_; rintro e w1 ⟨rfl, hb1⟩) | go_in)
  go_ret2
  exact ⟨rfl, (by repeat (first | exact Below.refl _ _ | refine Below.drew ?_ | refine old_alloc ?_ _ | refine old_trans ?_ (by assumption)))⟩
theorem formWith_32_out (n : Int) (w : World) (h : ¬ (-2139095040 ≤ n ∧ n ≤ 2139095040)) :
    Calls Tryd.prog 43 #[.int .i64 32, .int .i64 n] w fun e w' => e = .returned (.tuple #[.nilIface, .bool false]) ∧ Below w.heap.size w w' := by
  by_cases h1 : n < -2139095040
  · exact formWith_32_lo n w h1
  · exact formWith_32_hi n w (by omega)
set_option maxHeartbeats 400000 in
theorem iBitTop_32 (w : World) :
    Calls Tryd.prog 40 #[.int .i64 32] w fun e w' => e = .returned (.int .i64 2139095040) ∧ Below w.heap.size w w' := by
  have m1 := meth_top_32
  go_enter Tryd.func40, Tryd.ntmps40
  go_wp2_with (first | (go_at_call 22; refine (formOf_32 _).mono ?_; rintro e w1 ⟨rfl, hb1⟩) | go_in)
  go_ret
  exact ⟨rfl, (by repeat (first | exact Below.refl _ _ | refine Below.drew ?_ | refine old_alloc ?_ _ | refine old_trans ?_ (by assumption)))⟩
set_option maxHeartbeats 400000 in
theorem sBitTop_32 (w : World) :
    Calls Tryd.prog 20 #[.int .i64 32] w fun e w' => e = .returned (.int .i64 2139095040) ∧ w' = w := by
  go_enter Tryd.func20, Tryd.ntmps20
  go_wp2
  go_ret
  exact ⟨rfl, rfl⟩
set_option maxHeartbeats 400000 in
theorem sBitOk_32 (n : Int) (w : World) (h1 : -2139095040 ≤ n) (h2 : n ≤ 2139095040) :
    Calls Tryd.prog 32 #[.int .i64 32, .int .i64 n] w fun e w' => e = .returned (.bool true) ∧ Below w.heap.size w w' := by
  have t1 : decide (-2139095040 ≤ n) = true := by simp; omega
  have t2 : decide (n ≤ 2139095040) = true := by simp; omega
  go_enter Tryd.func32, Tryd.ntmps32
  go_wp2
  go_ret
  exact ⟨rfl, (by repeat (first | exact Below.refl _ _ | refine Below.drew ?_ | refine old_alloc ?_ _ | refine old_trans ?_ (by assumption)))⟩
set_option maxHeartbeats 400000 in
theorem sBitOk_32_lo (n : Int) (w : World) (h1 : n < -2139095040) :
    Calls Tryd.prog 32 #[.int .i64 32, .int .i64 n] w fun e w' => e = .returned (.bool false) ∧ Below w.heap.size w w' := by
  have t1 : decide (-2139095040 ≤ n) = false := by simp; omega
  go_enter Tryd.func32, Tryd.ntmps32
  go_wp2
  go_ret
  exact ⟨rfl, (by repeat (first | exact Below.refl _ _ | refine Below.drew ?_ | refine old_alloc ?_ _ | refine old_trans ?_ (by assumption)))⟩
set_option maxHeartbeats 400000 in
theorem sBitOk_32_hi (n : Int) (w : World) (h1 : 2139095040 < n) :
    Calls Tryd.prog 32 #[.int .i64 32, .int .i64 n] w fun e w' => e = .returned (.bool false) ∧ Below w.heap.size w w' := by
  have t1 : decide (-2139095040 ≤ n) = true := by simp; omega
  have t2 : decide (n ≤ 2139095040) = false := by simp; omega
  go_enter Tryd.func32, Tryd.ntmps32
  go_wp2
  go_ret
  exact ⟨rfl, (by repeat (first | exact Below.refl _ _ | refine Below.drew ?_ | refine old_alloc ?_ _ | refine old_trans ?_ (by assumption)))⟩
theorem sBitOk_32_out (n : Int) (w : World) (h : ¬ (-2139095040 ≤ n ∧ n ≤ 2139095040)) :
    Calls Tryd.prog 32 #[.int .i64 32, .int .i64 n] w fun e w' => e = .returned (.bool false) ∧ Below w.heap.size w w' := by
  by_cases h1 : n < -2139095040
  · exact sBitOk_32_lo n w h1
  · exact sBitOk_32_hi n w (by omega)

set_option maxHeartbeats 400000 in
theorem formWith_64 (n : Int) (w : World) (h1 : -9218868437227405312 ≤ n) (h2 : n ≤ 9218868437227405312) :
    Calls Tryd.prog 43 #[.int .i64 64, .int .i64 n] w fun e w' => e = .returned (.tuple #[.iface 80 (.agg #[]), .bool true]) ∧ Below w.heap.size w w' := by
  have m1 := meth_top_64
  have t1 : decide (n < -9218868437227405312) = false := by simp; omega
  have t2 : decide (9218868437227405312 < n) = false := by simp; omega
  go_enter Tryd.func43, Tryd.ntmps43
  go_wp2_with (first | (go_at_call 22; refine (formOf_64 _).mono ?_; rintro e w1 ⟨rfl, hb1⟩) | go_in)
  go_ret2
  exact ⟨rfl, (by repeat (first | exact Below.refl _ _ | refine Below.drew ?_ | refine old_alloc ?_ _ | refine old_trans ?_ (by assumption)))⟩
set_option maxHeartbeats 400000 in
theorem formWith_64_lo (n : Int) (w : World) (h1 : n < -9218868437227405312) :
    Calls Tryd.prog 43 #[.int .i64 64, .int .i64 n] w fun e w' => e = .returned (.tuple #[.nilIface, .bool false]) ∧ Below w.heap.size w w' := by
  have m1 := meth_top_64
  have t1 : decide (n < -9218868437227405312) = true := by simp; omega
  go_enter Tryd.func43, Tryd.ntmps43
  go_wp2_with (first | (go_at_call 22; refine (formOf_64 _).mono ?_; rintro e w1 ⟨rfl, hb1⟩) | go_in)
  go_ret2
  exact ⟨rfl, (by repeat (first | exact Below.refl _ _ | refine Below.drew ?_ | refine old_alloc ?_ _ | refine old_trans ?_ (by assumption)))⟩
set_option maxHeartbeats 400000 in
theorem formWith_64_hi (n : Int) (w : World) (h1 : 9218868437227405312 < n) :
    Calls Tryd.prog 43 #[.int .i64 64, .int .i64 n] w fun e w' => e = .returned (.tuple #[.nilIface, .bool false]) ∧ Below w.heap.size w w' := by
  have m1 := meth_top_64
  have t1 : decide (n < -9218868437227405312) = false := by simp; omega
  have t2 : decide (9218868437227405312 < n) = true := by simp; omega
  go_enter Tryd.func43, Tryd.ntmps43
  go_wp2_with (first | (go_at_call 22; refine (formOf_64 _).mono ?_; rintro e w1 ⟨rfl, hb1⟩) | go_in)
  go_ret2
  exact ⟨rfl, (by repeat (first | exact Below.refl _ _ | refine Below.drew ?_ | refine old_alloc ?_ _ | refine old_trans ?_ (by assumption)))⟩
theorem formWith_64_out (n : Int) (w : World) (h : ¬ (-9218868437227405312 ≤ n ∧ n ≤ 9218868437227405312)) :
    Calls Tryd.prog 43 #[.int .i64 64, .int .i64 n] w fun e w' => e = .returned (.tuple #[.nilIface, .bool false]) ∧ Below w.heap.size w w' := by
  by_cases h1 : n < -9218868437227405312
  · exact formWith_64_lo n w h1
  · exact formWith_64_hi n w (by omega)
set_option maxHeartbeats 400000 in
theorem iBitTop_64 (w : World) :
    Calls Tryd.prog 40 #[.int .i64 64] w fun e w' => e = .returned (.int .i64 9218868437227405312) ∧ Below w.heap.size w w' := by
  have m1 := meth_top_64
  go_enter Tryd.func40, Tryd.ntmps40
  go_wp2_with (first | (go_at_call 22; refine (formOf_64 _).mono ?_; rintro e w1 ⟨rfl, hb1⟩) | go_in)
  go_ret
  exact ⟨rfl, (by repeat (first | exact Below.refl _ _ | refine Below.drew ?_ | refine old_alloc ?_ _ | refine old_trans ?_ (by assumption)))⟩
set_option maxHeartbeats 400000 in
theorem sBitTop_64 (w : World) :
    Calls Tryd.prog 20 #[.int .i64 64] w fun e w' => e = .returned (.int .i64 9218868437227405312) ∧ w' = w := by
  go_enter Tryd.func20, Tryd.ntmps20
  go_wp2
  go_ret
  exact ⟨rfl, rfl⟩
set_option maxHeartbeats 400000 in
theorem sBitOk_64 (n : Int) (w : World) (h1 : -9218868437227405312 ≤ n) (h2 : n ≤ 9218868437227405312) :
    Calls Tryd.prog 32 #[.int .i64 64, .int .i64 n] w fun e w' => e = .returned (.bool true) ∧ Below w.heap.size w w' := by
  have t1 : decide (-9218868437227405312 ≤ n) = true := by simp; omega
  have t2 : decide (n ≤ 9218868437227405312) = true := by simp; omega
  go_enter Tryd.func32, Tryd.ntmps32
  go_wp2
  go_ret
  exact ⟨rfl, (by repeat (first | exact Below.refl _ _ | refine Below.drew ?_ | refine old_alloc ?_ _ | refine old_trans ?_ (by assumption)))⟩
set_option maxHeartbeats 400000 in
theorem sBitOk_64_lo (n : Int) (w : World) (h1 : n < -9218868437227405312) :
    Calls Tryd.prog 32 #[.int .i64 64, .int .i64 n] w fun e w' => e = .returned (.bool false) ∧ Below w.heap.size w w' := by
  have t1 : decide (-9218868437227405312 ≤ n) = false := by simp; omega
  go_enter Tryd.func32, Tryd.ntmps32
  go_wp2
  go_ret
  exact ⟨rfl, (by repeat (first | exact Below.refl _ _ | refine Below.drew ?_ | refine old_alloc ?_ _ | refine old_trans ?_ (by assumption)))⟩
set_option maxHeartbeats 400000 in
theorem sBitOk_64_hi (n : Int) (w : World) (h1 : 9218868437227405312 < n) :
    Calls Tryd.prog 32 #[.int .i64 64, .int .i64 n] w fun e w' => e = .returned (.bool false) ∧ Below w.heap.size w w' := by
  have t1 : decide (-9218868437227405312 ≤ n) = true := by simp; omega
  have t2 : decide (n ≤ 9218868437227405312) = false := by simp; omega
  go_enter Tryd.func32, Tryd.ntmps32
  go_wp2
  go_ret
  exact ⟨rfl, (by repeat (first | exact Below.refl _ _ | refine Below.drew ?_ | refine old_alloc ?_ _ | refine old_trans ?_ (by assumption)))⟩
theorem sBitOk_64_out (n : Int) (w : World) (h : ¬ (-9218868437227405312 ≤ n ∧ n ≤ 9218868437227405312)) :
    Calls Tryd.prog 32 #[.int .i64 64, .int .i64 n] w fun e w' => e = .returned (.bool false) ∧ Below w.heap.size w w' := by
  by_cases h1 : n < -9218868437227405312
  · exact sBitOk_64_lo n w h1
  · exact sBitOk_64_hi n w (by omega)

set_option maxHeartbeats 400000 in
theorem formWith_no (wd n : Int) (w : World) (h1 : wd ≠ 32) (h2 : wd ≠ 64) :
    Calls Tryd.prog 43 #[.int .i64 wd, .int .i64 n] w fun e w' => e = .returned (.tuple #[.nilIface, .bool false]) ∧ Below w.heap.size w w' := by
  have t1 : (32 == wd) = false := by simp; omega
  have t2 : (64 == wd) = false := by simp; omega
  go_enter Tryd.func43, Tryd.ntmps43
  go_wp2_with (first | (go_at_call 22; refine (formOf_no wd _ t1 t2).mono ?_; rintro e w1 ⟨rfl, hb1⟩) | go_in)
  go_ret2
  exact ⟨rfl, (by repeat (first | exact Below.refl _ _ | refine Below.drew ?_ | refine old_alloc ?_ _ | refine old_trans ?_ (by assumption)))⟩
set_option maxHeartbeats 400000 in
theorem iBitTop_no (wd : Int) (w : World) (h1 : wd ≠ 32) (h2 : wd ≠ 64) :
    Calls Tryd.prog 40 #[.int .i64 wd] w fun e w' => e = .returned (.int .i64 0) ∧ Below w.heap.size w w' := by
  have t1 : (32 == wd) = false := by simp; omega
  have t2 : (64 == wd) = false := by simp; omega
  go_enter Tryd.func40, Tryd.ntmps40
  go_wp2_with (first | (go_at_call 22; refine (formOf_no wd _ t1 t2).mono ?_; rintro e w1 ⟨rfl, hb1⟩) | go_in)
  go_ret
  exact ⟨rfl, (by repeat (first | exact Below.refl _ _ | refine Below.drew ?_ | refine old_alloc ?_ _ | refine old_trans ?_ (by assumption)))⟩
set_option maxHeartbeats 400000 in
theorem sBitTop_no (wd : Int) (w : World) (h1 : wd ≠ 32) (h2 : wd ≠ 64) :
    Calls Tryd.prog 20 #[.int .i64 wd] w fun e w' => e = .returned (.int .i64 0) ∧ w' = w := by
  have t1 : (wd == 32) = false := by simp; omega
  have t2 : (wd == 64) = false := by simp; omega
  go_enter Tryd.func20, Tryd.ntmps20
  go_wp2
  go_ret
  exact ⟨rfl, rfl⟩
set_option maxHeartbeats 400000 in
theorem sBitOk_no (wd n : Int) (w : World) (h1 : wd ≠ 32) (h2 : wd ≠ 64) :
    Calls Tryd.prog 32 #[.int .i64 wd, .int .i64 n] w fun e w' => e = .returned (.bool false) ∧ Below w.heap.size w w' := by
  have t1 : (wd == 32) = false := by simp; omega
  have t2 : (wd == 64) = false := by simp; omega
  go_enter Tryd.func32, Tryd.ntmps32
  go_wp2
  go_ret
  exact ⟨rfl, (by repeat (first | exact Below.refl _ _ | refine Below.drew ?_ | refine old_alloc ?_ _ | refine old_trans ?_ (by assumption)))⟩
end Go.Proofs.YtekbhkklaogmnaaDoor
