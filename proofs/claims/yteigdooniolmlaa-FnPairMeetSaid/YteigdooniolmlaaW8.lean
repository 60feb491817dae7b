/- Contracts of the program's widened and BitWiden: a narrow float among the wide ones is 'widI'; nothing that was there is written. -/
import Derived.Test.YteigdooniolmlaaW3
import Derived.Test.YteigdooniolmlaaW4
import Derived.Test.YteigdooniolmlaaW6
import Derived.Test.YteigdooniolmlaaM2
namespace Go.Proofs.Yteigdooniolmlaa
open Go.RowKit

theorem call73 (n : Int) (w : World) : (callFunc 75 #[.int .u32 n]).run Try.prog w = .ok (.value (.float .f32 n.toNat)) w := by
  rw [run_callFunc_extern (e := Extern.MathFloatBits.float32frombits) Try.func75 (by kernel_rfl) (by kernel_rfl) (by kernel_rfl) (by kernel_rfl)]; rfl
theorem call74 (n : Nat) (w : World) : (callFunc 78 #[.float .f64 n]).run Try.prog w = .ok (.value (.int .u64 n)) w := by
  rw [run_callFunc_extern (e := Extern.MathFloatBits.float64bits) Try.func78 (by kernel_rfl) (by kernel_rfl) (by kernel_rfl) (by kernel_rfl)]; rfl
theorem call77 (n : Int) (w : World) : (callFunc 79 #[.int .u64 n]).run Try.prog w = .ok (.value (.float .f64 n.toNat)) w := by
  rw [run_callFunc_extern (e := Extern.MathFloatBits.float64frombits) Try.func79 (by kernel_rfl) (by kernel_rfl) (by kernel_rfl) (by kernel_rfl)]; rfl
theorem call78 (n : Nat) (w : World) : (callFunc 80 #[.float .f32 n]).run Try.prog w = .ok (.value (.int .u32 n)) w := by
  rw [run_callFunc_extern (e := Extern.MathFloatBits.float32bits) Try.func80 (by kernel_rfl) (by kernel_rfl) (by kernel_rfl) (by kernel_rfl)]; rfl

set_option maxHeartbeats 400000 in
theorem widened_core (n b v : Int) (X : Nat) (h1 : -2139095040 ≤ n) (h2 : n ≤ 2139095040) (hb : bitsI 2147483648 n = b) (b0 : 0 ≤ b) (b1 : b < 4294967296)
    (hcv : floatToFloatBits .f32 b.toNat .f64 = some X) (hX : Hid (X < 18446744073709551616)) (hv : Hid (ordN 9223372036854775808 9218868437227405312 X = v)) (w : World) :
    Calls Try.prog 66 #[.int .i64 n] w fun e w' => e = .returned (.int .i64 v) ∧ Below w.heap.size w w' := by
  have c1 := call73
  have c2 := call74
  have cv : ∀ w, (convert 85 90 (.float .f32 b.toNat)).run Try.prog w = .ok (.float .f64 X) w := fun w => run_convert_float_float w 85 90 .f32 .f64 _ _ (by kernel_rfl) (by kernel_rfl) hcv
  clear hcv
  go_enter Try.func66, Try.ntmps66
  go_wp2_with (first | (go_at_call 76; refine (iBitBits_32 n h1 h2 _).mono ?_; rintro e w1 ⟨rfl, hb1⟩) | (go_at_call 77; refine (iBitOrd_64 X (by omega) (by have := hX.out; omega) _).mono ?_; rintro e w2 ⟨rfl, hb2⟩))
  go_ret
  exact ⟨ret_int hv.out, (by repeat (first | exact Below.refl _ _ | refine Below.drew ?_ | refine old_alloc ?_ _ | refine old_trans ?_ (by assumption)))⟩

theorem bitsI_word (n : Int) (h1 : -2139095040 ≤ n) (h2 : n ≤ 2139095040) : (bitsI 2147483648 n).toNat = Ieee.single.word (decide (n < 0)) (if n < 0 then (-n).toNat else n.toNat) := by
  have hs : Ieee.single.signWeight = 2147483648 := by decide
  unfold bitsI Ieee.Format.word
  rw [hs]
  by_cases h : n < 0
  · simp only [h, decide_true, if_true]; omega
  · simp only [h, decide_false]; simp

theorem ord_word (neg : Bool) (R : Nat) (h : R ≤ 9218868437227405312) : ordN 9223372036854775808 9218868437227405312 (Ieee.double.word neg R : Nat) = if neg then -(R : Int) else R := by
  have hs : Ieee.double.signWeight = 9223372036854775808 := by decide
  unfold ordN Ieee.Format.word
  rw [hs]
  cases neg
  · simp only [Bool.false_eq_true, if_false]
    (repeat' split) <;> omega
  · simp only [if_true]
    (repeat' split) <;> omega

theorem iWidened (n : Int) (h1 : -2139095040 ≤ n) (h2 : n ≤ 2139095040) (w : World) :
    Calls Try.prog 66 #[.int .i64 n] w fun e w' => e = .returned (.int .i64 (widI n)) ∧ Below w.heap.size w w' := by
  have hr : (if n < 0 then (-n).toNat else n.toNat) ≤ 2139095040 := by split <;> omega
  have hw := bitsI_word n h1 h2
  have hb := wid_bd hr
  have hc := f2f_widen (decide (n < 0)) _ hr
  rw [← hw] at hc
  have hd : Ieee.double.signWeight = 9223372036854775808 := by decide
  refine widened_core n _ _ _ h1 h2 rfl (by unfold bitsI; split <;> omega) (by unfold bitsI; split <;> omega) hc ?_ ?_ w
  · show _ < _
    unfold Ieee.Format.word
    rw [hd]
    split <;> omega
  · show _ = _
    rw [ord_word _ _ hb]
    unfold widI
    by_cases h : n < 0
    · simp only [h, decide_true, if_true]
    · simp only [h, decide_false]; simp

set_option maxHeartbeats 400000 in
theorem iBitWiden (n : Int) (h1 : -2139095040 ≤ n) (h2 : n ≤ 2139095040) (w : World) :
    Calls Try.prog 57 #[.int .i64 n] w fun e w' => e = .returned (.tuple #[.int .i64 (widI n), .bool true]) ∧ Below w.heap.size w w' := by
  go_enter Try.func57, Try.ntmps57
  go_wp2_with (first | (go_at_call 43; refine (iBitOk_32 n h1 h2 _).mono ?_; rintro e w1 ⟨rfl, hb1⟩) | (go_at_call 66; refine (iWidened n h1 h2 _).mono ?_; rintro e w2 ⟨rfl, hb2⟩))
  go_ret2
  exact ⟨rfl, (by repeat (first | exact Below.refl _ _ | refine Below.drew ?_ | refine old_alloc ?_ _ | refine old_trans ?_ (by assumption)))⟩
set_option maxHeartbeats 400000 in
theorem iBitWiden_out (n : Int) (h : ¬ (-2139095040 ≤ n ∧ n ≤ 2139095040)) (w : World) :
    Calls Try.prog 57 #[.int .i64 n] w fun e w' => e = .returned (.tuple #[.int .i64 0, .bool false]) ∧ Below w.heap.size w w' := by
  go_enter Try.func57, Try.ntmps57
  go_wp2_with (go_at_call 43; refine (iBitOk_32_out n h _).mono ?_; rintro e w1 ⟨rfl, hb1⟩)
  go_ret2
  exact ⟨rfl, (by repeat (first | exact Below.refl _ _ | refine Below.drew ?_ | refine old_alloc ?_ _ | refine old_trans ?_ (by assumption)))⟩
end Go.Proofs.Yteigdooniolmlaa
