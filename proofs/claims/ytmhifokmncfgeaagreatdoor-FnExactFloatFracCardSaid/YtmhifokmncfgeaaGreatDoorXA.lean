/- The width of the values of either kind of floats, told by their size, and a float as the language has it: its bits are BitBits'; nothing that was there is written. No condition. -/
import Derived.Test.YtmhifokmncfgeaaGreatDoorW4
import Derived.Test.YtmhifokmncfgeaaGreatDoorN0
namespace Go.Proofs.YtmhifokmncfgeaaGreatDoor
open Go.RowKit
set_option linter.unusedVariables false
set_option maxRecDepth 100000

theorem cvI32 (w : World) : (convert 3 223 (.int .i64 16777217)).run Tryz.prog w = .ok (.float .f32 1266679808) w := by kernel_rfl
theorem cv3264 (w : World) : (convert 223 228 (.float .f32 1266679808)).run Tryz.prog w = .ok (.float .f64 4715268809856909312) w := by kernel_rfl
theorem cvI64 (w : World) : (convert 3 228 (.int .i64 16777217)).run Tryz.prog w = .ok (.float .f64 4715268810125344768) w := by kernel_rfl
theorem iWidth32 (v : Value) (w : World) :
    Calls Tryz.prog 170 #[v] w fun e w' => e = .returned (.int .i64 32) ∧ w' = w := by
  have c1 := cvI32
  have c2 := cv3264
  go_enter Tryz.func170, Tryz.ntmps170
  go_wp2
  go_ret
  exact ⟨rfl, rfl⟩
theorem iWidth64 (v : Value) (w : World) :
    Calls Tryz.prog 197 #[v] w fun e w' => e = .returned (.int .i64 64) ∧ w' = w := by
  have c1 := cvI64
  go_enter Tryz.func197, Tryz.ntmps197
  go_wp2
  go_ret
  exact ⟨rfl, rfl⟩
theorem frombits32 (n : Int) (w : World) : (callFunc 185 #[.int .u32 n]).run Tryz.prog w = .ok (.value (.float .f32 n.toNat)) w := by
  rw [run_callFunc_extern (e := Extern.MathFloatBits.float32frombits) Tryz.func185 (by kernel_rfl) (by kernel_rfl) (by kernel_rfl) (by kernel_rfl)]; rfl
theorem frombits64 (n : Int) (w : World) : (callFunc 186 #[.int .u64 n]).run Tryz.prog w = .ok (.value (.float .f64 n.toNat)) w := by
  rw [run_callFunc_extern (e := Extern.MathFloatBits.float64frombits) Tryz.func186 (by kernel_rfl) (by kernel_rfl) (by kernel_rfl) (by kernel_rfl)]; rfl
theorem bits64 (n : Nat) (w : World) : (callFunc 176 #[.float .f64 n]).run Tryz.prog w = .ok (.value (.int .u64 n)) w := by
  rw [run_callFunc_extern (e := Extern.MathFloatBits.float64bits) Tryz.func176 (by kernel_rfl) (by kernel_rfl) (by kernel_rfl) (by kernel_rfl)]; rfl
set_option maxHeartbeats 800000 in
theorem iFloat32 (v : Value) (n : Int) (h1 : -2139095040 ≤ n) (h2 : n ≤ 2139095040) (w : World) :
    Calls Tryz.prog 177 #[v, .int .i64 n] w fun e w' => e = .returned (.float .f32 (bitsI 2147483648 n).toNat) ∧ Below w.heap.size w w' := by
  have c1 := frombits32
  have B := hd (fun w => iBitBits_32 n h1 h2 w)
  have hb0 : 0 ≤ bitsI 2147483648 n := by unfold bitsI; split <;> omega
  have hb1 : bitsI 2147483648 n < 4294967296 := by unfold bitsI; split <;> omega
  have hwr : IntKind.wrap .u32 (bitsI 2147483648 n) = bitsI 2147483648 n := by rw [IntKind.wrap_u32]; omega
  generalize bitsI 2147483648 n = b at *
  clear h1 h2
  go_enter Tryz.func177, Tryz.ntmps177
  go_wp2_with fail
  refine (iWidth32 _ _).mono ?_
  rintro e w1 ⟨rfl, rfl⟩
  go_wp2_with fail
  refine (B.out _).mono ?_
  rintro e w2 ⟨rfl, hb2⟩
  go_wp2_with fail
  refine (iWidth32 _ _).mono ?_
  rintro e w3 ⟨rfl, rfl⟩
  go_wp2
  go_ret
  exact ⟨rfl, hb2⟩
set_option maxHeartbeats 800000 in
theorem iFloat64 (v : Value) (n : Int) (h1 : -9218868437227405312 ≤ n) (h2 : n ≤ 9218868437227405312) (w : World) :
    Calls Tryz.prog 194 #[v, .int .i64 n] w fun e w' => e = .returned (.float .f64 (bitsI 9223372036854775808 n).toNat) ∧ Below w.heap.size w w' := by
  have c1 := frombits64
  have B := hd (fun w => iBitBits_64 n h1 h2 w)
  generalize bitsI 9223372036854775808 n = b at *
  clear h1 h2
  go_enter Tryz.func194, Tryz.ntmps194
  go_wp2_with fail
  refine (iWidth64 _ _).mono ?_
  rintro e w1 ⟨rfl, rfl⟩
  go_wp2_with fail
  refine (B.out _).mono ?_
  rintro e w2 ⟨rfl, hb2⟩
  go_wp2_with fail
  refine (iWidth64 _ _).mono ?_
  rintro e w3 ⟨rfl, rfl⟩
  go_wp2
  go_ret
  exact ⟨rfl, hb2⟩
end Go.Proofs.YtmhifokmncfgeaaGreatDoor
