/- Powers, by the program: squares and products, bit by bit. No condition. -/
import Derived.Test.YtpamnpdigoikoaaDoorNR
namespace Go.Proofs.YtpamnpdigoikoaaDoor
open Go.RowKit
set_option linter.unusedVariables false
set_option maxRecDepth 100000

theorem i64_and1 (a : Int) : bits .and .i64 a 1 = a % 2 := by
  show IntKind.i64.wrap ((BitVec.ofInt 64 a &&& BitVec.ofInt 64 1).toNat : Int) = _
  have e1 : (BitVec.ofInt 64 a).toNat = (a % 18446744073709551616).toNat := by rw [BitVec.toNat_ofInt]; rfl
  have e2 : (BitVec.ofInt 64 1).toNat = 1 := by decide
  rw [BitVec.toNat_and, e1, e2]
  rw [nat_mask1]
  simp [IntKind.wrap, IntKind.bits, IntKind.signed]
  omega
theorem pow_len' {V e N : Nat} (hV : V < 65536 ^ 256) (he : 256 * e < N) : (natL (V ^ e)).length ≤ N := by
  refine natL_len.2 ?_
  have h1 : V ^ e ≤ (65536 ^ 256) ^ e := Nat.pow_le_pow_left (Nat.le_of_lt hV) e
  rw [← Nat.pow_mul] at h1
  exact Nat.lt_of_le_of_lt h1 (Nat.pow_lt_pow_right (by decide) he)
theorem pow_len {V e : Nat} (hV : V < 65536 ^ 256) (he : e ≤ 64) : (natL (V ^ e)).length ≤ 16385 := pow_len' hV (by omega)
theorem len_top : ∀ m : Fin 65, 0 ≤ hlvI (m.val : Int) ∧ hlvI (m.val : Int) ≤ 7 ∧ m.val / 2 ^ (hlvI (m.val : Int)).toNat = 0 := by decide +kernel
/-- where the walk of the bits stands -/
structure PowI (V m : Nat) (j : Int) (e : Nat) : Prop where
  lo : -1 ≤ j
  hi : j ≤ 6
  ex : e = m / 2 ^ (j + 1).toNat
end Go.Proofs.YtpamnpdigoikoaaDoor
