/- The contract of the specification's BitMake at width 64 and a size below 2^24, and of its BitWiden: 'widI' again; nothing that was there is written. -/
import Derived.Test.YtekbhkklaogmnaaDoorPA
import Derived.Test.YtekbhkklaogmnaaDoorM2
namespace Go.Proofs.YtekbhkklaogmnaaDoor
open Go.RowKit

theorem dbl_lt (sz k : Nat) (hl : sz.log2 ≤ 51) (hk : k < 52 - sz.log2) : sz * 2 ^ k < 4503599627370496 := by
  have := Nat.lt_log2_self (n := sz)
  calc sz * 2 ^ k < 2 ^ (sz.log2 + 1) * 2 ^ k := Nat.mul_lt_mul_of_pos_right this (Nat.two_pow_pos _)
    _ = 2 ^ (sz.log2 + 1 + k) := by rw [← Nat.pow_add]
    _ ≤ 2 ^ 52 := Nat.pow_le_pow_right (by omega) (by omega)
theorem dbl_ge (sz : Nat) (h0 : sz ≠ 0) (hl : sz.log2 ≤ 51) : 4503599627370496 ≤ sz * 2 ^ (52 - sz.log2) ∧ sz * 2 ^ (52 - sz.log2) < 9007199254740992 := by
  have h1 := Nat.lt_log2_self (n := sz)
  have h2 := Nat.log2_self_le h0
  constructor
  · calc 4503599627370496 = 2 ^ sz.log2 * 2 ^ (52 - sz.log2) := by rw [← Nat.pow_add, show sz.log2 + (52 - sz.log2) = 52 by omega]
      _ ≤ sz * 2 ^ (52 - sz.log2) := Nat.mul_le_mul_right _ h2
  · calc sz * 2 ^ (52 - sz.log2) < 2 ^ (sz.log2 + 1) * 2 ^ (52 - sz.log2) := Nat.mul_lt_mul_of_pos_right h1 (Nat.two_pow_pos _)
      _ = 9007199254740992 := by rw [← Nat.pow_add, show sz.log2 + 1 + (52 - sz.log2) = 53 by omega]

end Go.Proofs.YtekbhkklaogmnaaDoor
