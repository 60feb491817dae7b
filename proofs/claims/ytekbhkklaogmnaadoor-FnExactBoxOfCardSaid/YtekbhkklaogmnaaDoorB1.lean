/- The contract of the program's narrowBelow, with its closure and lastThat: the greatest narrow float that is not above a wide one; nothing that was there is written. -/
import Derived.Test.YtekbhkklaogmnaaDoorW12
import Derived.Deep.RegionWith
namespace Go.Proofs.YtekbhkklaogmnaaDoor
open Go.RowKit


theorem nat_or_and (a b : Nat) : (a ||| b) + (a &&& b) = a + b ∧ (a ^^^ b) + 2 * (a &&& b) = a + b := by
  induction a using Nat.strongRecOn generalizing b with
  | _ a ih =>
    by_cases h0 : a = 0
    · subst h0; simp
    · have h := ih (a / 2) (by omega) (b / 2)
      have o1 : (a ||| b) / 2 = a / 2 ||| b / 2 := Nat.or_div_two
      have o2 : (a &&& b) / 2 = a / 2 &&& b / 2 := Nat.and_div_two
      have o3 : (a ^^^ b) / 2 = a / 2 ^^^ b / 2 := Nat.xor_div_two
      have m1 : (a ||| b) % 2 = if a % 2 = 1 ∨ b % 2 = 1 then 1 else 0 := by
        have := @Nat.or_mod_two_eq_one a b
        split <;> omega
      have m2 : (a &&& b) % 2 = if a % 2 = 1 ∧ b % 2 = 1 then 1 else 0 := by
        have := @Nat.and_mod_two_eq_one a b
        split <;> omega
      have m3 : (a ^^^ b) % 2 = (a + b) % 2 := by have := @Nat.xor_mod_two_eq_one a b; omega
      rw [← o1, ← o2, ← o3] at h
      obtain ⟨h1, h2⟩ := h
      generalize (a ||| b) = x at *
      generalize (a &&& b) = y at *
      generalize (a ^^^ b) = z at *
      split at m1 <;> split at m2 <;> omega

theorem wrap_i64 (N : Nat) (h : N < 18446744073709551616) : IntKind.i64.wrap (N : Int) = if 9223372036854775808 ≤ N then (N : Int) - 18446744073709551616 else N := by
  have hx : (N : Int) % 2 ^ 64 = N := by omega
  simp only [IntKind.wrap, IntKind.bits, IntKind.signed, hx]
  by_cases h : 9223372036854775808 ≤ N
  · rw [if_pos (by simp; omega), if_pos h]; rfl
  · rw [if_neg (by simp; omega), if_neg h]

theorem mid_bits (n : Int) (h1 : -4294967296 ≤ n) (h2 : n ≤ 4294967296) : ∃ x y : Int, bits .xor .i64 (n - 1) n = x ∧ bits .or .i64 (n - 1) n = y ∧ -17179869184 ≤ x ∧ x ≤ 17179869184 ∧ -17179869184 ≤ y ∧ y ≤ 17179869184 ∧ y - x / 2 = n := by
  refine ⟨_, _, rfl, rfl, ?_⟩
  have ex : bits .xor .i64 (n - 1) n = IntKind.i64.wrap (((BitVec.ofInt 64 (n - 1) ^^^ BitVec.ofInt 64 n).toNat : Nat) : Int) := rfl
  have ey : bits .or .i64 (n - 1) n = IntKind.i64.wrap (((BitVec.ofInt 64 (n - 1) ||| BitVec.ofInt 64 n).toNat : Nat) : Int) := rfl
  rw [ex, ey, BitVec.toNat_xor, BitVec.toNat_or]
  have ha : (BitVec.ofInt 64 (n - 1)).toNat = ((n - 1) % 18446744073709551616).toNat := by rw [BitVec.toNat_ofInt]; rfl
  have hb : (BitVec.ofInt 64 n).toNat = (n % 18446744073709551616).toNat := by rw [BitVec.toNat_ofInt]; rfl
  have la := (BitVec.ofInt 64 (n - 1)).isLt
  have lb := (BitVec.ofInt 64 n).isLt
  generalize (BitVec.ofInt 64 (n - 1)).toNat = A at *
  generalize (BitVec.ofInt 64 n).toNat = B at *
  have g := nat_or_and A B
  have l1 : A ≤ A ||| B := Nat.left_le_or
  have l2 : A &&& B ≤ B := Nat.and_le_right
  have l3 : A ||| B < 2 ^ 64 := Nat.or_lt_two_pow la lb
  have l4 : A ^^^ B < 2 ^ 64 := Nat.xor_lt_two_pow la lb
  rw [wrap_i64 _ (by omega), wrap_i64 _ (by omega)]
  generalize A ||| B = O at *
  generalize A ^^^ B = X at *
  generalize A &&& B = C at *
  obtain ⟨g1, g2⟩ := g
  clear ex ey
  by_cases c1 : 1 ≤ n
  · have eA : (A : Int) = n - 1 := by omega
    have eB : (B : Int) = n := by omega
    rw [if_neg (by omega), if_neg (by omega)]
    omega
  by_cases c2 : n ≤ -1
  · have eA : (A : Int) = 18446744073709551616 + n - 1 := by omega
    have eB : (B : Int) = 18446744073709551616 + n := by omega
    rw [if_neg (by omega), if_pos (by omega)]
    omega
  have e0 : n = 0 := by omega
  subst e0
  rw [if_pos (by omega), if_pos (by omega)]
  omega

end Go.Proofs.YtekbhkklaogmnaaDoor
