/- How often a number can be halved, and what is left: by the program. Conditions: digits, not 0, 2^16 at most; the library's table holds what its text lays. -/
import Derived.Test.YtpamnpdigoikoaaTZ
import Derived.Test.YtpamnpdigoikoaaBH
namespace Go.Proofs.Ytpamnpdigoikoaa
open Go.RowKit
set_option linter.unusedVariables false

theorem val_zero_take {xs : List Int} {k : Nat} (hx : digs xs) (hz : ∀ i, i < k → xs.getD i 0 = 0) (hk : k ≤ xs.length) : val xs = 65536 ^ k * val (xs.drop k) := by
  induction k with
  | zero => simp
  | succ k ih =>
    have h1 := ih (fun i hi => hz i (by omega)) (by omega)
    rw [h1, val_drop (by omega), hz k (by omega)]
    simp only [Int.toNat_zero, Nat.zero_add]
    rw [Nat.pow_succ, Nat.mul_assoc]
theorem two16 (P p : Nat) : 65536 ^ P * 2 ^ p = 2 ^ (16 * P + p) := by rw [Nat.pow_add, show (65536 : Nat) = 2 ^ 16 from rfl, ← Nat.pow_mul]
theorem split16 (k : Nat) : (k : Int) = 16 * ((k / 16 : Nat) : Int) + ((k % 16 : Nat) : Int) := by omega
theorem twos_bd {xs : List Int} {len : Nat} (hx : digs xs) (hp : xs.length = len) (h0 : val xs ≠ 0) : twosOf (val xs) < 16 * len := by
  refine twosOf_lt h0 ?_
  have := val_lt hx
  rw [hp, show (65536 : Nat) = 2 ^ 16 from rfl, ← Nat.pow_mul] at this
  exact this
end Go.Proofs.Ytpamnpdigoikoaa

/- The greatest common divisor, by the program. Conditions: digits without needless noughts, 1024 at most; the library's table holds what its text lays. -/
namespace Go.Proofs.Ytpamnpdigoikoaa
open Go.RowKit
set_option linter.unusedVariables false

theorem beqF {n : Nat} (h : 0 < n) : ((n : Int) == 0) = false := by simp; omega
theorem min_cast (a b : Nat) : ((min a b : Nat) : Int) = min (a : Int) (b : Int) := by omega
theorem gcd_len {A B : Nat} (h : A = 0 ∨ B = 0) : A + B = Nat.gcd A B := by
  rcases h with rfl | rfl
  · simp
  · simp
theorem natL_len0 {A : Nat} (h : (natL A).length = 0) : A = 0 := by
  apply Nat.eq_zero_of_not_pos
  intro hp
  have := natL_length_pos hp
  omega
end Go.Proofs.Ytpamnpdigoikoaa

/- Greatest common divisors of numbers: by the program and by the specification. Condition, of the program: the library's table holds what its text lays. -/
namespace Go.Proofs.Ytpamnpdigoikoaa
open Go.RowKit
set_option linter.unusedVariables false

def gcdB (xs ys : List Int) : Bool := natOk xs && natOk ys
theorem gcdB_len {xs ys : List Int} : (resN (gcdB xs ys) (Nat.gcd (val xs) (val ys))).length ≤ 1048576 := by
  cases h1 : natOk xs
  · have e : gcdB xs ys = false := by unfold gcdB; rw [h1]; rfl
    rw [e]
    show ([] : List Int).length ≤ 1048576
    simp
  cases h2 : natOk ys
  · have e : gcdB xs ys = false := by unfold gcdB; rw [h1, h2]; rfl
    rw [e]
    show ([] : List Int).length ≤ 1048576
    simp
  have e : gcdB xs ys = true := by unfold gcdB; rw [h1, h2]; rfl
  rw [e]
  show (natL (Nat.gcd (val xs) (val ys))).length ≤ 1048576
  have hx := natOk_lt h1
  have hy := natOk_lt h2
  have : Nat.gcd (val xs) (val ys) < 65536 ^ 256 := by
    by_cases h0 : val xs = 0
    · rw [h0, Nat.gcd_zero_left]; exact hy
    · exact Nat.lt_of_le_of_lt (Nat.le_of_dvd (Nat.pos_of_ne_zero h0) (Nat.gcd_dvd_left _ _)) hx
  have := natL_len.2 this
  omega
end Go.Proofs.Ytpamnpdigoikoaa
