/- Plain mathematics of trailing noughts: the lowest bit of a word, and the table by which the library finds its place. No condition but the ranges named. -/
import Derived.Test.YtljmmaaaeojbpaaDoorF2
namespace Go.Proofs.YtljmmaaaeojbpaaDoor

def tab64 : List Int := [0, 1, 56, 2, 57, 49, 28, 3, 61, 58, 42, 50, 38, 29, 17, 4, 62, 47, 59, 36, 45, 43, 51, 22, 53, 39, 33, 30, 24, 18, 12, 5, 63, 55, 48, 27, 60, 41, 37, 16, 46, 35, 44, 21, 52, 32, 23, 11, 54, 26, 40, 15, 34, 20, 31, 10, 25, 14, 19, 9, 13, 8, 7, 6]

theorem tab64_at : ∀ k : Fin 64, tab64.getD ((2 ^ k.val * 285870213051353865) % 18446744073709551616 / 288230376151711744) 0 = (k.val : Int) := by decide +kernel
theorem tab64_lt : ∀ k : Fin 64, (2 ^ k.val * 285870213051353865) % 18446744073709551616 / 288230376151711744 < 64 := by decide +kernel

/-- x and its negative share the lowest bit alone -/
theorem low_bit (o z : Nat) (ho : o % 2 = 1) (hx : o * 2 ^ z < 2 ^ 64) : (o * 2 ^ z) &&& (2 ^ 64 - o * 2 ^ z) = 2 ^ z := by
  have hz : z < 64 := by
    apply Nat.lt_of_not_le
    intro h
    have : 2 ^ 64 ≤ 2 ^ z := Nat.pow_le_pow_right (by omega) h
    have : 2 ^ z ≤ o * 2 ^ z := Nat.le_mul_of_pos_left _ (by omega)
    omega
  have e : 2 ^ 64 - o * 2 ^ z = (2 ^ (64 - z) - o) * 2 ^ z := by
    rw [Nat.sub_mul, ← Nat.pow_add, show 64 - z + z = 64 by omega]
  have hlt : o < 2 ^ (64 - z) := by
    apply Nat.lt_of_mul_lt_mul_right (a := 2 ^ z)
    rw [← Nat.pow_add, show 64 - z + z = 64 by omega]
    exact hx
  rw [e, ← Nat.shiftLeft_eq, ← Nat.shiftLeft_eq, ← Nat.shiftLeft_and_distrib, Nat.shiftLeft_eq]
  have h1 : o &&& (2 ^ (64 - z) - o) = 1 := by
    apply Nat.eq_of_testBit_eq
    intro j
    rw [Nat.testBit_and]
    have e2 : 2 ^ (64 - z) - o = 2 ^ (64 - z) - ((o - 1) + 1) := by omega
    rw [e2, Nat.testBit_two_pow_sub_succ (by omega)]
    cases j with
    | zero =>
      have a : o.testBit 0 = true := by rw [Nat.testBit_zero]; simp [ho]
      have b : (o - 1).testBit 0 = false := by rw [Nat.testBit_zero]; simp; omega
      simp [a, b]; omega
    | succ j =>
      have a : (o - 1).testBit (j + 1) = o.testBit (j + 1) := by
        rw [Nat.testBit_succ, Nat.testBit_succ, show (o - 1) / 2 = o / 2 by omega]
      have c : (1 : Nat).testBit (j + 1) = false := by rw [Nat.testBit_succ]; simp
      rw [a, c]
      cases o.testBit (j + 1) <;> simp
  rw [h1, Nat.one_mul]

theorem odd_part (n : Nat) (h : n ≠ 0) : ∃ o z, o % 2 = 1 ∧ n = o * 2 ^ z := by
  induction n using Nat.strongRecOn with
  | _ n ih =>
    by_cases hn : n % 2 = 1
    · exact ⟨n, 0, hn, by simp⟩
    · obtain ⟨o, z, h1, h2⟩ := ih (n / 2) (by omega) (by omega)
      refine ⟨o, z + 1, h1, ?_⟩
      rw [Nat.pow_succ, ← Nat.mul_assoc, ← h2]; omega
end Go.Proofs.YtljmmaaaeojbpaaDoor
