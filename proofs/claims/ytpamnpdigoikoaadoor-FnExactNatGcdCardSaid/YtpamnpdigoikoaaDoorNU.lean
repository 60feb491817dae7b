/- Powers of numbers, where they have no more digits than may be, by the program. No condition. -/
import Derived.Test.YtpamnpdigoikoaaDoorNS
namespace Go.Proofs.YtpamnpdigoikoaaDoor
open Go.RowKit
set_option linter.unusedVariables false
set_option maxRecDepth 100000

theorem bitLen_low (n : Nat) : ∀ x : Nat, x = n → 0 < x → x < 2 ^ 64 → 2 ^ (Lib.bitLen x - 1) ≤ x := by
  induction n using Nat.strongRecOn with
  | _ n ih =>
    intro x hx h0 h1
    subst hx
    have e := Lib.bitLen_half x (by omega) h1
    by_cases h2 : x / 2 = 0
    · rw [h2] at e
      have : Lib.bitLen 0 = 0 := by decide
      rw [this] at e
      rw [e]
      have e2 : 2 ^ (1 + 0 - 1) = 1 := by decide
      rw [e2]
      exact h0
    · have k := ih (x / 2) (by omega) (x / 2) rfl (by omega) (by omega)
      have hp : 1 ≤ Lib.bitLen (x / 2) := by
        have := Lib.bitLen_half (x / 2) h2 (by omega)
        omega
      rw [e, show 1 + Lib.bitLen (x / 2) - 1 = (Lib.bitLen (x / 2) - 1) + 1 by omega, Nat.pow_succ]
      omega
theorem bits_low {xs : List Int} (h : natOk xs = true) (h0 : xs.length ≠ 0) : 2 ^ (bitsN xs - 1).toNat ≤ val xs ∧ 1 ≤ bitsN xs ∧ bitsN xs ≤ 4096 := by
  obtain ⟨h1, h2, h3⟩ := natOk_in h
  have d := h2 (xs.length - 1) (by omega)
  have hnz := h3.resolve_left h0
  have hv := val_take_succ xs (xs.length - 1)
  rw [show xs.length - 1 + 1 = xs.length by omega, List.take_of_length_le (Nat.le_refl _)] at hv
  have hb : bitsN xs = 16 * ((xs.length : Int) - 1) + hlvI (xs.getD (xs.length - 1) 0) := by unfold bitsN; rw [if_neg h0]
  generalize xs.getD (xs.length - 1) 0 = x at *
  unfold dig at d
  have hl := bitLen_low _ x.toNat rfl (by omega) (by omega)
  have h16 := Lib.bitLen_le x.toNat 16 (by omega) (by omega)
  have hp : 1 ≤ Lib.bitLen x.toNat := by
    have := Lib.bitLen_half x.toNat (by omega) (by omega)
    omega
  unfold hlvI at hb
  refine ⟨?_, by omega, by omega⟩
  have he : (bitsN xs - 1).toNat = 16 * (xs.length - 1) + (Lib.bitLen x.toNat - 1) := by omega
  rw [he, Nat.pow_add, Nat.pow_mul, hv]
  have : 2 ^ 16 = 65536 := by decide
  rw [this]
  have := Nat.mul_le_mul_left (65536 ^ (xs.length - 1)) hl
  omega
theorem pow_big {V n b k : Nat} (hb : 2 ^ b ≤ V) (h : 16 * k ≤ b * n) : 65536 ^ k ≤ V ^ n := by
  have h1 : (2 ^ b) ^ n ≤ V ^ n := Nat.pow_le_pow_left hb n
  rw [← Nat.pow_mul] at h1
  have h2 : 2 ^ (16 * k) ≤ 2 ^ (b * n) := Nat.pow_le_pow_right (by omega) h
  rw [Nat.pow_mul] at h2
  have e : 2 ^ 16 = 65536 := by decide
  rw [e] at h2
  exact Nat.le_trans h2 h1
theorem too_big {xs : List Int} {m : Nat} (h : natOk xs = true) (hb : 4096 ≤ (bitsN xs - 1) * (m : Int)) : fitsB (val xs ^ m) = false := by
  by_cases h0 : xs.length = 0
  · have : bitsN xs = 0 := by unfold bitsN; rw [if_pos h0]
    rw [this] at hb
    omega
  obtain ⟨h1, h2, h3⟩ := bits_low h h0
  have hk : 16 * 256 ≤ (bitsN xs - 1).toNat * m := by
    have e : (((bitsN xs - 1).toNat * m : Nat) : Int) = (bitsN xs - 1) * (m : Int) := by rw [Int.natCast_mul, Int.toNat_of_nonneg (by omega)]
    omega
  have := pow_big h1 hk
  refine fits_no ?_
  rw [natL_len]
  exact Nat.not_lt.2 this
theorem prod_bd {b n : Int} (h1 : -1 ≤ b ∧ b ≤ 4095) (h2 : 0 ≤ n ∧ n ≤ 64) : -64 ≤ b * n ∧ b * n ≤ 262080 := by
  have a1 : b * n ≤ 4095 * n := Int.mul_le_mul_of_nonneg_right h1.2 h2.1
  have a2 : (-1) * n ≤ b * n := Int.mul_le_mul_of_nonneg_right h1.1 h2.1
  omega
theorem bitsN_bd {xs : List Int} (h : natOk xs = true) : 0 ≤ bitsN xs ∧ bitsN xs ≤ 4096 := by
  by_cases h0 : xs.length = 0
  · have : bitsN xs = 0 := by unfold bitsN; rw [if_pos h0]
    omega
  · have := bits_low h h0
    omega
end Go.Proofs.YtpamnpdigoikoaaDoor
