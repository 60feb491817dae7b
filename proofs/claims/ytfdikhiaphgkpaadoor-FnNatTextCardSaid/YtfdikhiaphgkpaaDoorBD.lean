/- The specification's quotient and rest, where the divisor has two digits or more and is not above the number: new lists. Conditions: numbers, 2^16 digits at most. -/
import Derived.Test.YtfdikhiaphgkpaaDoorBC
import Derived.Test.YtfdikhiaphgkpaaDoorNI
import Derived.Deep.RegionWith
import Derived.Deep.RegionHeld3
import Derived.Deep.DeepCutAuto
namespace Go.Proofs.YtfdikhiaphgkpaaDoor
open Go.RowKit
set_option linter.unusedVariables false
set_option maxRecDepth 100000

theorem up_bd {t : Int} (h1 : 1 ≤ t) (h2 : t < 65536) : ∃ U : Nat, Int.tdiv 65536 (t + 1) = (U : Int) ∧ (65536 : Int) / (t + 1) = (U : Int) ∧ 1 ≤ U ∧ U ≤ 32768 := by
  have e0 : Int.tdiv 65536 (t + 1) = 65536 / (t + 1) := Int.tdiv_eq_ediv_of_nonneg (by omega)
  have q0 : 0 ≤ (65536 : Int) / (t + 1) := Int.ediv_nonneg (by omega) (by omega)
  obtain ⟨U, hU⟩ := Int.eq_ofNat_of_zero_le q0
  have h3 : 1 ≤ (65536 : Int) / (t + 1) := (Int.le_ediv_iff_mul_le (by omega)).2 (by omega)
  have h4 : (65536 : Int) / (t + 1) ≤ 65536 / 2 := by
    refine (Int.le_ediv_iff_mul_le (by omega)).2 ?_
    have := Int.ediv_mul_le 65536 (show t + 1 ≠ 0 by omega)
    have : (65536 : Int) / (t + 1) * 2 ≤ 65536 / (t + 1) * (t + 1) := Int.mul_le_mul_of_nonneg_left (by omega) q0
    omega
  exact ⟨U, by rw [e0, hU], hU, by omega, by omega⟩
theorem long_end {m : Nat} {qs : List Int} {A B U R : Nat} (hU : 0 < U) (hB : 0 < B) (h : LongI m (natL (A * U)) qs (B * U) 0 R) : val qs = A / B ∧ R / U = A % B := by
  obtain ⟨h1, h2⟩ := h.all
  rw [val_natL] at h1 h2
  refine ⟨by rw [h1, Nat.mul_div_mul_right _ _ hU], ?_⟩
  rw [h2, Nat.mul_mod_mul_right, Nat.mul_div_cancel _ hU]
theorem mul_len {xs : List Int} {U : Nat} (hx : digs xs) (hU : U ≤ 65536) : (natL (val xs * U)).length ≤ xs.length + 1 := by
  refine natL_len.2 ?_
  have h1 := val_lt hx
  rw [Nat.pow_succ]
  have h2 : val xs * U ≤ val xs * 65536 := Nat.mul_le_mul_left _ hU
  omega
/-- a guess that fits is the quotient's digit -/
theorem guess_fits {R Y g : Nat} (hY : 0 < Y) (h1 : R / Y ≤ g) (h2 : Y * g ≤ R) : g = R / Y ∧ R - Y * g = R % Y := by
  have h3 : g ≤ R / Y := (Nat.le_div_iff_mul_le hY).2 (by rw [Nat.mul_comm]; exact h2)
  have e : g = R / Y := by omega
  refine ⟨e, ?_⟩
  have := Nat.div_add_mod R Y
  rw [← e] at this
  omega
theorem guess_not {R Y g : Nat} (hY : 0 < Y) (h2 : R < Y * g) : 0 < g ∧ R / Y ≤ g - 1 ∧ Y * g - Y = Y * (g - 1) := by
  have h0 : 0 < g := by
    rcases Nat.eq_zero_or_pos g with h | h
    · subst h; omega
    · exact h
  have h3 : R / Y < g := Nat.div_lt_of_lt_mul h2
  refine ⟨h0, by omega, ?_⟩
  rw [Nat.mul_sub, Nat.mul_one]
end Go.Proofs.YtfdikhiaphgkpaaDoor

/- The specification's quotient and rest: new lists that share no memory. Conditions: numbers, the second not 0, 2^16 digits at most. -/
namespace Go.Proofs.YtfdikhiaphgkpaaDoor
open Go.RowKit
set_option linter.unusedVariables false
set_option maxRecDepth 100000

theorem one_digit {ys : List Int} {d : Int} (h : ys.length = 1) (e : ys.getD 0 0 = d) (hd : dig d) : val ys = d.toNat := by
  match ys, h with
  | [y], _ =>
    simp at e
    subst e
    rw [val_cons, val_nil]; omega
end Go.Proofs.YtfdikhiaphgkpaaDoor
