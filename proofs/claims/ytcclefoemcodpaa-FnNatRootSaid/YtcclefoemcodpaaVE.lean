/- Square roots, down: by bits and by steps from above. Conditions: numbers. -/
import Derived.Test.YtcclefoemcodpaaBG
import Derived.Test.YtcclefoemcodpaaV5
import Derived.Test.YtcclefoemcodpaaBC
import Derived.Deep.LoopGhost
namespace Go.Proofs.Ytcclefoemcodpaa
open Go.RowKit
set_option linter.unusedVariables false

def isRoot (a r : Nat) : Prop := r * r ≤ a ∧ a < (r + 1) * (r + 1)
theorem sq_lt {x y : Nat} (h : x < y) : (x + 1) * (x + 1) ≤ y * y := Nat.mul_le_mul h h
theorem isRoot_one {a r s : Nat} (h : isRoot a r) (k : isRoot a s) : r = s := by
  rcases Nat.lt_trichotomy r s with g | g | g
  · have := sq_lt g; have := h.2; have := k.1; omega
  · exact g
  · have := sq_lt g; have := k.2; have := h.1; omega
theorem root_is (a : Nat) : ∃ r, isRoot a r := by
  induction a with
  | zero => exact ⟨0, by simp [isRoot]⟩
  | succ a ih =>
    obtain ⟨r, h1, h2⟩ := ih
    by_cases h : (r + 1) * (r + 1) ≤ a + 1
    · refine ⟨r + 1, h, ?_⟩
      have e : (r + 1 + 1) * (r + 1 + 1) = (r + 1) * (r + 1) + 2 * (r + 1) + 1 := by grind
      omega
    · exact ⟨r, by omega, by omega⟩
theorem four_le (x y : Nat) : 4 * (x * y) ≤ (x + y) * (x + y) := by
  rcases Nat.le_total x y with h | h
  · obtain ⟨d, rfl⟩ := Nat.exists_eq_add_of_le h
    have e : (x + (x + d)) * (x + (x + d)) = 4 * (x * (x + d)) + d * d := by grind
    omega
  · obtain ⟨d, rfl⟩ := Nat.exists_eq_add_of_le h
    have e : (y + d + y) * (y + d + y) = 4 * ((y + d) * y) + d * d := by grind
    omega
/-- a step from above does not go below the root -/
theorem newton_above {a r : Nat} (hr : 0 < r) : a < ((r + a / r) / 2 + 1) * ((r + a / r) / 2 + 1) := by
  have hlt : a < r * (a / r + 1) := by
    have := Nat.div_add_mod a r
    have := Nat.mod_lt a hr
    rw [Nat.mul_add, Nat.mul_one]; omega
  generalize hq : a / r = q at *
  have h4 := four_le r (q + 1)
  have hs : r + (q + 1) ≤ 2 * ((r + q) / 2 + 1) := by omega
  generalize (r + q) / 2 + 1 = s at *
  have h5 : (r + (q + 1)) * (r + (q + 1)) ≤ (2 * s) * (2 * s) := Nat.mul_le_mul hs hs
  have e : (2 * s) * (2 * s) = 4 * (s * s) := by grind
  omega
theorem newton_stop {a r : Nat} (hr : 0 < r) (h : r ≤ (r + a / r) / 2) : r * r ≤ a := by
  have h1 : r ≤ a / r := by omega
  have := (Nat.le_div_iff_mul_le hr).1 h1
  exact this
theorem newton_pos {a r : Nat} (ha : 0 < a) (hr : 0 < r) : 0 < (r + a / r) / 2 := by
  have h := newton_above (a := a) hr
  rcases Nat.eq_zero_or_pos ((r + a / r) / 2) with g | g
  · rw [g] at h; omega
  · exact g
theorem hlv_up (k : Nat) : k ≤ 16 → ∀ d : Int, 0 ≤ d → d < ((2 ^ k : Nat) : Int) → d < ((2 ^ (hlvI d).toNat : Nat) : Int) ∧ 0 ≤ hlvI d := by
  induction k with
  | zero =>
    intro _ d h0 h1
    obtain rfl : d = 0 := by simp at h1; omega
    rw [hlvI_zero]; simp
  | succ k ih =>
    intro hk d h0 h1
    by_cases hd : d = 0
    · subst hd; rw [hlvI_zero]; simp
    · have hle : (2 : Nat) ^ (k + 1) ≤ 2 ^ 16 := Nat.pow_le_pow_right (by omega) hk
      have h16 : (2 : Nat) ^ 16 = 65536 := by decide
      have hps : (2 : Nat) ^ (k + 1) = 2 ^ k * 2 := Nat.pow_succ ..
      obtain ⟨i1, i2⟩ := ih (by omega) (d / 2) (by omega) (by omega)
      rw [hlvI_half (by omega) (by omega)]
      rw [show (hlvI (d / 2) + 1).toNat = (hlvI (d / 2)).toNat + 1 by omega, Nat.pow_succ]
      generalize 2 ^ (hlvI (d / 2)).toNat = z at *
      omega
theorem bits_up {xs : List Int} (h : digs xs) (h0 : xs.length ≠ 0) : val xs < 2 ^ (bitsN xs).toNat := by
  obtain ⟨n, hn⟩ : ∃ n, xs.length = n + 1 := ⟨xs.length - 1, by omega⟩
  have d := digs_getD h n
  unfold dig at d
  have h16 : ((2 ^ 16 : Nat) : Int) = 65536 := by decide
  obtain ⟨u1, u2⟩ := hlv_up 16 (by omega) (xs.getD n 0) d.1 (by rw [h16]; exact d.2)
  have e : bitsN xs = 16 * (n : Int) + hlvI (xs.getD n 0) := by
    unfold bitsN
    rw [if_neg h0, hn, show n + 1 - 1 = n by omega]
    omega
  have hv := val_take_succ xs n
  rw [List.take_of_length_le (by omega)] at hv
  have hl := val_lt (digs_take (n := n) h)
  rw [List.length_take, Nat.min_eq_left (by omega)] at hl
  rw [hv, e, show (16 * (n : Int) + hlvI (xs.getD n 0)).toNat = 16 * n + (hlvI (xs.getD n 0)).toNat by omega, pow2_split]
  have hz : (xs.getD n 0).toNat + 1 ≤ 2 ^ (hlvI (xs.getD n 0)).toNat := by
    generalize 2 ^ (hlvI (xs.getD n 0)).toNat = z at *
    omega
  have h5 := Nat.mul_le_mul_left (65536 ^ n) hz
  rw [Nat.mul_add, Nat.mul_one] at h5
  generalize 65536 ^ n * 2 ^ (hlvI (xs.getD n 0)).toNat = z at *
  generalize 65536 ^ n * (xs.getD n 0).toNat = z2 at *
  omega
theorem half_up {A : Nat} {b : Int} (hb : 0 ≤ b) (h : A < 2 ^ b.toNat) : ∃ K : Nat, (b + 1) / 2 = (K : Int) ∧ A < 2 ^ K * 2 ^ K := by
  refine ⟨((b + 1) / 2).toNat, by omega, ?_⟩
  rw [← Nat.pow_add]
  exact Nat.lt_of_lt_of_le h (Nat.pow_le_pow_right (by omega) (by omega))
theorem up_n (a : Option Addr) (len cap : Nat) (xs : List Int) (k : Nat) (w : World) (hR : InI w a len cap xs) (hx : digs xs) (hk : k ≤ 16000) (hl : len ≤ 1048576) :
    Calls Try.prog 24 #[.slice a len cap, .int .i64 (k : Int)] w fun e w' => (∃ av cv, e = .returned (.slice av (natL (2 ^ k * val xs)).length cv) ∧ OI w' w.heap.size av cv (natL (2 ^ k * val xs))) ∧ Below w.heap.size w w' := by
  obtain ⟨P, p, rfl, hp⟩ := split16q k
  have h := iUp a len cap xs P p w hR hx hp (by omega) hl
  rw [show (16 * (P : Int) + (p : Int)) = ((16 * P + p : Nat) : Int) by omega] at h
  rw [pow2_split]
  exact h
end Go.Proofs.Ytcclefoemcodpaa
