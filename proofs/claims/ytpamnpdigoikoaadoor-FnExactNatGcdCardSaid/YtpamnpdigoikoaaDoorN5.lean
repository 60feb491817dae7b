/- Sums of digits with carries: mathematics alone. No condition. -/
import Derived.Test.YtpamnpdigoikoaaDoorNT
namespace Go.Proofs.YtpamnpdigoikoaaDoor
set_option linter.unusedVariables false
set_option maxRecDepth 100000

theorem val_take_succ (zs : List Int) (k : Nat) : val (zs.take (k + 1)) = val (zs.take k) + 65536 ^ k * (zs.getD k 0).toNat := by
  by_cases h : k < zs.length
  · rw [List.take_succ_eq_append_getElem h, val_append, List.length_take, Nat.min_eq_left (by omega)]
    have e : zs.getD k 0 = zs[k] := by rw [List.getD_eq_getElem?_getD, List.getElem?_eq_getElem h]; rfl
    rw [e]
    simp [val]
  · rw [List.take_of_length_le (by omega), List.take_of_length_le (by omega)]
    have e : zs.getD k 0 = 0 := by rw [List.getD_eq_getElem?_getD, List.getElem?_eq_none (by omega)]; rfl
    rw [e]; simp
theorem val_take_zero (zs : List Int) : val (zs.take 0) = 0 := rfl
theorem take_set_same (qs : List Int) (k : Nat) (d : Int) : (qs.set k d).take k = qs.take k := by
  rw [List.take_set_of_le (Nat.le_refl _)]
theorem getD_set (qs : List Int) (k : Nat) (d : Int) (h : k < qs.length) : (qs.set k d).getD k 0 = d := by simp [List.getD_eq_getElem?_getD, h]
theorem digs_set {qs : List Int} (h : digs qs) (k : Nat) {d : Int} (hd : dig d) : digs (qs.set k d) := by
  intro i hi
  rw [List.length_set] at hi
  by_cases e : i = k
  · subst e; rw [getD_set _ _ _ hi]; exact hd
  · have : (qs.set k d).getD i 0 = qs.getD i 0 := by simp [List.getD_eq_getElem?_getD, Ne.symm e]
    rw [this]; exact h i hi
theorem digs_zeros (n : Nat) : digs (List.replicate n 0) := by
  intro i hi
  rw [List.length_replicate] at hi
  simp [List.getD_eq_getElem?_getD, hi, dig]
theorem digs_getD {xs : List Int} (h : digs xs) (k : Nat) : dig (xs.getD k 0) := by
  by_cases hk : k < xs.length
  · exact h k hk
  · rw [List.getD_eq_getElem?_getD, List.getElem?_eq_none (by omega)]; simp [dig]
theorem mul_bd {x f F : Int} (h1 : dig x) (h2 : -F ≤ f) (h3 : f ≤ F) : -(65535 * F) ≤ x * f ∧ x * f ≤ 65535 * F := by
  unfold dig at h1
  have hF : 0 ≤ F := by omega
  have a1 : x * f ≤ x * F := Int.mul_le_mul_of_nonneg_left h3 h1.1
  have a2 : x * F ≤ 65535 * F := Int.mul_le_mul_of_nonneg_right (by omega) hF
  have a3 : x * (-F) ≤ x * f := Int.mul_le_mul_of_nonneg_left h2 h1.1
  rw [Int.mul_neg] at a3
  omega
/-- a carry stays small -/
theorem carry_bd {F c s p q : Int} (hF : 1 ≤ F) (hc : -(4 * F) ≤ c ∧ c ≤ 4 * F) (hp : -(65535 * F) ≤ p ∧ p ≤ 65535 * F) (hq : -(65535 * F) ≤ q ∧ q ≤ 65535 * F) : -(4 * F) ≤ (c + p + q) / 65536 ∧ (c + p + q) / 65536 ≤ 4 * F := by omega
theorem mix_step {A P c F x y fa fb s d c' : Int} (h : A + P * c = F) (hs : s = c + x * fa + y * fb) (hd : s = d + 65536 * c') : A + P * d + P * 65536 * c' = F + P * x * fa + P * y * fb := by
  grind
theorem pow_cast (L : Nat) : ((65536 ^ L : Nat) : Int) = (65536 : Int) ^ L := Int.natCast_pow 65536 L
theorem mix_end {L : Nat} {q : Nat} {c V : Int} (h : (q : Int) + (65536 : Int) ^ L * c = V) (hq : q < 65536 ^ L) (h0 : 0 ≤ V) (h1 : V < (65536 : Int) ^ L) : c = 0 ∧ V.toNat = q := by
  have e := pow_cast L
  have hq' : (q : Int) < (65536 : Int) ^ L := by omega
  have hP : (0 : Int) < (65536 : Int) ^ L := by omega
  have hc : c = 0 := by
    rcases Int.lt_trichotomy c 0 with g | g | g
    · have : (65536 : Int) ^ L * c ≤ (65536 : Int) ^ L * (-1) := Int.mul_le_mul_of_nonneg_left (by omega) (by omega)
      omega
    · exact g
    · have : (65536 : Int) ^ L * 1 ≤ (65536 : Int) ^ L * c := Int.mul_le_mul_of_nonneg_left (by omega) (by omega)
      omega
  subst hc
  simp at h
  omega
end Go.Proofs.YtpamnpdigoikoaaDoor
