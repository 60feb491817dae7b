/- Plain mathematics of patterns, order numbers and parts: a number comes back from its pattern, a pattern from its number unless it is the sign alone, and what MkPost says of a part, or of twice its size with one power less, is the number that the part is of. -/
import Derived.Test.YtljmmaaaeojbpaaDoorZ6
import Derived.Test.YtljmmaaaeojbpaaDoorPA
import Derived.Test.YtljmmaaaeojbpaaDoorW3
import Derived.Test.YtljmmaaaeojbpaaDoorW4
namespace Go.Proofs.YtljmmaaaeojbpaaDoor
open Go.RowKit
set_option linter.unusedVariables false

theorem mk_same (f : Nat) (L E U s : Int) (hU : U = ((2 ^ f : Nat) : Int)) (o z k : Nat) (ho : o % 2 = 1) (hsz : ((o * 2 ^ z : Nat) : Int) = pSize U s) (h0 : 0 < s) (h1 : s < E * U) (hE : 2 ≤ E) (bl : Bool) (e : Ending)
    (h : MkPost L U E (pPow U L s + (z : Int)) (min ((f : Int) - (o.log2 : Int)) (pPow U L s + (z : Int) - L)) ((o * 2 ^ (min ((f : Int) - (o.log2 : Int)) (pPow U L s + (z : Int) - L)).toNat : Nat) : Int) bl e) :
    e = .returned (.tuple #[.int .i64 (if bl then -s else s), .bool true]) := by
  have o0 : o ≠ 0 := by omega
  have up : 0 < U := by rw [hU]; exact_mod_cast Nat.two_pow_pos f
  have a := mkD_lt o z f o0
  have b := mkD_lt o z (f + 1) o0
  have eU2 : ((2 ^ (f + 1) : Nat) : Int) = 2 * U := by rw [hU, Nat.pow_succ]; push_cast; omega
  rw [eU2] at b
  rw [← hU] at a
  have eD : mkD o z = pSize U s := hsz
  rw [eD] at a b
  have key : min ((f : Int) - (o.log2 : Int)) (pPow U L s + (z : Int) - L) = (z : Int) ∧ pPow U L s - L + 1 < E ∧ (pPow U L s - L) * U + pSize U s = s := by
    unfold pSize pPow at *
    by_cases c : s < U
    · simp only [c, if_true] at *
      have := a.1 trivial
      refine ⟨by omega, by omega, ?_⟩
      rw [Int.sub_self, Int.zero_mul, Int.zero_add]
    · have c' : U ≤ s := by omega
      simp only [c, if_false] at *
      have m0 := Int.emod_nonneg s (Int.ne_of_gt up)
      have m1 := Int.emod_lt_of_pos s up
      have dm := Int.mul_ediv_add_emod s U
      have d1 : 1 ≤ s / U := (Int.le_ediv_iff_mul_le up).2 (by omega)
      have d2 : s / U < E := Int.ediv_lt_of_lt_mul up h1
      have n1 : ¬ ((z : Int) < (f : Int) - (o.log2 : Int)) := fun h => by have := a.2 h; omega
      have n2 := b.1 (by omega)
      refine ⟨by push_cast at n2; omega, by omega, ?_⟩
      have : (L + (s / U - 1) - L) * U = U * (s / U) - U := by
        rw [show L + (s / U - 1) - L = s / U - 1 by omega, Int.sub_mul, Int.one_mul, Int.mul_comm]
      omega
  obtain ⟨k1, k2, k3⟩ := key
  rw [k1] at h
  have e1 : pPow U L s + (z : Int) - (z : Int) - L = pPow U L s - L := by omega
  have h2 := h.2 (by omega) (by omega)
  rw [Int.toNat_natCast, hsz, e1, k3] at h2
  exact h2

theorem ord_bits (S T n : Int) (h : T < S) (a : -T ≤ n) (b : n ≤ T) : ordN S T (bitsI S n) = n ∧ ordB S T (bitsI S n) = true := by
  have hm : bitsI S n % S = if n < 0 then -n else n := by
    unfold bitsI
    split
    · rw [show S - n = -n + S * 1 by omega, Int.add_mul_emod_self_left, Int.emod_eq_of_lt (by omega) (by omega)]
    · exact Int.emod_eq_of_lt (by omega) (by omega)
  unfold ordN ordB
  rw [hm]
  unfold bitsI
  constructor
  · split <;> (repeat (first | omega | split))
  · apply decide_eq_true
    split <;> omega

theorem bits_ord (S T b : Int) (h0 : 0 ≤ b) (h : T < S) (hT : 0 < T) (k : ordB S T b = true) : -T ≤ ordN S T b ∧ ordN S T b ≤ T ∧ (bitsI S (ordN S T b) = b ∨ b = S) := by
  have k' : b < 2 * S ∧ b % S ≤ T := of_decide_eq_true k
  obtain ⟨k1, k2⟩ := k'
  have m0 := Int.emod_nonneg b (show S ≠ 0 by omega)
  have hm : b % S = if S ≤ b then b - S else b := by
    split
    · rw [show b = (b - S) + S * 1 by omega, Int.add_mul_emod_self_left, Int.emod_eq_of_lt (by omega) (by omega)]; omega
    · exact Int.emod_eq_of_lt h0 (by omega)
  unfold ordN bitsI
  rw [if_neg (by omega), if_neg (by omega)]
  by_cases c : S ≤ b
  · rw [if_pos c] at hm ⊢
    refine ⟨by omega, by omega, ?_⟩
    split <;> omega
  · rw [if_neg c] at hm ⊢
    refine ⟨by omega, by omega, ?_⟩
    split <;> omega

theorem made_32 (n : Int) (h1 : -2139095040 < n) (h2 : n < 2139095040) (w : World) (hT : Tab w) :
    Calls Tryd.prog 12 #[.int .i64 32, .agg #[.bool (decide (n < 0)), .int .u64 (pSize 8388608 (absI n)), .int .i64 (pPow 8388608 (-149) (absI n))]] w fun e w' => e = .returned (.tuple #[.int .i64 n, .bool true]) ∧ Below w.heap.size w w' := by
  by_cases c0 : n = 0
  · subst c0
    have e0 : decide ((0 : Int) < 0) = false := by decide
    have e1 : (pSize 8388608 (absI 0)) = 0 := by decide
    have e2 : (pPow 8388608 (-149) (absI 0)) = (-149) := by decide
    rw [e0, e1, e2]
    exact iMake_32_zero false (-149) (by decide) (by decide) w
  have a0 : 0 < absI n := by unfold absI; split <;> omega
  have a1 : absI n < 2139095040 := by unfold absI; split <;> omega
  have ps : 0 < pSize 8388608 (absI n) ∧ pSize 8388608 (absI n) < 16777216 := by unfold pSize; split <;> omega
  have pp : -149 ≤ pPow 8388608 (-149) (absI n) ∧ pPow 8388608 (-149) (absI n) ≤ 106 := by unfold pPow; split <;> omega
  obtain ⟨o, z, ho, hz⟩ := odd_part (pSize 8388608 (absI n)).toNat (by omega)
  have hS : ((o * 2 ^ z : Nat) : Int) = pSize 8388608 (absI n) := by omega
  have hS2 : ((o * 2 ^ (z + 1) : Nat) : Int) = pSize 8388608 (absI n) * 2 := by rw [Nat.pow_succ, ← Nat.mul_assoc]; omega
  have hx : o * 2 ^ z < 2 ^ 64 := by omega
  have zz : z ≤ 23 := by
    apply Nat.le_of_not_lt
    intro h
    have h1 : 2 ^ 24 ≤ 2 ^ z := Nat.pow_le_pow_right (by omega) h
    have h2 : 2 ^ z ≤ o * 2 ^ z := Nat.le_mul_of_pos_left _ (by omega)
    omega
  have h := iMake_32 o z (pPow 8388608 (-149) (absI n) + (z : Int)) (decide (n < 0)) w hT ho hx (by omega) (by omega) (by omega)
  rw [hS, show pPow 8388608 (-149) (absI n) + (z : Int) - ((z : Nat) : Int) = (pPow 8388608 (-149) (absI n)) by omega] at h
  refine h.mono fun e w' ⟨hm, hb⟩ => ⟨?_, hb⟩
  rw [mk_same 23 (-149) 255 8388608 (absI n) (by decide) o z 0 ho hS a0 (by omega) (by decide) (decide (n < 0)) e hm]
  have hv : (if decide (n < 0) = true then -absI n else absI n) = n := by unfold absI; simp only [decide_eq_true_eq]; split <;> omega
  rw [hv]

theorem twice_32 (n : Int) (h1 : -2139095040 < n) (h2 : n < 2139095040) (w : World) (hT : Tab w) :
    Calls Tryd.prog 12 #[.int .i64 32, .agg #[.bool (decide (n < 0)), .int .u64 (pSize 8388608 (absI n) * 2), .int .i64 (pPow 8388608 (-149) (absI n) - 1)]] w fun e w' => e = .returned (.tuple #[.int .i64 n, .bool true]) ∧ Below w.heap.size w w' := by
  by_cases c0 : n = 0
  · subst c0
    have e0 : decide ((0 : Int) < 0) = false := by decide
    have e1 : (pSize 8388608 (absI 0) * 2) = 0 := by decide
    have e2 : (pPow 8388608 (-149) (absI 0) - 1) = (-150) := by decide
    rw [e0, e1, e2]
    exact iMake_32_zero false (-150) (by decide) (by decide) w
  have a0 : 0 < absI n := by unfold absI; split <;> omega
  have a1 : absI n < 2139095040 := by unfold absI; split <;> omega
  have ps : 0 < pSize 8388608 (absI n) ∧ pSize 8388608 (absI n) < 16777216 := by unfold pSize; split <;> omega
  have pp : -149 ≤ pPow 8388608 (-149) (absI n) ∧ pPow 8388608 (-149) (absI n) ≤ 106 := by unfold pPow; split <;> omega
  obtain ⟨o, z, ho, hz⟩ := odd_part (pSize 8388608 (absI n)).toNat (by omega)
  have hS : ((o * 2 ^ z : Nat) : Int) = pSize 8388608 (absI n) := by omega
  have hS2 : ((o * 2 ^ (z + 1) : Nat) : Int) = pSize 8388608 (absI n) * 2 := by rw [Nat.pow_succ, ← Nat.mul_assoc]; omega
  have hx : o * 2 ^ (z + 1) < 2 ^ 64 := by omega
  have zz : z ≤ 23 := by
    apply Nat.le_of_not_lt
    intro h
    have h1 : 2 ^ 24 ≤ 2 ^ z := Nat.pow_le_pow_right (by omega) h
    have h2 : 2 ^ z ≤ o * 2 ^ z := Nat.le_mul_of_pos_left _ (by omega)
    omega
  have h := iMake_32 o (z + 1) (pPow 8388608 (-149) (absI n) + (z : Int)) (decide (n < 0)) w hT ho hx (by omega) (by omega) (by omega)
  rw [hS2, show pPow 8388608 (-149) (absI n) + (z : Int) - (((z + 1) : Nat) : Int) = (pPow 8388608 (-149) (absI n) - 1) by omega] at h
  refine h.mono fun e w' ⟨hm, hb⟩ => ⟨?_, hb⟩
  rw [mk_same 23 (-149) 255 8388608 (absI n) (by decide) o z 0 ho hS a0 (by omega) (by decide) (decide (n < 0)) e hm]
  have hv : (if decide (n < 0) = true then -absI n else absI n) = n := by unfold absI; simp only [decide_eq_true_eq]; split <;> omega
  rw [hv]

theorem made_64 (n : Int) (h1 : -9218868437227405312 < n) (h2 : n < 9218868437227405312) (w : World) (hT : Tab w) :
    Calls Tryd.prog 12 #[.int .i64 64, .agg #[.bool (decide (n < 0)), .int .u64 (pSize 4503599627370496 (absI n)), .int .i64 (pPow 4503599627370496 (-1074) (absI n))]] w fun e w' => e = .returned (.tuple #[.int .i64 n, .bool true]) ∧ Below w.heap.size w w' := by
  by_cases c0 : n = 0
  · subst c0
    have e0 : decide ((0 : Int) < 0) = false := by decide
    have e1 : (pSize 4503599627370496 (absI 0)) = 0 := by decide
    have e2 : (pPow 4503599627370496 (-1074) (absI 0)) = (-1074) := by decide
    rw [e0, e1, e2]
    exact iMake_64_zero false (-1074) (by decide) (by decide) w
  have a0 : 0 < absI n := by unfold absI; split <;> omega
  have a1 : absI n < 9218868437227405312 := by unfold absI; split <;> omega
  have ps : 0 < pSize 4503599627370496 (absI n) ∧ pSize 4503599627370496 (absI n) < 9007199254740992 := by unfold pSize; split <;> omega
  have pp : -1074 ≤ pPow 4503599627370496 (-1074) (absI n) ∧ pPow 4503599627370496 (-1074) (absI n) ≤ 973 := by unfold pPow; split <;> omega
  obtain ⟨o, z, ho, hz⟩ := odd_part (pSize 4503599627370496 (absI n)).toNat (by omega)
  have hS : ((o * 2 ^ z : Nat) : Int) = pSize 4503599627370496 (absI n) := by omega
  have hS2 : ((o * 2 ^ (z + 1) : Nat) : Int) = pSize 4503599627370496 (absI n) * 2 := by rw [Nat.pow_succ, ← Nat.mul_assoc]; omega
  have hx : o * 2 ^ z < 2 ^ 64 := by omega
  have zz : z ≤ 52 := by
    apply Nat.le_of_not_lt
    intro h
    have h1 : 2 ^ 53 ≤ 2 ^ z := Nat.pow_le_pow_right (by omega) h
    have h2 : 2 ^ z ≤ o * 2 ^ z := Nat.le_mul_of_pos_left _ (by omega)
    omega
  have h := iMake_64 o z (pPow 4503599627370496 (-1074) (absI n) + (z : Int)) (decide (n < 0)) w hT ho hx (by omega) (by omega) (by omega)
  rw [hS, show pPow 4503599627370496 (-1074) (absI n) + (z : Int) - ((z : Nat) : Int) = (pPow 4503599627370496 (-1074) (absI n)) by omega] at h
  refine h.mono fun e w' ⟨hm, hb⟩ => ⟨?_, hb⟩
  rw [mk_same 52 (-1074) 2047 4503599627370496 (absI n) (by decide) o z 0 ho hS a0 (by omega) (by decide) (decide (n < 0)) e hm]
  have hv : (if decide (n < 0) = true then -absI n else absI n) = n := by unfold absI; simp only [decide_eq_true_eq]; split <;> omega
  rw [hv]

theorem twice_64 (n : Int) (h1 : -9218868437227405312 < n) (h2 : n < 9218868437227405312) (w : World) (hT : Tab w) :
    Calls Tryd.prog 12 #[.int .i64 64, .agg #[.bool (decide (n < 0)), .int .u64 (pSize 4503599627370496 (absI n) * 2), .int .i64 (pPow 4503599627370496 (-1074) (absI n) - 1)]] w fun e w' => e = .returned (.tuple #[.int .i64 n, .bool true]) ∧ Below w.heap.size w w' := by
  by_cases c0 : n = 0
  · subst c0
    have e0 : decide ((0 : Int) < 0) = false := by decide
    have e1 : (pSize 4503599627370496 (absI 0) * 2) = 0 := by decide
    have e2 : (pPow 4503599627370496 (-1074) (absI 0) - 1) = (-1075) := by decide
    rw [e0, e1, e2]
    exact iMake_64_zero false (-1075) (by decide) (by decide) w
  have a0 : 0 < absI n := by unfold absI; split <;> omega
  have a1 : absI n < 9218868437227405312 := by unfold absI; split <;> omega
  have ps : 0 < pSize 4503599627370496 (absI n) ∧ pSize 4503599627370496 (absI n) < 9007199254740992 := by unfold pSize; split <;> omega
  have pp : -1074 ≤ pPow 4503599627370496 (-1074) (absI n) ∧ pPow 4503599627370496 (-1074) (absI n) ≤ 973 := by unfold pPow; split <;> omega
  obtain ⟨o, z, ho, hz⟩ := odd_part (pSize 4503599627370496 (absI n)).toNat (by omega)
  have hS : ((o * 2 ^ z : Nat) : Int) = pSize 4503599627370496 (absI n) := by omega
  have hS2 : ((o * 2 ^ (z + 1) : Nat) : Int) = pSize 4503599627370496 (absI n) * 2 := by rw [Nat.pow_succ, ← Nat.mul_assoc]; omega
  have hx : o * 2 ^ (z + 1) < 2 ^ 64 := by omega
  have zz : z ≤ 52 := by
    apply Nat.le_of_not_lt
    intro h
    have h1 : 2 ^ 53 ≤ 2 ^ z := Nat.pow_le_pow_right (by omega) h
    have h2 : 2 ^ z ≤ o * 2 ^ z := Nat.le_mul_of_pos_left _ (by omega)
    omega
  have h := iMake_64 o (z + 1) (pPow 4503599627370496 (-1074) (absI n) + (z : Int)) (decide (n < 0)) w hT ho hx (by omega) (by omega) (by omega)
  rw [hS2, show pPow 4503599627370496 (-1074) (absI n) + (z : Int) - (((z + 1) : Nat) : Int) = (pPow 4503599627370496 (-1074) (absI n) - 1) by omega] at h
  refine h.mono fun e w' ⟨hm, hb⟩ => ⟨?_, hb⟩
  rw [mk_same 52 (-1074) 2047 4503599627370496 (absI n) (by decide) o z 0 ho hS a0 (by omega) (by decide) (decide (n < 0)) e hm]
  have hv : (if decide (n < 0) = true then -absI n else absI n) = n := by unfold absI; simp only [decide_eq_true_eq]; split <;> omega
  rw [hv]
end Go.Proofs.YtljmmaaaeojbpaaDoor
