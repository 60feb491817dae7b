/- The value of a float as a fraction: a size times a power of two; what is left of it in lowest terms is the same however much of the size is put into the power; the wide float of a narrow one has the same value. Mathematics alone. -/
import Derived.Test.YtmhifokmncfgeaaGreatDoorFG
import Derived.Test.YtmhifokmncfgeaaGreatDoorM2
import Derived.Test.YtmhifokmncfgeaaGreatDoorPA
namespace Go.Proofs.YtmhifokmncfgeaaGreatDoor
open Go.RowKit
set_option linter.unusedVariables false
set_option maxRecDepth 100000

/-- above and below the line of s times 2 to the power of p -/
def vA (s : Nat) (p : Int) : Nat := if 0 ≤ p then 2 ^ p.toNat * s else s
def vB (p : Int) : Nat := if 0 ≤ p then 1 else 2 ^ (-p).toNat
theorem vB_ne (p : Int) : vB p ≠ 0 := by
  unfold vB
  split
  · omega
  · exact Nat.ne_of_gt (Nat.pow_pos (by omega))
theorem low_scale (A B k : Nat) (hk : 0 < k) : lowT (A * k) (B * k) = lowT A B ∧ lowU (A * k) (B * k) = lowU A B := by
  unfold lowT lowU
  rw [Nat.gcd_mul_right, Nat.mul_div_mul_right _ _ hk, Nat.mul_div_mul_right _ _ hk]
  exact ⟨rfl, rfl⟩
/-- the same in lowest terms -/
def SameF (A B A' B' : Nat) : Prop := lowT A B = lowT A' B' ∧ lowU A B = lowU A' B' ∧ (A = 0 ↔ A' = 0) ∧ (B = 0 ↔ B' = 0)
theorem SameF.refl (A B : Nat) : SameF A B A B := ⟨rfl, rfl, Iff.rfl, Iff.rfl⟩
theorem SameF.symm {A B A' B' : Nat} (h : SameF A B A' B') : SameF A' B' A B := ⟨h.1.symm, h.2.1.symm, h.2.2.1.symm, h.2.2.2.symm⟩
theorem SameF.trans {A B A' B' A'' B'' : Nat} (h : SameF A B A' B') (g : SameF A' B' A'' B'') : SameF A B A'' B'' := ⟨h.1.trans g.1, h.2.1.trans g.2.1, h.2.2.1.trans g.2.2.1, h.2.2.2.trans g.2.2.2⟩
theorem SameF.scale (A B k : Nat) (hk : 0 < k) : SameF (A * k) (B * k) A B := by
  refine ⟨(low_scale A B k hk).1, (low_scale A B k hk).2, ?_, ?_⟩
  · rw [Nat.mul_eq_zero]; omega
  · rw [Nat.mul_eq_zero]; omega
theorem SameF.low {A B A' B' : Nat} (h : SameF A B A' B') : lowB A B = lowB A' B' := by
  unfold lowB
  rw [h.1, h.2.1]
  have : decide (B ≠ 0) = decide (B' ≠ 0) := by
    rw [decide_eq_decide]
    exact not_congr h.2.2.2
  rw [this]
theorem SameF.res {A B A' B' : Nat} (h : SameF A B A' B') {w : World} {base : Nat} {e : Ending} {s : Bool} (hr : FRes w base e (lowB A B) s A B) : FRes w base e (lowB A' B') s A' B' := by
  rw [h.low] at hr
  unfold FRes at hr ⊢
  have e1 : fT (lowB A' B') A B = fT (lowB A' B') A' B' := by unfold fT; rw [h.1]
  have e2 : fU (lowB A' B') A B = fU (lowB A' B') A' B' := by unfold fU; rw [h.2.1]
  have e3 : fS (lowB A' B') s A = fS (lowB A' B') s A' := by
    unfold fS
    have : decide (A ≠ 0) = decide (A' ≠ 0) := by rw [decide_eq_decide]; exact not_congr h.2.2.1
    rw [this]
  rw [← e1, ← e2, ← e3]
  exact hr
theorem pow_splitF (a b : Nat) : 2 ^ (a + b) = 2 ^ a * 2 ^ b := Nat.pow_add 2 a b
theorem same_shift (s : Nat) (p : Int) (k : Nat) : SameF (vA (s * 2 ^ k) p) (vB p) (vA s (p + k)) (vB (p + k)) := by
  unfold vA vB
  by_cases c1 : 0 ≤ p
  · have c2 : 0 ≤ p + k := by omega
    rw [if_pos c1, if_pos c1, if_pos c2, if_pos c2]
    have : (p + k).toNat = p.toNat + k := by omega
    rw [this, pow_splitF]
    have e : 2 ^ p.toNat * (s * 2 ^ k) = 2 ^ p.toNat * 2 ^ k * s := by rw [Nat.mul_comm s, Nat.mul_assoc]
    rw [e]
    exact SameF.refl _ _
  rw [if_neg c1, if_neg c1]
  by_cases c2 : 0 ≤ p + k
  · rw [if_pos c2, if_pos c2]
    have hk : k = (p + k).toNat + (-p).toNat := by omega
    have e : s * 2 ^ k = 2 ^ (p + k).toNat * s * 2 ^ (-p).toNat := by
      rw [Nat.mul_comm s, Nat.mul_assoc, Nat.mul_comm s, ← Nat.mul_assoc, ← pow_splitF, ← hk]
    have g := SameF.scale (2 ^ (p + k).toNat * s) 1 (2 ^ (-p).toNat) (Nat.pow_pos (by omega))
    rw [Nat.one_mul] at g
    rw [e]
    exact g
  · rw [if_neg c2, if_neg c2]
    have hk : (-p).toNat = (-(p + k)).toNat + k := by omega
    rw [hk, pow_splitF]
    exact SameF.scale s (2 ^ (-(p + k)).toNat) (2 ^ k) (Nat.pow_pos (by omega))
theorem same_zero (p q : Int) : SameF (vA 0 p) (vB p) (vA 0 q) (vB q) := by
  have z : ∀ p, vA 0 p = 0 := fun p => by unfold vA; split <;> simp
  rw [z, z]
  have hp := vB_ne p
  have hq := vB_ne q
  refine ⟨by rw [lowT_zero, lowT_zero], by rw [lowU_zero hp, lowU_zero hq], Iff.rfl, ?_⟩
  constructor <;> intro h <;> omega

/-- the size and the power of a float that is m steps from 0 -/
def sz (U m : Nat) : Nat := if m < U then m else U + m % U
def pw (U : Nat) (L : Int) (m : Nat) : Int := if m < U then L else L + ((m / U : Nat) - 1)
theorem pSize_nat (U m : Nat) : pSize U m = (sz U m : Nat) := by
  unfold pSize sz
  by_cases c : m < U
  · rw [if_pos (by omega), if_pos c]
  · rw [if_neg (by omega), if_neg c]; omega
theorem pPow_nat (U : Nat) (L : Int) (m : Nat) : pPow U L m = pw U L m := by
  unfold pPow pw
  by_cases c : m < U
  · rw [if_pos (by omega), if_pos c]
  · rw [if_neg (by omega), if_neg c]; omega
theorem wide_part {m : Nat} (h : m < 2139095040) (h0 : m ≠ 0) : ∃ k : Nat, sz 4503599627370496 (wid m) = sz 8388608 m * 2 ^ k ∧ pw 4503599627370496 (-1074) (wid m) + k = pw 8388608 (-149) m := by
  by_cases c : m < 8388608
  · rw [wid_small h0 c]
    have l1 : m.log2 ≤ 22 := by
      have := (Nat.log2_lt h0).2 (show m < 2 ^ 23 by omega)
      omega
    have b1 : 2 ^ m.log2 ≤ m := Nat.log2_self_le h0
    have b2 : m < 2 ^ (m.log2 + 1) := Nat.lt_log2_self
    have g1 : 4503599627370496 ≤ m * 2 ^ (52 - m.log2) := by
      have : 2 ^ m.log2 * 2 ^ (52 - m.log2) = 4503599627370496 := by rw [← Nat.pow_add, show m.log2 + (52 - m.log2) = 52 by omega]
      rw [← this]
      exact Nat.mul_le_mul_right _ b1
    have g2 : m * 2 ^ (52 - m.log2) < 9007199254740992 := by
      have : 2 ^ (m.log2 + 1) * 2 ^ (52 - m.log2) = 9007199254740992 := by rw [← Nat.pow_add, show m.log2 + 1 + (52 - m.log2) = 53 by omega]
      rw [← this]
      exact Nat.mul_lt_mul_of_pos_right b2 (Nat.pow_pos (by omega))
    refine ⟨52 - m.log2, ?_, ?_⟩
    · unfold sz
      rw [if_pos c]
      generalize m * 2 ^ (52 - m.log2) = t at *
      rw [if_neg (by omega)]
      omega
    · unfold pw
      rw [if_pos c]
      generalize m * 2 ^ (52 - m.log2) = t at *
      rw [if_neg (by omega)]
      have : ((m.log2 + 873) * 4503599627370496 + t) / 4503599627370496 = m.log2 + 874 := by omega
      rw [this]
      omega
  · rw [wid_common (by omega) h]
    refine ⟨29, ?_, ?_⟩
    · unfold sz
      rw [if_neg c, if_neg (by omega)]
      have : 2 ^ 29 = 536870912 := rfl
      rw [this]
      omega
    · unfold pw
      rw [if_neg c, if_neg (by omega)]
      have : (896 * 4503599627370496 + m * 536870912) / 4503599627370496 = 896 + m / 8388608 := by omega
      rw [this]
      omega
/-- what the program makes of the wide float is the narrow one's value -/
theorem same_wide {m : Nat} (h : m < 2139095040) {o e : Nat} (he : sz 4503599627370496 (wid m) = o * 2 ^ e) :
    SameF (vA o (pw 4503599627370496 (-1074) (wid m) + e)) (vB (pw 4503599627370496 (-1074) (wid m) + e)) (vA (sz 8388608 m) (pw 8388608 (-149) m)) (vB (pw 8388608 (-149) m)) := by
  by_cases h0 : m = 0
  · subst h0
    rw [wid_zero] at *
    have z1 : sz 4503599627370496 0 = 0 := rfl
    have z2 : sz 8388608 0 = 0 := rfl
    rw [z1] at he
    have : o = 0 := by
      rcases Nat.mul_eq_zero.1 he.symm with g | g
      · exact g
      · exact absurd g (Nat.ne_of_gt (Nat.pow_pos (by omega)))
    rw [this, z2]
    exact same_zero _ _
  obtain ⟨k, h1, h2⟩ := wide_part h h0
  rw [← h2]
  refine ((same_shift o _ e).symm.trans ?_).trans (same_shift (sz 8388608 m) _ k)
  rw [← he, h1]
  exact SameF.refl _ _
theorem same_own {m : Nat} {o e : Nat} (he : sz 4503599627370496 m = o * 2 ^ e) :
    SameF (vA o (pw 4503599627370496 (-1074) m + e)) (vB (pw 4503599627370496 (-1074) m + e)) (vA (sz 4503599627370496 m) (pw 4503599627370496 (-1074) m)) (vB (pw 4503599627370496 (-1074) m)) := by
  rw [he]
  exact (same_shift o _ e).symm
theorem pw_bd {m : Nat} (h : m < 9218868437227405312) : -1074 ≤ pw 4503599627370496 (-1074) m ∧ pw 4503599627370496 (-1074) m ≤ 971 := by
  unfold pw
  split <;> omega
theorem sz_bd {m : Nat} : sz 4503599627370496 m < 9007199254740992 := by
  unfold sz
  split <;> omega
theorem pw_bd32 {m : Nat} (h : m < 2139095040) : -149 ≤ pw 8388608 (-149) m ∧ pw 8388608 (-149) m ≤ 104 := by
  unfold pw
  split <;> omega
theorem sz_bd32 {m : Nat} : sz 8388608 m < 16777216 := by
  unfold sz
  split <;> omega
end Go.Proofs.YtmhifokmncfgeaaGreatDoor
