/- What the language's conversions between the two widths give, as words: widening, and narrowing of what is not beyond the greatest narrow float. No condition but the ranges named. -/
import Derived.Test.YtpnfkigeagbhpaaPK10
import Derived.Laws.FloatArith
namespace Go.Proofs.Ytpnfkigeagbhpaa
open Ieee

theorem dbl_fin (neg : Bool) (R : Nat) (h : R < 9218868437227405312) : (double.read (double.word neg R)).isInfinity = false := by
  rw [double_read neg R h]; rfl

theorem sgl_fin (neg : Bool) (r : Nat) (h : r < 2139095040) : (single.read (single.word neg r)).isInfinity = false := by
  rw [single_read neg r h]; split <;> rfl

theorem f2f_widen (neg : Bool) (r : Nat) (h : r ≤ 2139095040) : floatToFloatBits .f32 (single.word neg r) .f64 = some (double.word neg (wid r)) := by
  unfold floatToFloatBits
  rw [if_neg (by decide)]
  show (match single.read (single.word neg r) with
    | .nan _ _ => none
    | .infinity s => some (double.write (.infinity s))
    | .number s m e => if (double.read (double.write (.number s m e))).isInfinity then none else some (double.write (.number s m e))) = _
  by_cases hr : r < 2139095040
  · have hw := widen_word neg r hr
    have hlt := wid_lt hr
    rw [single_read neg r hr] at hw ⊢
    split at hw
    · rename_i h1
      rw [if_pos h1]
      simp only []
      rw [hw, dbl_fin neg _ hlt]
      rfl
    · rename_i h1
      rw [if_neg h1]
      simp only []
      rw [hw, dbl_fin neg _ hlt]
      rfl
  · have e : r = 2139095040 := by omega
    subst e
    have hs : single.read (single.word neg 2139095040) = .infinity neg := by cases neg <;> decide
    rw [hs, wid_top]
    rfl

theorem f2f_narrow (neg : Bool) (R : Nat) (h : R ≤ wid 2139095039) : floatToFloatBits .f64 (double.word neg R) .f32 = some (single.word neg (nar R)) := by
  have hlt : R < 9218868437227405312 := Nat.lt_of_le_of_lt h (wid_lt (by decide))
  obtain ⟨F, -, -, -, -, hn⟩ := nar_near R h
  unfold floatToFloatBits
  rw [if_neg (by decide)]
  show (match double.read (double.word neg R) with
    | .nan _ _ => none
    | .infinity s => some (single.write (.infinity s))
    | .number s m e => if (single.read (single.write (.number s m e))).isInfinity then none else some (single.write (.number s m e))) = _
  have hw := narrow_word neg R hlt
  rw [double_read neg R hlt] at hw ⊢
  simp only []
  rw [hw, sgl_fin neg _ hn]
  rfl

def widI (n : Int) : Int := if n < 0 then -(wid (-n).toNat : Int) else (wid n.toNat : Int)

theorem widI_mono {a b : Int} (h : a < b) (ha : -2139095040 ≤ a) (hb : b ≤ 2139095040) : widI a < widI b := by
  unfold widI
  by_cases h1 : b < 0
  · rw [if_pos (by omega), if_pos h1]
    have := wid_mono (r := (-b).toNat) (s := (-a).toNat) (by omega) (by omega)
    omega
  · rw [if_neg h1]
    by_cases h2 : a < 0
    · rw [if_pos h2]
      have := wid_mono (r := 0) (s := (-a).toNat) (by omega) (by omega)
      omega
    · rw [if_neg h2]
      have := wid_mono (r := a.toNat) (s := b.toNat) (by omega) (by omega)
      omega
theorem widI_le {a b : Int} (h : a ≤ b) (ha : -2139095040 ≤ a) (hb : b ≤ 2139095040) : widI a ≤ widI b := by
  by_cases e : a = b
  · subst e; omega
  · exact Int.le_of_lt (widI_mono (by omega) ha hb)
theorem widI_neg (n : Int) : widI (-n) = -widI n := by
  unfold widI
  by_cases h0 : n = 0
  · subst h0; decide
  by_cases h : n < 0
  · rw [if_neg (by omega), if_pos h]; omega
  · rw [if_pos (by omega), if_neg h, Int.neg_neg]
theorem wid_bd {r : Nat} (h : r ≤ 2139095040) : wid r ≤ 9218868437227405312 := by
  have := wid_le h (Nat.le_refl _); rw [wid_top] at this; exact this
theorem widI_bd {n : Int} (h1 : -2139095040 ≤ n) (h2 : n ≤ 2139095040) : -9218868437227405312 ≤ widI n ∧ widI n ≤ 9218868437227405312 := by
  unfold widI
  split
  · have := wid_bd (r := (-n).toNat) (by omega); omega
  · have := wid_bd (r := n.toNat) (by omega); omega
end Go.Proofs.Ytpnfkigeagbhpaa
