/- What the language's conversions between the two widths give, as words: widening, and narrowing of what is not beyond the greatest narrow float. No condition but the ranges named. -/
import Derived.Test.YtgoffjpfddmhhaaGreatDoorPK24
import Derived.Laws.FloatArith
namespace Go.Proofs.YtgoffjpfddmhhaaGreatDoor
open Ieee

theorem dbl_fin (neg : Bool) (R : Nat) (h : R < 9218868437227405312) : (double.read (double.word neg R)).isInfinity = false := by
  rw [double_read neg R h]; rfl

theorem f2f_widen (neg : Bool) (r : Nat) (h : r ≤ 2139095040) : floatToFloatBits .f32 (single.word neg r) .f64 = some (double.word neg (wid r)) := by
  unfold floatToFloatBits
  rw [if_neg (by decide)]
  show (match single.read (single.word neg r) with
    | .nan _ _ => none
    | .infinity s => some (double.write (.infinity s))
    | .number s m e => if (double.read (double.write (.number s m e))).isInfinity then none else some (double.write (.number s m e))) = _
  by_cases hr : r < 2139095040
  · have hw := widen_word neg r hr
    have hlt := wid_lt hr
    rw [single_read neg r hr] at hw ⊢
    split at hw
    · rename_i h1
      rw [if_pos h1]
      simp only []
      rw [hw, dbl_fin neg _ hlt]
      rfl
    · rename_i h1
      rw [if_neg h1]
      simp only []
      rw [hw, dbl_fin neg _ hlt]
      rfl
  · have e : r = 2139095040 := by omega
    subst e
    have hs : single.read (single.word neg 2139095040) = .infinity neg := by cases neg <;> decide
    rw [hs, wid_top]
    rfl

def widI (n : Int) : Int := if n < 0 then -(wid (-n).toNat : Int) else (wid n.toNat : Int)

theorem wid_bd {r : Nat} (h : r ≤ 2139095040) : wid r ≤ 9218868437227405312 := by
  have := wid_le h (Nat.le_refl _); rw [wid_top] at this; exact this
end Go.Proofs.YtgoffjpfddmhhaaGreatDoor
