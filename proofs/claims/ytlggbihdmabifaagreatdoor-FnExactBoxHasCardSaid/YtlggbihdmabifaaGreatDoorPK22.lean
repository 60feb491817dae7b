/- What the language's conversions between the two widths give, as words: widening, and narrowing of what is not beyond the greatest narrow float. No condition but the ranges named. -/
import Derived.Test.YtlggbihdmabifaaGreatDoorPK21
import Derived.Laws.FloatArith
namespace Go.Proofs.YtlggbihdmabifaaGreatDoor
open Ieee

def widI (n : Int) : Int := if n < 0 then -(wid (-n).toNat : Int) else (wid n.toNat : Int)

theorem widI_mono {a b : Int} (h : a < b) (ha : -2139095040 ≤ a) (hb : b ≤ 2139095040) : widI a < widI b := by
  unfold widI
  by_cases h1 : b < 0
  · rw [if_pos (by omega), if_pos h1]
    have := wid_mono (r := (-b).toNat) (s := (-a).toNat) (by omega) (by omega)
    omega
  · rw [if_neg h1]
    by_cases h2 : a < 0
    · rw [if_pos h2]
      have := wid_mono (r := 0) (s := (-a).toNat) (by omega) (by omega)
      omega
    · rw [if_neg h2]
      have := wid_mono (r := a.toNat) (s := b.toNat) (by omega) (by omega)
      omega
theorem widI_le {a b : Int} (h : a ≤ b) (ha : -2139095040 ≤ a) (hb : b ≤ 2139095040) : widI a ≤ widI b := by
  by_cases e : a = b
  · subst e; omega
  · exact Int.le_of_lt (widI_mono (by omega) ha hb)
end Go.Proofs.YtlggbihdmabifaaGreatDoor
