/- The contract of the specification's BitBelow and BitAbove: the greatest narrow float that is not above a wide one, and its mirror; nothing that was there is written. -/
import Derived.Test.YtlggbihdmabifaaGreatDoorPK20
import Derived.Test.YtlggbihdmabifaaGreatDoorPK22
namespace Go.Proofs.YtlggbihdmabifaaGreatDoor
open Go.RowKit

/-- n is the greatest narrow order number whose wide one is not above o -/
def IsBelow (o n : Int) : Prop := -2139095040 ≤ n ∧ n ≤ 2139095040 ∧ widI n ≤ o ∧ (n < 2139095040 → o < widI (n + 1))

theorem IsBelow.one {o a b : Int} (ha : IsBelow o a) (hb : IsBelow o b) : a = b := by
  obtain ⟨a1, a2, a3, a4⟩ := ha
  obtain ⟨b1, b2, b3, b4⟩ := hb
  by_cases h : a < b
  · have x := a4 (by omega)
    have y := widI_le (a := a + 1) (b := b) (by omega) (by omega) b2
    omega
  by_cases h' : b < a
  · have x := b4 (by omega)
    have y := widI_le (a := b + 1) (b := a) (by omega) (by omega) a2
    omega
  omega

end Go.Proofs.YtlggbihdmabifaaGreatDoor
