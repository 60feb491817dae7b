/- The contract of the program's narrowBelow, with its closure and lastThat: the greatest narrow float that is not above a wide one; nothing that was there is written. -/
import Derived.Test.YtlggbihdmabifaaGreatDoorPK37
import Derived.Test.YtlggbihdmabifaaGreatDoorPK01
import Derived.WalkKit
import Derived.Laws.BitsAllLaws
import Derived.Test.YtlggbihdmabifaaGreatDoorPK20
import Derived.Test.YtlggbihdmabifaaGreatDoorPK22
import Derived.Deep.RegionWith
namespace Go.Proofs.YtlggbihdmabifaaGreatDoor
open Go.RowKit


theorem wrap_i64 (N : Nat) (h : N < 18446744073709551616) : IntKind.i64.wrap (N : Int) = if 9223372036854775808 ≤ N then (N : Int) - 18446744073709551616 else N := by
  have hx : (N : Int) % 2 ^ 64 = N := by omega
  simp only [IntKind.wrap, IntKind.bits, IntKind.signed, hx]
  by_cases h : 9223372036854775808 ≤ N
  · rw [if_pos (by simp; omega), if_pos h]; rfl
  · rw [if_neg (by simp; omega), if_neg h]

end Go.Proofs.YtlggbihdmabifaaGreatDoor
