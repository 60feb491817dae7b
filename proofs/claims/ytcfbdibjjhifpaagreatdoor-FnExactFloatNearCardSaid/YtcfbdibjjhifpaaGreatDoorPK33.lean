/- PairHas of both sides, at every argument. Conditions: the library's table and its handle of errors lie as their texts lay them. Nothing that was there is written. -/
import Derived.Test.YtcfbdibjjhifpaaGreatDoorPK32
import Derived.Deep.RegionHeld3
namespace Go.Proofs.YtcfbdibjjhifpaaGreatDoor
open Go.RowKit
set_option linter.unusedVariables false
set_option maxRecDepth 100000

theorem sOf32 (n : Int) (h1 : -2139095040 < n) (h2 : n < 2139095040) (w : World) :
    Calls Tryz.prog 28 #[.int .i64 32, .int .i64 n] w fun e w' => (∃ av cv bv dv, e = .returned (.agg #[.bool (decide (n < 0)), .slice av (natL (vA (sz 8388608 n.natAbs) (pw 8388608 (-149) n.natAbs))).length cv, .slice bv (natL (vB (pw 8388608 (-149) n.natAbs))).length dv]) ∧ InI w' av (natL (vA (sz 8388608 n.natAbs) (pw 8388608 (-149) n.natAbs))).length cv (natL (vA (sz 8388608 n.natAbs) (pw 8388608 (-149) n.natAbs))) ∧ InI w' bv (natL (vB (pw 8388608 (-149) n.natAbs))).length dv (natL (vB (pw 8388608 (-149) n.natAbs)))) ∧ Below w.heap.size w w' := by
  have hm : n.natAbs < 2139095040 := by omega
  have hs : sz 8388608 n.natAbs < 9007199254740992 := (Nat.lt_of_lt_of_le sz_bd32 (by omega))
  have hp := pw_bd32 hm
  have PT := fun w => sPart_32 n h1 h2 w
  unfold partV at PT
  rw [absI_nat, show (8388608 : Int) = ((8388608 : Nat) : Int) from rfl, pSize_nat, pPow_nat] at PT
  exact l8_cut 32 n _ _ _ hs (by omega) w (hd PT)
theorem sOf64 (n : Int) (h1 : -9218868437227405312 < n) (h2 : n < 9218868437227405312) (w : World) :
    Calls Tryz.prog 28 #[.int .i64 64, .int .i64 n] w fun e w' => (∃ av cv bv dv, e = .returned (.agg #[.bool (decide (n < 0)), .slice av (natL (vA (sz 4503599627370496 n.natAbs) (pw 4503599627370496 (-1074) n.natAbs))).length cv, .slice bv (natL (vB (pw 4503599627370496 (-1074) n.natAbs))).length dv]) ∧ InI w' av (natL (vA (sz 4503599627370496 n.natAbs) (pw 4503599627370496 (-1074) n.natAbs))).length cv (natL (vA (sz 4503599627370496 n.natAbs) (pw 4503599627370496 (-1074) n.natAbs))) ∧ InI w' bv (natL (vB (pw 4503599627370496 (-1074) n.natAbs))).length dv (natL (vB (pw 4503599627370496 (-1074) n.natAbs)))) ∧ Below w.heap.size w w' := by
  have hm : n.natAbs < 9218868437227405312 := by omega
  have hs : sz 4503599627370496 n.natAbs < 9007199254740992 := sz_bd
  have hp := pw_bd hm
  have PT := fun w => sPart_64 n h1 h2 w
  unfold partV at PT
  rw [absI_nat, show (4503599627370496 : Int) = ((4503599627370496 : Nat) : Int) from rfl, pSize_nat, pPow_nat] at PT
  exact l8_cut 64 n _ _ _ hs (by omega) w (hd PT)
end Go.Proofs.YtcfbdibjjhifpaaGreatDoor
