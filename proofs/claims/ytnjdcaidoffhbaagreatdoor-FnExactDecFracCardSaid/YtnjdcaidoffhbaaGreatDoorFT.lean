/- Sums of ratios: the program. Conditions: digits, 1024 at most. -/
import Derived.Test.YtnjdcaidoffhbaaGreatDoorFQ
namespace Go.Proofs.YtnjdcaidoffhbaaGreatDoor
open Go.RowKit
set_option linter.unusedVariables false
set_option maxRecDepth 100000

theorem iPlusN (a b : Option Addr) (ca cb X Y : Nat) (w : World) (hA : InI w a (natL X).length ca (natL X)) (hB : InI w b (natL Y).length cb (natL Y)) (h1 : (natL X).length ≤ 2048) (h2 : (natL Y).length ≤ 2048) :
    Calls Tryz.prog 66 #[.slice a (natL X).length ca, .slice b (natL Y).length cb] w fun e w' => (∃ av cv, e = .returned (.slice av (natL (X + Y)).length cv) ∧ OI w' w.heap.size av cv (natL (X + Y))) ∧ Below w.heap.size w w' := by
  have := iPlus a b _ _ ca cb _ _ w hA hB (digs_natL X) (digs_natL Y) (by omega) (by omega)
  rw [val_natL, val_natL] at this
  exact this
end Go.Proofs.YtnjdcaidoffhbaaGreatDoor
