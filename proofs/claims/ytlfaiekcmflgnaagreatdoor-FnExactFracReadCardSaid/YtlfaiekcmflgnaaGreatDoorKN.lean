/- What was read as a fraction is in lowest terms. Mathematics alone. -/
import Derived.Test.YtlfaiekcmflgnaaGreatDoorKM
namespace Go.Proofs.YtlfaiekcmflgnaaGreatDoor
open Go.RowKit Go.Lib
set_option linter.unusedVariables false
set_option maxRecDepth 100000

theorem okFR_low {l : List UInt8} (h : okFR l = true) : lowB (topFR l) (botFR l) = true := by
  unfold okFR okR at h
  simp only [Bool.and_eq_true] at h
  have hl := (fracOk_low h.2.2.1).1
  rw [val_natL, val_natL] at hl
  exact hl
end Go.Proofs.YtlfaiekcmflgnaaGreatDoor
