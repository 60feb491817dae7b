/- What a row that lists the library's tables and its two errors of numbers lays: the powers of ten as the walks want them. -/
import Derived.Test.YtfdikhiaphgkpaaDoorLE
import Derived.Test.YtfdikhiaphgkpaaDoorLP
namespace Go.Proofs.YtfdikhiaphgkpaaDoor
open Go.ChangeShapes Go.WideShapes Go.ChangeAt Go.RowKit
set_option linter.unusedVariables false
set_option maxRecDepth 100000

theorem p10_of5 {W : World} (h : laidMetH Tryd.prog LEL W) : P10 W := by
  rw [MakeChecks.laidMetH_plain _ _ _ (by kernel_rfl)] at h
  unfold LEL at h
  rw [datumP10] at h
  exact p10_third h
end Go.Proofs.YtfdikhiaphgkpaaDoor
