/- What a row that lists the library's two tables lays: the table of trailing noughts as the walks want it; a start that meets it. -/
import Derived.Test.YtmnjkhfpgjolbaaGreatDoorTie
import Derived.Test.YtmnjkhfpgjolbaaGreatDoorTZ
import Derived.LaidMore
import Derived.LaidHandle
import Derived.Lib.LaidTab
import Derived.ProofKit
import Derived.OpenShut
namespace Go.Proofs.YtmnjkhfpgjolbaaGreatDoor
open Go.ChangeShapes Go.WideShapes Go.ChangeAt Go.RowKit
set_option linter.unusedVariables false
set_option maxRecDepth 100000

theorem LT_own : ownKnob Tryz.prog.godebug = none := by kernel_rfl
def LT_fuel : Nat := 26
def LTL {H : Type} : List (String × DataW H) := [("math/bits.deBruijn32tab", Rows.laid_math_bits_deBruijn32tab), ("math/bits.deBruijn64tab", Rows.laid_math_bits_deBruijn64tab)]
theorem gTab : Tryz.prog.globalNamed "math/bits.deBruijn64tab" = some 2 := by kernel_rfl
theorem tTab : (Tryz.prog.globals[2]?).map (·.type) = some 126 := by kernel_rfl
theorem datumTab {H : Type} : (Rows.laid_math_bits_deBruijn64tab : DataW H) = Lib.tabData .u8 tab64 := rfl
theorem tab_second {W : World} {x : String × DataW Unit} (h : laidMet Tryz.prog [x, ("math/bits.deBruijn64tab", Lib.tabData .u8 tab64)] W) : Tab W := by
  obtain ⟨ps, ⟨g0, t0, cs0, f0, p0, q0, -, -, -, -, hrest, -⟩, -⟩ := h
  obtain ⟨g', t', cs, fuel, p, q, hg', ht', hvar, hd, -, -⟩ := hrest
  obtain rfl := Option.some.inj (gTab.symm.trans hg')
  obtain rfl := Option.some.inj (tTab.symm.trans ht')
  have hi : Lib.TabIs Tryz.prog W "math/bits.deBruijn64tab" .u8 tab64 := by
    unfold Lib.TabIs
    rw [hvar, ← Lib.cells_of_tab (n := 64) (by kernel_rfl) Tryz.underlying5 (by kernel_rfl) (by kernel_rfl) hd]
  have hc : ∀ i, i < 64 → W.cell? ⟨2, i, none⟩ = some (.int .u8 (tab64.getD i 0)) := fun i hi' => hi.cell gTab i hi'
  exact ⟨World.block_lt_of_cell? W _ (hc 0 (by decide)), hc⟩
theorem tab_of {W : World} (h : laidMetH Tryz.prog LTL W) : Tab W := by
  rw [MakeChecks.laidMetH_plain _ _ _ (by kernel_rfl)] at h
  unfold LTL at h
  rw [datumTab] at h
  exact tab_second h
theorem LT_met (os : Os) (args : Array Value) : laidMetH Tryz.prog LTL ((World.doorLaid Tryz.prog LT_fuel os).forCall (fun _ _ => 0) ⟨#[], args, []⟩).memory :=
  laidMetH_of_parts3 (fuel := 8) (laidMet_of_run' 8 (by kernel_rfl) (by kernel_rfl)) (by kernel_rfl) (by kernel_rfl)
theorem LT_shaped (os : Os) (args : Array Value) : ((World.doorLaid Tryz.prog LT_fuel os).forCall (fun _ _ => 0) ⟨#[], args, []⟩).Shaped Tryz.prog := World.shaped_of_RefB (by kernel_rfl) (by kernel_rfl)
end Go.Proofs.YtmnjkhfpgjolbaaGreatDoor
