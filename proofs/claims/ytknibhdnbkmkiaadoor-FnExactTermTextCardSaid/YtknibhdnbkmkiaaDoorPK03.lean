/- What a row that lists the library's tables of bits and its powers of ten lays, where none of them is read: a start that meets it. -/
import Derived.Test.YtknibhdnbkmkiaaDoorTie
import Derived.LaidMore
import Derived.LaidHandle
import Derived.Lib.LaidTab
import Derived.ProofKit
import Derived.OpenShut
namespace Go.Proofs.YtknibhdnbkmkiaaDoor
open Go.ChangeShapes Go.WideShapes Go.ChangeAt Go.RowKit
set_option linter.unusedVariables false
set_option maxRecDepth 100000

theorem LPX_own : ownKnob Tryd.prog.godebug = none := by kernel_rfl
def LPX_fuel : Nat := 24
def LPXL {H : Type} : List (String × DataW H) := [("math/bits.deBruijn32tab", Rows.laid_math_bits_deBruijn32tab), ("math/bits.deBruijn64tab", Rows.laid_math_bits_deBruijn64tab), ("internal/strconv.uint64pow10", Rows.laid_internal_strconv_uint64pow10)]
theorem LPX_met (os : Os) (args : Array Value) : laidMetH Tryd.prog LPXL ((World.doorLaid Tryd.prog LPX_fuel os).forCall (fun _ _ => 0) ⟨#[], args, []⟩).memory :=
  laidMetH_of_parts3 (fuel := 8) (laidMet_of_run' 8 (by kernel_rfl) (by kernel_rfl)) (by kernel_rfl) (by kernel_rfl)
theorem LPX_shaped (os : Os) (args : Array Value) : ((World.doorLaid Tryd.prog LPX_fuel os).forCall (fun _ _ => 0) ⟨#[], args, []⟩).Shaped Tryd.prog := World.shaped_of_RefB (by kernel_rfl) (by kernel_rfl)
end Go.Proofs.YtknibhdnbkmkiaaDoor
