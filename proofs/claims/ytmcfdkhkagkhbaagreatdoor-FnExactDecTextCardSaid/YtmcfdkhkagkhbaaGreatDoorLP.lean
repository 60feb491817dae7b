/- What a row that lists the library's tables of bits and its powers of ten lays: the powers as the walks want them; a start that meets it. -/
import Derived.Test.YtmcfdkhkagkhbaaGreatDoorTie
import Derived.Test.YtmcfdkhkagkhbaaGreatDoorBZ
import Derived.LaidMore
import Derived.LaidHandle
import Derived.Lib.LaidTab
import Derived.ProofKit
import Derived.OpenShut
namespace Go.Proofs.YtmcfdkhkagkhbaaGreatDoor
open Go.ChangeShapes Go.WideShapes Go.ChangeAt Go.RowKit
set_option linter.unusedVariables false
set_option maxRecDepth 100000

theorem LP_own : ownKnob Tryz.prog.godebug = none := by kernel_rfl
def LP_fuel : Nat := 31
def LPL {H : Type} : List (String × DataW H) := [("math/bits.deBruijn32tab", Rows.laid_math_bits_deBruijn32tab), ("math/bits.deBruijn64tab", Rows.laid_math_bits_deBruijn64tab), ("internal/strconv.uint64pow10", Rows.laid_internal_strconv_uint64pow10)]
theorem gP10 : Tryz.prog.globalNamed "internal/strconv.uint64pow10" = some 4 := by kernel_rfl
theorem tP10 : (Tryz.prog.globals[4]?).map (·.type) = some 163 := by kernel_rfl
theorem datumP10 {H : Type} : (Rows.laid_internal_strconv_uint64pow10 : DataW H) = Lib.tabData .u64 Lib.pow10Tab := rfl
theorem p10_third {W : World} {x y : String × DataW Unit} {rest : List (String × DataW Unit)} (h : laidMet Tryz.prog (x :: y :: ("internal/strconv.uint64pow10", Lib.tabData .u64 Lib.pow10Tab) :: rest) W) : P10 W := by
  obtain ⟨ps, ⟨g0, t0, cs0, f0, p0, q0, -, -, -, -, h1, -⟩, -⟩ := h
  obtain ⟨g1, t1, cs1, f1, p1, q1, -, -, -, -, h2, -⟩ := h1
  obtain ⟨g', t', cs, fuel, p, q, hg', ht', hvar, hd, -, -⟩ := h2
  obtain rfl := Option.some.inj (gP10.symm.trans hg')
  obtain rfl := Option.some.inj (tP10.symm.trans ht')
  refine Lib.tabBelow_of_tabIs ?_
  unfold Lib.TabIs
  rw [hvar, ← Lib.cells_of_tab (n := 20) (by kernel_rfl) Tryz.underlying58 (by kernel_rfl) (by kernel_rfl) hd]
theorem p10_of {W : World} (h : laidMetH Tryz.prog LPL W) : P10 W := by
  rw [MakeChecks.laidMetH_plain _ _ _ (by kernel_rfl)] at h
  unfold LPL at h
  rw [datumP10] at h
  exact p10_third h
theorem LP_met (os : Os) (args : Array Value) : laidMetH Tryz.prog LPL ((World.doorLaid Tryz.prog LP_fuel os).forCall (fun _ _ => 0) ⟨#[], args, []⟩).memory :=
  laidMetH_of_parts3 (fuel := 8) (laidMet_of_run' 8 (by kernel_rfl) (by kernel_rfl)) (by kernel_rfl) (by kernel_rfl)
theorem LP_shaped (os : Os) (args : Array Value) : ((World.doorLaid Tryz.prog LP_fuel os).forCall (fun _ _ => 0) ⟨#[], args, []⟩).Shaped Tryz.prog := World.shaped_of_RefB (by kernel_rfl) (by kernel_rfl)
end Go.Proofs.YtmcfdkhkagkhbaaGreatDoor
