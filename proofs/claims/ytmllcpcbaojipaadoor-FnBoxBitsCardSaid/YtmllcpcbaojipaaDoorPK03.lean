/- What a row that lists the library's handle of errors alone lays, as the walks want it; a start that meets it. -/
import Derived.Test.YtmllcpcbaojipaaDoorTie
import Derived.Test.YtmllcpcbaojipaaDoorPK02
import Derived.LaidMore
import Derived.LaidHandle
import Derived.Lib.LaidTab
import Derived.ProofKit
import Derived.OpenShut
namespace Go.Proofs.YtmllcpcbaojipaaDoor
open Go.ChangeShapes Go.WideShapes Go.ChangeAt Go.RowKit
set_option linter.unusedVariables false
set_option maxRecDepth 100000

theorem LHB_own : ownKnob Tryd.prog.godebug = none := by kernel_rfl
def LHB_fuel : Nat := 16
def LHBL {H : Type} : List (String × DataW H) := [("errors.errorType", Rows.laid_errors_errorType)]
theorem gET : Tryd.prog.globalNamed "errors.errorType" = some 0 := by kernel_rfl
theorem rtET : (Tryd.prog.cutTypes.find? (·.1 == "internal/reflectlite.rtype")).map (·.2) = some 102 := by kernel_rfl
theorem oneET : ((List.range 144).filter fun t => Tryd.prog.rowNamed t [101, 114, 114, 111, 114]) = [46] := by kernel_rfl
theorem sizeET : Tryd.prog.types.size = 144 := by kernel_rfl
theorem et_of {W : World} (h : laidMetH Tryd.prog LHBL W) : ET W := by
  have h' : laidMet Tryd.prog [] W ∧ handlesMet Tryd.prog [("errors.errorType", Rows.laid_errors_errorType)] W := h
  obtain ⟨name, u, ty, e1, e2, e3, e4, e5⟩ := h'.2 _ (List.mem_singleton.2 rfl)
  have en : name = [101, 114, 114, 111, 114] := (Option.some.inj e1).symm
  subst en
  obtain rfl := Option.some.inj (rtET.symm.trans e2)
  have hm : ty ∈ (List.range 144).filter fun t => Tryd.prog.rowNamed t [101, 114, 114, 111, 114] := List.mem_filter.2 ⟨List.mem_range.2 (by rw [← sizeET]; exact e3), e4⟩
  rw [oneET] at hm
  obtain rfl := List.mem_singleton.1 hm
  have hh : typeHandle Tryd.prog 46 = .pointer (some ⟨1, 46, none⟩) := by kernel_rfl
  rw [hh] at e5
  have := World.var?_cell gET e5 0
  unfold ET
  simpa using this
theorem LHB_met (os : Os) (args : Array Value) : laidMetH Tryd.prog LHBL ((World.doorLaid Tryd.prog LHB_fuel os).forCall (fun _ _ => 0) ⟨#[], args, []⟩).memory :=
  laidMetH_of_parts3 (fuel := 8) (laidMet_of_run' 8 (by kernel_rfl) (by kernel_rfl)) (by kernel_rfl) (by kernel_rfl)
theorem LHB_shaped (os : Os) (args : Array Value) : ((World.doorLaid Tryd.prog LHB_fuel os).forCall (fun _ _ => 0) ⟨#[], args, []⟩).Shaped Tryd.prog := World.shaped_of_RefB (by kernel_rfl) (by kernel_rfl)
end Go.Proofs.YtmllcpcbaojipaaDoor
