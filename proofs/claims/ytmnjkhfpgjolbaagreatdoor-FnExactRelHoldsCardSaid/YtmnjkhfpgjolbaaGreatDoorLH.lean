/- What a row that lists the library's two tables and its handle of errors lays, as the walks want it; a start that meets it. -/
import Derived.Test.YtmnjkhfpgjolbaaGreatDoorLT
import Derived.Test.YtmnjkhfpgjolbaaGreatDoorFA
namespace Go.Proofs.YtmnjkhfpgjolbaaGreatDoor
open Go.ChangeShapes Go.WideShapes Go.ChangeAt Go.RowKit
set_option linter.unusedVariables false
set_option maxRecDepth 100000

theorem LH_own : ownKnob Tryz.prog.godebug = none := LT_own
def LH_fuel : Nat := 26
def LHL {H : Type} : List (String × DataW H) := [("math/bits.deBruijn32tab", Rows.laid_math_bits_deBruijn32tab), ("math/bits.deBruijn64tab", Rows.laid_math_bits_deBruijn64tab), ("errors.errorType", Rows.laid_errors_errorType)]
theorem gET : Tryz.prog.globalNamed "errors.errorType" = some 0 := by kernel_rfl
theorem rtET : (Tryz.prog.cutTypes.find? (·.1 == "internal/reflectlite.rtype")).map (·.2) = some 98 := by kernel_rfl
theorem oneET : ((List.range 156).filter fun t => Tryz.prog.rowNamed t [101, 114, 114, 111, 114]) = [47] := by kernel_rfl
theorem sizeET : Tryz.prog.types.size = 156 := by kernel_rfl
theorem both_of {W : World} (h : laidMetH Tryz.prog LHL W) : Tab W ∧ ET W := by
  have h' : laidMet Tryz.prog [("math/bits.deBruijn32tab", Rows.laid_math_bits_deBruijn32tab), ("math/bits.deBruijn64tab", Rows.laid_math_bits_deBruijn64tab)] W ∧ handlesMet Tryz.prog [("errors.errorType", Rows.laid_errors_errorType)] W := h
  refine ⟨?_, ?_⟩
  · have h1 := h'.1
    rw [datumTab] at h1
    exact tab_second h1
  · obtain ⟨name, u, ty, e1, e2, e3, e4, e5⟩ := h'.2 _ (List.mem_singleton.2 rfl)
    have en : name = [101, 114, 114, 111, 114] := (Option.some.inj e1).symm
    subst en
    obtain rfl := Option.some.inj (rtET.symm.trans e2)
    have hm : ty ∈ (List.range 156).filter fun t => Tryz.prog.rowNamed t [101, 114, 114, 111, 114] := List.mem_filter.2 ⟨List.mem_range.2 (by rw [← sizeET]; exact e3), e4⟩
    rw [oneET] at hm
    obtain rfl := List.mem_singleton.1 hm
    have hh : typeHandle Tryz.prog 47 = .pointer (some ⟨3, 47, none⟩) := by kernel_rfl
    rw [hh] at e5
    have := World.var?_cell gET e5 0
    unfold ET
    simpa using this
theorem LH_met (os : Os) (args : Array Value) : laidMetH Tryz.prog LHL ((World.doorLaid Tryz.prog LH_fuel os).forCall (fun _ _ => 0) ⟨#[], args, []⟩).memory :=
  laidMetH_of_parts3 (fuel := 8) (laidMet_of_run' 8 (by kernel_rfl) (by kernel_rfl)) (by kernel_rfl) (by kernel_rfl)
theorem LH_shaped (os : Os) (args : Array Value) : ((World.doorLaid Tryz.prog LH_fuel os).forCall (fun _ _ => 0) ⟨#[], args, []⟩).Shaped Tryz.prog := LT_shaped os args
end Go.Proofs.YtmnjkhfpgjolbaaGreatDoor
