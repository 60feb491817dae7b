/- What a row that lists the library's tables, its powers of ten, its handle of errors and its two errors of numbers lays, as the walks want it; a start that meets it. -/
import Derived.Test.YtbecopdoibonkaaGreatDoorPK04
namespace Go.Proofs.YtbecopdoibonkaaGreatDoor
open Go.ChangeShapes Go.WideShapes Go.ChangeAt Go.RowKit
set_option linter.unusedVariables false
set_option maxRecDepth 100000

theorem LU_own : ownKnob Tryz.prog.godebug = none := LT_own
def LU_fuel : Nat := 69
def LUL {H : Type} : List (String × DataW H) := [("math/bits.deBruijn32tab", Rows.laid_math_bits_deBruijn32tab), ("math/bits.deBruijn64tab", Rows.laid_math_bits_deBruijn64tab), ("internal/strconv.uint64pow10", Rows.laid_internal_strconv_uint64pow10), ("errors.errorType", Rows.laid_errors_errorType), ("strconv.ErrRange", Rows.laid_strconv_ErrRange), ("strconv.ErrSyntax", Rows.laid_strconv_ErrSyntax)]
theorem tab_secondU {W : World} {x : String × DataW Unit} {rest : List (String × DataW Unit)} (h : laidMet Tryz.prog (x :: ("math/bits.deBruijn64tab", Lib.tabData .u8 tab64) :: rest) W) : Tab W := by
  obtain ⟨ps, ⟨g0, t0, cs0, f0, p0, q0, -, -, -, -, hrest, -⟩, -⟩ := h
  obtain ⟨g', t', cs, fuel, p, q, hg', ht', hvar, hd, -, -⟩ := hrest
  obtain rfl := Option.some.inj (gTab.symm.trans hg')
  obtain rfl := Option.some.inj (tTab.symm.trans ht')
  have hi : Lib.TabIs Tryz.prog W "math/bits.deBruijn64tab" .u8 tab64 := by
    unfold Lib.TabIs
    rw [hvar, ← Lib.cells_of_tab (n := 64) (by kernel_rfl) Tryz.underlying5 (by kernel_rfl) (by kernel_rfl) hd]
  have hc : ∀ i, i < 64 → W.cell? ⟨4, i, none⟩ = some (.int .u8 (tab64.getD i 0)) := fun i hi' => hi.cell gTab i hi'
  exact ⟨World.block_lt_of_cell? W _ (hc 0 (by decide)), hc⟩
theorem two_of6 {W : World} (h : laidMetH Tryz.prog LUL W) : Tab W ∧ ET W := by
  have h' : laidMet Tryz.prog [("math/bits.deBruijn32tab", Rows.laid_math_bits_deBruijn32tab), ("math/bits.deBruijn64tab", Rows.laid_math_bits_deBruijn64tab), ("internal/strconv.uint64pow10", Rows.laid_internal_strconv_uint64pow10), ("strconv.ErrRange", Rows.laid_strconv_ErrRange), ("strconv.ErrSyntax", Rows.laid_strconv_ErrSyntax)] W ∧ handlesMet Tryz.prog [("errors.errorType", Rows.laid_errors_errorType)] W := h
  have h1 := h'.1
  rw [datumTab] at h1
  refine ⟨tab_secondU h1, ?_⟩
  obtain ⟨name, u, ty, e1, e2, e3, e4, e5⟩ := h'.2 _ (List.mem_singleton.2 rfl)
  have en : name = [101, 114, 114, 111, 114] := (Option.some.inj e1).symm
  subst en
  obtain rfl := Option.some.inj (rtET.symm.trans e2)
  have hm : ty ∈ (List.range 252).filter fun t => Tryz.prog.rowNamed t [101, 114, 114, 111, 114] := List.mem_filter.2 ⟨List.mem_range.2 (by rw [← sizeET]; exact e3), e4⟩
  rw [oneET] at hm
  obtain rfl := List.mem_singleton.1 hm
  have hh : typeHandle Tryz.prog 51 = .pointer (some ⟨6, 51, none⟩) := by kernel_rfl
  rw [hh] at e5
  have := World.var?_cell gET e5 0
  unfold ET
  simpa using this
theorem LU_met (os : Os) (args : Array Value) : laidMetH Tryz.prog LUL ((World.doorLaid Tryz.prog LU_fuel os).forCall (fun _ _ => 0) ⟨#[], args, []⟩).memory :=
  laidMetH_of_parts3 (fuel := 8) (laidMet_of_run' 8 (by kernel_rfl) (by kernel_rfl)) (by kernel_rfl) (by kernel_rfl)
theorem LU_shaped (os : Os) (args : Array Value) : ((World.doorLaid Tryz.prog LU_fuel os).forCall (fun _ _ => 0) ⟨#[], args, []⟩).Shaped Tryz.prog := LT_shaped os args
end Go.Proofs.YtbecopdoibonkaaGreatDoor
