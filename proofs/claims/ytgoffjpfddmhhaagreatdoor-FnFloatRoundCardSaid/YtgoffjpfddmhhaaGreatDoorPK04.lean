/- Closed facts of the translated program that every row of this seat asks for. No condition. -/
import Derived.Test.YtgoffjpfddmhhaaGreatDoorRows
import Derived.ProofKit
import Derived.Test.YtgoffjpfddmhhaaGreatDoorTie
import Derived.Test.YtgoffjpfddmhhaaGreatDoorPK02
import Derived.LaidMore
import Derived.LaidHandle
import Derived.Lib.LaidTab
import Derived.OpenShut
import Derived.Test.YtgoffjpfddmhhaaGreatDoorPK03
namespace Go.Proofs.YtgoffjpfddmhhaaGreatDoor
open Go.ChangeShapes Go.WideShapes Go.ChangeAt Go.RowKit
theorem jf6 : ((Tryz.prog.stops == [])) = true := by kernel_rfl
theorem jf8 : ((Tryz.prog.stopKnobs == [])) = true := by kernel_rfl
theorem and2 {a b : Bool} (h : a = true) (g : b = true) : (a && b) = true := by rw [h, g]; rfl
theorem jf24 : (Tryz.prog.stopsHeard) = true := by kernel_rfl
theorem jf22 : ((Rows.fnFloatRoundRow.plainKeys == Tryz.prog.plainKeys)) = true := by kernel_rfl
theorem jf1 : (laidOutB Tryz.prog) = true := by kernel_rfl
theorem jf2 : (mapsRowed Tryz.prog) = true := by kernel_rfl
end Go.Proofs.YtgoffjpfddmhhaaGreatDoor

/- The words at the head of the translated program, found without reading its whole text; closed facts that every row of this seat asks for. No condition. -/
namespace Go.Proofs.YtgoffjpfddmhhaaGreatDoor
open Go.ChangeShapes Go.WideShapes Go.ChangeAt Go.RowKit

theorem words_app (a r : List Char) (h : a.all (fun c => c != Char.ofNat 32) = true) : wordsSigns (a ++ Char.ofNat 32 :: r) = a :: wordsSigns r := by
  induction a with
  | nil => rfl
  | cons c a ih =>
    simp only [List.all_cons, Bool.and_eq_true, bne_iff_ne] at h
    have e := ih h.2
    have hc : ∀ l, wordsSigns (c :: l) = (match wordsSigns l with | w :: ws => (c :: w) :: ws | [] => [[c]]) := by
      intro l
      rw [wordsSigns]
      all_goals first | rfl | exact fun hx => h.1 hx
    rw [List.cons_append, hc, e]

theorem headLifts_of (P : Program) (rest : List (List Char)) (h : behindMainWord (wordsSigns P.initOrder.toList) = "cut".toList :: rest) : P.headLifts = [] := by
  have e : stripLifts liftWords ("cut".toList :: rest) = ([], "cut".toList :: rest) := rfl
  unfold Program.headLifts
  rw [h, e]
  simp
theorem make_of (P : Program) (rest : List (List Char)) (h : behindMainWord (wordsSigns P.initOrder.toList) = "cut".toList :: rest) : P.make = some .cut := by
  unfold Program.make
  rw [h]
  rfl
theorem mayEnter_of (P : Program) (rest : List (List Char)) (h : behindMainWord (wordsSigns P.initOrder.toList) = "cut".toList :: rest) (h1 : P.laysLater = false) (h2 : P.bearsReflect = false) (h3 : P.doorFits [] = true) : P.mayEnter = true := by
  have e : stripLifts liftWords ("cut".toList :: rest) = ([], "cut".toList :: rest) := rfl
  unfold Program.mayEnter
  rw [h]
  simp only [e, h1, h2, h3]
  rfl
theorem lifts_of (P : Program) (rest : List (List Char)) (h : behindMainWord (wordsSigns P.initOrder.toList) = "cut".toList :: rest) : P.liftsFinal = false := by
  have e := headLifts_of P rest h
  unfold Program.liftsFinal
  rw [e, h]
  rfl

set_option maxRecDepth 100000 in
theorem head_at : ∃ l : List Char, Tryz.prog.initOrder = String.ofList l ∧ l.take 77 = "harness 8cc086d5f5ca5b7c0961a6cb10c6d3bf5392490c761f54d99153e5a69054ed2d cut ".toList := by
  refine ⟨_, rfl, ?_⟩
  kernel_rfl
theorem head_list : ∃ r : List Char, Tryz.prog.initOrder.toList = "harness".toList ++ Char.ofNat 32 :: ("8cc086d5f5ca5b7c0961a6cb10c6d3bf5392490c761f54d99153e5a69054ed2d".toList ++ Char.ofNat 32 :: ("cut".toList ++ Char.ofNat 32 :: r)) := by
  obtain ⟨l, h1, h2⟩ := head_at
  refine ⟨l.drop 77, ?_⟩
  rw [h1, String.toList_ofList]
  have e := List.take_append_drop 77 l
  rw [h2] at e
  exact e.symm
theorem head_words : ∃ rest, behindMainWord (wordsSigns Tryz.prog.initOrder.toList) = "cut".toList :: rest := by
  obtain ⟨r, h⟩ := head_list
  refine ⟨wordsSigns r, ?_⟩
  rw [h, words_app _ _ (by kernel_rfl), words_app _ _ (by kernel_rfl), words_app _ _ (by kernel_rfl)]
  rfl
theorem jf25 : (Tryz.prog.mayEnter) = true := by
  obtain ⟨rest, h⟩ := head_words
  exact mayEnter_of _ rest h (by kernel_rfl) (by kernel_rfl) (by kernel_rfl)
theorem lifts_no : Tryz.prog.liftsFinal = false := by
  obtain ⟨rest, h⟩ := head_words
  exact lifts_of _ rest h
theorem make_cut : Tryz.prog.make = some .cut := by
  obtain ⟨rest, h⟩ := head_words
  exact make_of _ rest h
theorem jf26 : ((Rows.fnFloatRoundRow.lifted == Tryz.prog.liftsFinal)) = true := by rw [lifts_no]; rfl
theorem jf27 : ((Tryz.prog.make == some Rows.fnFloatRoundRow.make)) = true := by rw [make_cut]; rfl
end Go.Proofs.YtgoffjpfddmhhaaGreatDoor

/- What a row that lists the library's two tables lays: the table of trailing noughts as the walks want it; a start that meets it. -/
namespace Go.Proofs.YtgoffjpfddmhhaaGreatDoor
open Go.ChangeShapes Go.WideShapes Go.ChangeAt Go.RowKit
set_option linter.unusedVariables false
set_option maxRecDepth 100000

theorem LT_own : ownKnob Tryz.prog.godebug = none := by kernel_rfl
def LT_fuel : Nat := 26
theorem gTab : Tryz.prog.globalNamed "math/bits.deBruijn64tab" = some 2 := by kernel_rfl
theorem tTab : (Tryz.prog.globals[2]?).map (·.type) = some 193 := by kernel_rfl
theorem datumTab {H : Type} : (Rows.laid_math_bits_deBruijn64tab : DataW H) = Lib.tabData .u8 tab64 := rfl
theorem tab_second {W : World} {x : String × DataW Unit} (h : laidMet Tryz.prog [x, ("math/bits.deBruijn64tab", Lib.tabData .u8 tab64)] W) : Tab W := by
  obtain ⟨ps, ⟨g0, t0, cs0, f0, p0, q0, -, -, -, -, hrest, -⟩, -⟩ := h
  obtain ⟨g', t', cs, fuel, p, q, hg', ht', hvar, hd, -, -⟩ := hrest
  obtain rfl := Option.some.inj (gTab.symm.trans hg')
  obtain rfl := Option.some.inj (tTab.symm.trans ht')
  have hi : Lib.TabIs Tryz.prog W "math/bits.deBruijn64tab" .u8 tab64 := by
    unfold Lib.TabIs
    rw [hvar, ← Lib.cells_of_tab (n := 64) (by kernel_rfl) Tryz.underlying5 (by kernel_rfl) (by kernel_rfl) hd]
  have hc : ∀ i, i < 64 → W.cell? ⟨2, i, none⟩ = some (.int .u8 (tab64.getD i 0)) := fun i hi' => hi.cell gTab i hi'
  exact ⟨World.block_lt_of_cell? W _ (hc 0 (by decide)), hc⟩
theorem LT_shaped (os : Os) (args : Array Value) : ((World.doorLaid Tryz.prog LT_fuel os).forCall (fun _ _ => 0) ⟨#[], args, []⟩).Shaped Tryz.prog := World.shaped_of_RefB (by kernel_rfl) (by kernel_rfl)
end Go.Proofs.YtgoffjpfddmhhaaGreatDoor

/- What a row that lists the library's two tables and its handle of errors lays, as the walks want it; a start that meets it. -/
namespace Go.Proofs.YtgoffjpfddmhhaaGreatDoor
open Go.ChangeShapes Go.WideShapes Go.ChangeAt Go.RowKit
set_option linter.unusedVariables false
set_option maxRecDepth 100000

theorem LH_own : ownKnob Tryz.prog.godebug = none := LT_own
def LH_fuel : Nat := 26
def LHL {H : Type} : List (String × DataW H) := [("math/bits.deBruijn32tab", Rows.laid_math_bits_deBruijn32tab), ("math/bits.deBruijn64tab", Rows.laid_math_bits_deBruijn64tab), ("errors.errorType", Rows.laid_errors_errorType)]
theorem gET : Tryz.prog.globalNamed "errors.errorType" = some 0 := by kernel_rfl
theorem rtET : (Tryz.prog.cutTypes.find? (·.1 == "internal/reflectlite.rtype")).map (·.2) = some 170 := by kernel_rfl
theorem oneET : ((List.range 241).filter fun t => Tryz.prog.rowNamed t [101, 114, 114, 111, 114]) = [78] := by kernel_rfl
theorem sizeET : Tryz.prog.types.size = 241 := by kernel_rfl
theorem both_of {W : World} (h : laidMetH Tryz.prog LHL W) : Tab W ∧ ET W := by
  have h' : laidMet Tryz.prog [("math/bits.deBruijn32tab", Rows.laid_math_bits_deBruijn32tab), ("math/bits.deBruijn64tab", Rows.laid_math_bits_deBruijn64tab)] W ∧ handlesMet Tryz.prog [("errors.errorType", Rows.laid_errors_errorType)] W := h
  refine ⟨?_, ?_⟩
  · have h1 := h'.1
    rw [datumTab] at h1
    exact tab_second h1
  · obtain ⟨name, u, ty, e1, e2, e3, e4, e5⟩ := h'.2 _ (List.mem_singleton.2 rfl)
    have en : name = [101, 114, 114, 111, 114] := (Option.some.inj e1).symm
    subst en
    obtain rfl := Option.some.inj (rtET.symm.trans e2)
    have hm : ty ∈ (List.range 241).filter fun t => Tryz.prog.rowNamed t [101, 114, 114, 111, 114] := List.mem_filter.2 ⟨List.mem_range.2 (by rw [← sizeET]; exact e3), e4⟩
    rw [oneET] at hm
    obtain rfl := List.mem_singleton.1 hm
    have hh : typeHandle Tryz.prog 78 = .pointer (some ⟨4, 78, none⟩) := by kernel_rfl
    rw [hh] at e5
    have := World.var?_cell gET e5 0
    unfold ET
    simpa using this
theorem LH_met (os : Os) (args : Array Value) : laidMetH Tryz.prog LHL ((World.doorLaid Tryz.prog LH_fuel os).forCall (fun _ _ => 0) ⟨#[], args, []⟩).memory :=
  laidMetH_of_parts3 (fuel := 8) (laidMet_of_run' 8 (by kernel_rfl) (by kernel_rfl)) (by kernel_rfl) (by kernel_rfl)
theorem LH_shaped (os : Os) (args : Array Value) : ((World.doorLaid Tryz.prog LH_fuel os).forCall (fun _ _ => 0) ⟨#[], args, []⟩).Shaped Tryz.prog := LT_shaped os args
end Go.Proofs.YtgoffjpfddmhhaaGreatDoor
