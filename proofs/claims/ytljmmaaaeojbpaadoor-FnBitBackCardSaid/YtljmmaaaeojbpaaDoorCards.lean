/-
  DERIVED. GIVEN WITH THE SEED: THE CARDS: each row of YtljmmaaaeojbpaaDoorRows.lean that lists a variable, with what it lists TIED to the program's text (the seventh form; the later family's looks); each row that meets fmt, with fmt's text TOLD by the authors' own Lean function (tested against real Go, not proved from fmt's source: count such statements apart). THE CARD IS WHAT COUNTS. Prove the row's statement (the work); the ties are given (YtljmmaaaeojbpaaDoorTie.lean); close each card by the builder's one call (the guide's Derived/Test/ToyasCard.lean, 'card_holds'). Laid BY PROGRAM, IN A SANDBOX (cutbox-door.mjs). By AI agents, Wed Nov 11 2026. No macro, syntax, notation, axiom, sorry.
-/
import Derived.Test.YtljmmaaaeojbpaaDoorRows
import GoSem.ClaimSeven
namespace Go.Proofs.YtljmmaaaeojbpaaDoor
namespace Rows

/-- THE TIED CARD OF 'laws.FnBitBack'. -/
def fnBitBackCard : Claim7 := { stood := { row := fnBitBackRow, standIns := [], harness := (true, "528e6866498addfa3c02532fc2b520a962812da30509803cadca87831e7644fe"), looks := false }, kinds := [], alts := [], laidByText := true, laidKinds := [.data], laidTests := true, laidLooks := .later }
def FnBitBackCardSaid : Prop := Claim7.holds Tryd.pinned (.plain (OpenSpec.ofChange fnBitBackSpec)) fnBitBackCard

/-- THE TIED CARD OF 'laws.FnExactBitMake'. -/
def fnExactBitMakeCard : Claim7 := { stood := { row := fnExactBitMakeRow, standIns := [], harness := (true, "528e6866498addfa3c02532fc2b520a962812da30509803cadca87831e7644fe"), looks := false }, kinds := [], alts := [], laidByText := true, laidKinds := [.data], laidTests := true, laidLooks := .later }
def FnExactBitMakeCardSaid : Prop := Claim7.holds Tryd.pinned (.plain (OpenSpec.ofChange fnExactBitMakeSpec)) fnExactBitMakeCard

/-- THE SECOND FORM's CARD OF 'laws.FnBitBack'. -/
def fnBitBackUptoCard : Claim7 := { stood := { row := fnBitBackUptoRow, standIns := [], harness := (true, "528e6866498addfa3c02532fc2b520a962812da30509803cadca87831e7644fe"), looks := false }, kinds := [], alts := [], laidByText := true, laidKinds := [.data], laidTests := true, laidLooks := .later }
def FnBitBackUptoCardSaid : Prop := Claim7.holds Tryd.pinned (.plain (OpenSpec.upto fnBitBackSpec)) fnBitBackUptoCard

/-- THE SECOND FORM's CARD OF 'laws.FnExactBitMake'. -/
def fnExactBitMakeUptoCard : Claim7 := { stood := { row := fnExactBitMakeUptoRow, standIns := [], harness := (true, "528e6866498addfa3c02532fc2b520a962812da30509803cadca87831e7644fe"), looks := false }, kinds := [], alts := [], laidByText := true, laidKinds := [.data], laidTests := true, laidLooks := .later }
def FnExactBitMakeUptoCardSaid : Prop := Claim7.holds Tryd.pinned (.plain (OpenSpec.upto fnExactBitMakeSpec)) fnExactBitMakeUptoCard
end Rows
end Go.Proofs.YtljmmaaaeojbpaaDoor
