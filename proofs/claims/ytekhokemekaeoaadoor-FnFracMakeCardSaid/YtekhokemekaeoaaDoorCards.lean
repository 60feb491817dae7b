/-
  DERIVED. GIVEN WITH THE SEED: THE CARDS: each row of YtekhokemekaeoaaDoorRows.lean that lists a variable, with what it lists TIED to the program's text (the seventh form; the later family's looks); each row that meets fmt, with fmt's text TOLD by the authors' own Lean function (tested against real Go, not proved from fmt's source: count such statements apart). THE CARD IS WHAT COUNTS. Prove the row's statement (the work); the ties are given (YtekhokemekaeoaaDoorTie.lean); close each card by the builder's one call (the guide's Derived/Test/ToyasCard.lean, 'card_holds'). Laid BY PROGRAM, IN A SANDBOX (cutbox-door.mjs). By AI agents, Wed Nov 11 2026. No macro, syntax, notation, axiom, sorry.
-/
import Derived.Test.YtekhokemekaeoaaDoorRows
import GoSem.ClaimSeven
namespace Go.Proofs.YtekhokemekaeoaaDoor
namespace Rows

/-- THE TIED CARD OF 'laws.FnFracMake'. -/
def fnFracMakeCard : Claim7 := { stood := { row := fnFracMakeRow, standIns := [], harness := (true, "7367b1972b2987b42abd2f526ac2833b3b2f7db15fdaa18e90304feb65f9311f"), looks := true }, kinds := [], alts := [], laidByText := true, laidKinds := [.data, .data, .handle], laidTests := true, laidLooks := .later }
def FnFracMakeCardSaid : Prop := Claim7.holds Tryd.pinned (.plain (OpenSpec.ofChange fnFracMakeSpec)) fnFracMakeCard

/-- THE SECOND FORM's CARD OF 'laws.FnFracMake'. -/
def fnFracMakeUptoCard : Claim7 := { stood := { row := fnFracMakeUptoRow, standIns := [], harness := (true, "7367b1972b2987b42abd2f526ac2833b3b2f7db15fdaa18e90304feb65f9311f"), looks := true }, kinds := [], alts := [], laidByText := true, laidKinds := [.data, .data, .handle], laidTests := true, laidLooks := .later }
def FnFracMakeUptoCardSaid : Prop := Claim7.holds Tryd.pinned (.plain (OpenSpec.upto fnFracMakeSpec)) fnFracMakeUptoCard
end Rows
end Go.Proofs.YtekhokemekaeoaaDoor
