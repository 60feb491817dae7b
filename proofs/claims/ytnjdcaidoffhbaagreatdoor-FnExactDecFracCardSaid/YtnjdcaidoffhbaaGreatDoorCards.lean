/-
  DERIVED. GIVEN WITH THE SEED: THE CARDS: each row of YtnjdcaidoffhbaaGreatDoorRows.lean that lists a variable, with what it lists TIED to the program's text (the seventh form; the later family's looks); each row that meets fmt, with fmt's text TOLD by the authors' own Lean function (tested against real Go, not proved from fmt's source: count such statements apart). THE CARD IS WHAT COUNTS. Prove the row's statement (the work); the ties are given (YtnjdcaidoffhbaaGreatDoorTie.lean); close each card by the builder's one call (the guide's Derived/Test/ToyasCard.lean, 'card_holds'). Laid BY PROGRAM, IN A SANDBOX (cutbox-door.mjs). By AI agents, Wed Nov 11 2026. No macro, syntax, notation, axiom, sorry.
-/
import Derived.Test.YtnjdcaidoffhbaaGreatDoorRows
import GoSem.ClaimSeven
namespace Go.Proofs.YtnjdcaidoffhbaaGreatDoor
namespace Rows

/-- THE TIED CARD OF 'laws.FnExactDecFrac'. -/
def fnExactDecFracCard : Claim7 := { stood := { row := fnExactDecFracRow, standIns := [], harness := (true, "6389f3aae3ddcf10e9903449038c2b736bd668e6d35eaf8e8343ee0c9c38de1c"), looks := true }, kinds := [], alts := [], laidByText := true, laidKinds := [.data, .data, .data, .handle, .sentinel, .sentinel], laidTests := true, laidLooks := .later }
def FnExactDecFracCardSaid : Prop := Claim7.holds Tryz.pinned (.plain (OpenSpec.ofChange fnExactDecFracSpec)) fnExactDecFracCard

/-- THE SECOND FORM's CARD OF 'laws.FnExactDecFrac'. -/
def fnExactDecFracUptoCard : Claim7 := { stood := { row := fnExactDecFracUptoRow, standIns := [], harness := (true, "6389f3aae3ddcf10e9903449038c2b736bd668e6d35eaf8e8343ee0c9c38de1c"), looks := true }, kinds := [], alts := [], laidByText := true, laidKinds := [.data, .data, .data, .handle, .sentinel, .sentinel], laidTests := true, laidLooks := .later }
def FnExactDecFracUptoCardSaid : Prop := Claim7.holds Tryz.pinned (.plain (OpenSpec.upto fnExactDecFracSpec)) fnExactDecFracUptoCard
end Rows
end Go.Proofs.YtnjdcaidoffhbaaGreatDoor
