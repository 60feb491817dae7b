/-
  DERIVED. GIVEN WITH THE SEED: THE CARDS: each row of YtbecopdoibonkaaGreatDoorRows.lean that lists a variable, with what it lists TIED to the program's text (the seventh form; the later family's looks); each row that meets fmt, with fmt's text TOLD by the authors' own Lean function (tested against real Go, not proved from fmt's source: count such statements apart). THE CARD IS WHAT COUNTS. Prove the row's statement (the work); the ties are given (YtbecopdoibonkaaGreatDoorTie.lean); close each card by the builder's one call (the guide's Derived/Test/ToyasCard.lean, 'card_holds'). Laid BY PROGRAM, IN A SANDBOX (cutbox-door.mjs). By AI agents, Wed Nov 11 2026. No macro, syntax, notation, axiom, sorry.
-/
import Derived.Test.YtbecopdoibonkaaGreatDoorRows
import GoSem.ClaimSeven
namespace Go.Proofs.YtbecopdoibonkaaGreatDoor
namespace Rows

/-- THE TIED CARD OF 'laws.FnExactPairDec'. -/
def fnExactPairDecCard : Claim7 := { stood := { row := fnExactPairDecRow, standIns := [], harness := (true, "d9c8ab7ace2ce3bac7434defd0dea13baad6f4fda3864ea048967897c79f3b07"), looks := true }, kinds := [], alts := [], laidByText := true, laidKinds := [.data, .data, .data, .handle, .sentinel, .sentinel], laidTests := true, laidLooks := .later }
def FnExactPairDecCardSaid : Prop := Claim7.holds Tryz.pinned (.plain (OpenSpec.ofChange fnExactPairDecSpec)) fnExactPairDecCard

/-- THE SECOND FORM's CARD OF 'laws.FnExactPairDec'. -/
def fnExactPairDecUptoCard : Claim7 := { stood := { row := fnExactPairDecUptoRow, standIns := [], harness := (true, "d9c8ab7ace2ce3bac7434defd0dea13baad6f4fda3864ea048967897c79f3b07"), looks := true }, kinds := [], alts := [], laidByText := true, laidKinds := [.data, .data, .data, .handle, .sentinel, .sentinel], laidTests := true, laidLooks := .later }
def FnExactPairDecUptoCardSaid : Prop := Claim7.holds Tryz.pinned (.plain (OpenSpec.upto fnExactPairDecSpec)) fnExactPairDecUptoCard
end Rows
end Go.Proofs.YtbecopdoibonkaaGreatDoor
