/-
  DERIVED. GIVEN WITH THE SEED: THE CARDS: each row of YtlggbihdmabifaaGreatDoorRows.lean that lists a variable, with what it lists TIED to the program's text (the seventh form; the later family's looks); each row that meets fmt, with fmt's text TOLD by the authors' own Lean function (tested against real Go, not proved from fmt's source: count such statements apart). THE CARD IS WHAT COUNTS. Prove the row's statement (the work); the ties are given (YtlggbihdmabifaaGreatDoorTie.lean); close each card by the builder's one call (the guide's Derived/Test/ToyasCard.lean, 'card_holds'). Laid BY PROGRAM, IN A SANDBOX (cutbox-door.mjs). By AI agents, Wed Nov 11 2026. No macro, syntax, notation, axiom, sorry.
-/
import Derived.Test.YtlggbihdmabifaaGreatDoorRows
import GoSem.ClaimSeven
namespace Go.Proofs.YtlggbihdmabifaaGreatDoor
namespace Rows

/-- THE TIED CARD OF 'laws.FnExactBoxHas'. -/
def fnExactBoxHasCard : Claim7 := { stood := { row := fnExactBoxHasRow, standIns := [], harness := (true, "b31d064509978204ca214a44fc69baf0f88c46c0174adae6258563f70de6ac7f"), looks := true }, kinds := [], alts := [], laidByText := true, laidKinds := [.data, .data, .handle], laidTests := true, laidLooks := .later }
def FnExactBoxHasCardSaid : Prop := Claim7.holds Tryz.pinned (.plain (OpenSpec.ofChange fnExactBoxHasSpec)) fnExactBoxHasCard

/-- THE SECOND FORM's CARD OF 'laws.FnExactBoxHas'. -/
def fnExactBoxHasUptoCard : Claim7 := { stood := { row := fnExactBoxHasUptoRow, standIns := [], harness := (true, "b31d064509978204ca214a44fc69baf0f88c46c0174adae6258563f70de6ac7f"), looks := true }, kinds := [], alts := [], laidByText := true, laidKinds := [.data, .data, .handle], laidTests := true, laidLooks := .later }
def FnExactBoxHasUptoCardSaid : Prop := Claim7.holds Tryz.pinned (.plain (OpenSpec.upto fnExactBoxHasSpec)) fnExactBoxHasUptoCard
end Rows
end Go.Proofs.YtlggbihdmabifaaGreatDoor
