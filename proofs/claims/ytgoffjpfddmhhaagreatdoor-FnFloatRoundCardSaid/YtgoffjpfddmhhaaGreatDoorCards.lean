/-
  DERIVED. GIVEN WITH THE SEED: THE CARDS: each row of YtgoffjpfddmhhaaGreatDoorRows.lean that lists a variable, with what it lists TIED to the program's text (the seventh form; the later family's looks); each row that meets fmt, with fmt's text TOLD by the authors' own Lean function (tested against real Go, not proved from fmt's source: count such statements apart). THE CARD IS WHAT COUNTS. Prove the row's statement (the work); the ties are given (YtgoffjpfddmhhaaGreatDoorTie.lean); close each card by the builder's one call (the guide's Derived/Test/ToyasCard.lean, 'card_holds'). Laid BY PROGRAM, IN A SANDBOX (cutbox-door.mjs). By AI agents, Wed Nov 11 2026. No macro, syntax, notation, axiom, sorry.
-/
import Derived.Test.YtgoffjpfddmhhaaGreatDoorRows
import GoSem.ClaimSeven
namespace Go.Proofs.YtgoffjpfddmhhaaGreatDoor
namespace Rows

/-- THE TIED CARD OF 'laws.FnFloatRound'. -/
def fnFloatRoundCard : Claim7 := { stood := { row := fnFloatRoundRow, standIns := [], harness := (true, "8cc086d5f5ca5b7c0961a6cb10c6d3bf5392490c761f54d99153e5a69054ed2d"), looks := true }, kinds := [], alts := [], laidByText := true, laidKinds := [.data, .data, .handle], laidTests := true, laidLooks := .later }
def FnFloatRoundCardSaid : Prop := Claim7.holds Tryz.pinned (.plain (OpenSpec.ofChange fnFloatRoundSpec)) fnFloatRoundCard

/-- THE TIED CARD OF 'laws.FnFloatFrac'. -/
def fnFloatFracCard : Claim7 := { stood := { row := fnFloatFracRow, standIns := [], harness := (true, "8cc086d5f5ca5b7c0961a6cb10c6d3bf5392490c761f54d99153e5a69054ed2d"), looks := true }, kinds := [], alts := [], laidByText := true, laidKinds := [.data, .data, .handle], laidTests := true, laidLooks := .later }
def FnFloatFracCardSaid : Prop := Claim7.holds Tryz.pinned (.plain (OpenSpec.ofChange fnFloatFracSpec)) fnFloatFracCard

/-- THE TIED CARD OF 'laws.FnExactFloatNear'. -/
def fnExactFloatNearCard : Claim7 := { stood := { row := fnExactFloatNearRow, standIns := [], harness := (true, "8cc086d5f5ca5b7c0961a6cb10c6d3bf5392490c761f54d99153e5a69054ed2d"), looks := true }, kinds := [], alts := [], laidByText := true, laidKinds := [.data, .data, .handle], laidTests := true, laidLooks := .later }
def FnExactFloatNearCardSaid : Prop := Claim7.holds Tryz.pinned (.plain (OpenSpec.ofChange fnExactFloatNearSpec)) fnExactFloatNearCard

/-- THE SECOND FORM's CARD OF 'laws.FnFloatRound'. -/
def fnFloatRoundUptoCard : Claim7 := { stood := { row := fnFloatRoundUptoRow, standIns := [], harness := (true, "8cc086d5f5ca5b7c0961a6cb10c6d3bf5392490c761f54d99153e5a69054ed2d"), looks := true }, kinds := [], alts := [], laidByText := true, laidKinds := [.data, .data, .handle], laidTests := true, laidLooks := .later }
def FnFloatRoundUptoCardSaid : Prop := Claim7.holds Tryz.pinned (.plain (OpenSpec.upto fnFloatRoundSpec)) fnFloatRoundUptoCard

/-- THE SECOND FORM's CARD OF 'laws.FnFloatFrac'. -/
def fnFloatFracUptoCard : Claim7 := { stood := { row := fnFloatFracUptoRow, standIns := [], harness := (true, "8cc086d5f5ca5b7c0961a6cb10c6d3bf5392490c761f54d99153e5a69054ed2d"), looks := true }, kinds := [], alts := [], laidByText := true, laidKinds := [.data, .data, .handle], laidTests := true, laidLooks := .later }
def FnFloatFracUptoCardSaid : Prop := Claim7.holds Tryz.pinned (.plain (OpenSpec.upto fnFloatFracSpec)) fnFloatFracUptoCard

/-- THE SECOND FORM's CARD OF 'laws.FnExactFloatNear'. -/
def fnExactFloatNearUptoCard : Claim7 := { stood := { row := fnExactFloatNearUptoRow, standIns := [], harness := (true, "8cc086d5f5ca5b7c0961a6cb10c6d3bf5392490c761f54d99153e5a69054ed2d"), looks := true }, kinds := [], alts := [], laidByText := true, laidKinds := [.data, .data, .handle], laidTests := true, laidLooks := .later }
def FnExactFloatNearUptoCardSaid : Prop := Claim7.holds Tryz.pinned (.plain (OpenSpec.upto fnExactFloatNearSpec)) fnExactFloatNearUptoCard
end Rows
end Go.Proofs.YtgoffjpfddmhhaaGreatDoor
