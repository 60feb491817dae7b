/-
  DERIVED. GIVEN WITH THE SEED: THE CARDS: each row of YtpamnpdigoikoaaGreatDoorRows.lean that lists a variable, with what it lists TIED to the program's text (the seventh form; the later family's looks); each row that meets fmt, with fmt's text TOLD by the authors' own Lean function (tested against real Go, not proved from fmt's source: count such statements apart). THE CARD IS WHAT COUNTS. Prove the row's statement (the work); the ties are given (YtpamnpdigoikoaaGreatDoorTie.lean); close each card by the builder's one call (the guide's Derived/Test/ToyasCard.lean, 'card_holds'). Laid BY PROGRAM, IN A SANDBOX (cutbox-door.mjs). By AI agents, Wed Nov 11 2026. No macro, syntax, notation, axiom, sorry.
-/
import Derived.Test.YtpamnpdigoikoaaGreatDoorRows
import GoSem.ClaimSeven
namespace Go.Proofs.YtpamnpdigoikoaaGreatDoor
namespace Rows

/-- THE TIED CARD OF 'laws.FnExactFracAdd'. -/
def fnExactFracAddCard : Claim7 := { stood := { row := fnExactFracAddRow, standIns := [], harness := (true, "5e71cd38fba70f2b32fbc9bb6f290313f6304398506e80f3e97ba7a2b0f85f10"), looks := true }, kinds := [], alts := [], laidByText := true, laidKinds := [.data, .data, .handle], laidTests := true, laidLooks := .later }
def FnExactFracAddCardSaid : Prop := Claim7.holds Tryz.pinned (.plain (OpenSpec.ofChange fnExactFracAddSpec)) fnExactFracAddCard

/-- THE TIED CARD OF 'laws.FnExactFracSub'. -/
def fnExactFracSubCard : Claim7 := { stood := { row := fnExactFracSubRow, standIns := [], harness := (true, "5e71cd38fba70f2b32fbc9bb6f290313f6304398506e80f3e97ba7a2b0f85f10"), looks := true }, kinds := [], alts := [], laidByText := true, laidKinds := [.data, .data, .handle], laidTests := true, laidLooks := .later }
def FnExactFracSubCardSaid : Prop := Claim7.holds Tryz.pinned (.plain (OpenSpec.ofChange fnExactFracSubSpec)) fnExactFracSubCard

/-- THE TIED CARD OF 'laws.FnExactFracDiv'. -/
def fnExactFracDivCard : Claim7 := { stood := { row := fnExactFracDivRow, standIns := [], harness := (true, "5e71cd38fba70f2b32fbc9bb6f290313f6304398506e80f3e97ba7a2b0f85f10"), looks := true }, kinds := [], alts := [], laidByText := true, laidKinds := [.data, .data, .handle], laidTests := true, laidLooks := .later }
def FnExactFracDivCardSaid : Prop := Claim7.holds Tryz.pinned (.plain (OpenSpec.ofChange fnExactFracDivSpec)) fnExactFracDivCard

/-- THE TIED CARD OF 'laws.FnExactFracFloor'. -/
def fnExactFracFloorCard : Claim7 := { stood := { row := fnExactFracFloorRow, standIns := [], harness := (true, "5e71cd38fba70f2b32fbc9bb6f290313f6304398506e80f3e97ba7a2b0f85f10"), looks := true }, kinds := [], alts := [], laidByText := true, laidKinds := [.data, .data, .handle], laidTests := true, laidLooks := .later }
def FnExactFracFloorCardSaid : Prop := Claim7.holds Tryz.pinned (.plain (OpenSpec.ofChange fnExactFracFloorSpec)) fnExactFracFloorCard

/-- THE SECOND FORM's CARD OF 'laws.FnExactFracAdd'. -/
def fnExactFracAddUptoCard : Claim7 := { stood := { row := fnExactFracAddUptoRow, standIns := [], harness := (true, "5e71cd38fba70f2b32fbc9bb6f290313f6304398506e80f3e97ba7a2b0f85f10"), looks := true }, kinds := [], alts := [], laidByText := true, laidKinds := [.data, .data, .handle], laidTests := true, laidLooks := .later }
def FnExactFracAddUptoCardSaid : Prop := Claim7.holds Tryz.pinned (.plain (OpenSpec.upto fnExactFracAddSpec)) fnExactFracAddUptoCard

/-- THE SECOND FORM's CARD OF 'laws.FnExactFracSub'. -/
def fnExactFracSubUptoCard : Claim7 := { stood := { row := fnExactFracSubUptoRow, standIns := [], harness := (true, "5e71cd38fba70f2b32fbc9bb6f290313f6304398506e80f3e97ba7a2b0f85f10"), looks := true }, kinds := [], alts := [], laidByText := true, laidKinds := [.data, .data, .handle], laidTests := true, laidLooks := .later }
def FnExactFracSubUptoCardSaid : Prop := Claim7.holds Tryz.pinned (.plain (OpenSpec.upto fnExactFracSubSpec)) fnExactFracSubUptoCard

/-- THE SECOND FORM's CARD OF 'laws.FnExactFracDiv'. -/
def fnExactFracDivUptoCard : Claim7 := { stood := { row := fnExactFracDivUptoRow, standIns := [], harness := (true, "5e71cd38fba70f2b32fbc9bb6f290313f6304398506e80f3e97ba7a2b0f85f10"), looks := true }, kinds := [], alts := [], laidByText := true, laidKinds := [.data, .data, .handle], laidTests := true, laidLooks := .later }
def FnExactFracDivUptoCardSaid : Prop := Claim7.holds Tryz.pinned (.plain (OpenSpec.upto fnExactFracDivSpec)) fnExactFracDivUptoCard

/-- THE SECOND FORM's CARD OF 'laws.FnExactFracFloor'. -/
def fnExactFracFloorUptoCard : Claim7 := { stood := { row := fnExactFracFloorUptoRow, standIns := [], harness := (true, "5e71cd38fba70f2b32fbc9bb6f290313f6304398506e80f3e97ba7a2b0f85f10"), looks := true }, kinds := [], alts := [], laidByText := true, laidKinds := [.data, .data, .handle], laidTests := true, laidLooks := .later }
def FnExactFracFloorUptoCardSaid : Prop := Claim7.holds Tryz.pinned (.plain (OpenSpec.upto fnExactFracFloorSpec)) fnExactFracFloorUptoCard
end Rows
end Go.Proofs.YtpamnpdigoikoaaGreatDoor
