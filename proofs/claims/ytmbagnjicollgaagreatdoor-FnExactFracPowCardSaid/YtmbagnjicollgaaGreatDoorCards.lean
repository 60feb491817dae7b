/-
  DERIVED. GIVEN WITH THE SEED: THE CARDS: each row of YtmbagnjicollgaaGreatDoorRows.lean that lists a variable, with what it lists TIED to the program's text (the seventh form; the later family's looks); each row that meets fmt, with fmt's text TOLD by the authors' own Lean function (tested against real Go, not proved from fmt's source: count such statements apart). THE CARD IS WHAT COUNTS. Prove the row's statement (the work); the ties are given (YtmbagnjicollgaaGreatDoorTie.lean); close each card by the builder's one call (the guide's Derived/Test/ToyasCard.lean, 'card_holds'). Laid BY PROGRAM, IN A SANDBOX (cutbox-door.mjs). By AI agents, Wed Nov 11 2026. No macro, syntax, notation, axiom, sorry.
-/
import Derived.Test.YtmbagnjicollgaaGreatDoorRows
import GoSem.ClaimSeven
namespace Go.Proofs.YtmbagnjicollgaaGreatDoor
namespace Rows

/-- THE TIED CARD OF 'laws.FnExactFracPow'. -/
def fnExactFracPowCard : Claim7 := { stood := { row := fnExactFracPowRow, standIns := [], harness := (true, "f5f52c1015a4cc120844bc06c0ff334c6d114bcc604c88d7c42a90526ff28fc3"), looks := true }, kinds := [], alts := [], laidByText := true, laidKinds := [.data, .data, .handle], laidTests := true, laidLooks := .later }
def FnExactFracPowCardSaid : Prop := Claim7.holds Tryz.pinned (.plain (OpenSpec.ofChange fnExactFracPowSpec)) fnExactFracPowCard

/-- THE TIED CARD OF 'laws.FnExactFracRoot'. -/
def fnExactFracRootCard : Claim7 := { stood := { row := fnExactFracRootRow, standIns := [], harness := (true, "f5f52c1015a4cc120844bc06c0ff334c6d114bcc604c88d7c42a90526ff28fc3"), looks := true }, kinds := [], alts := [], laidByText := true, laidKinds := [.data, .data, .handle], laidTests := true, laidLooks := .later }
def FnExactFracRootCardSaid : Prop := Claim7.holds Tryz.pinned (.plain (OpenSpec.ofChange fnExactFracRootSpec)) fnExactFracRootCard

/-- THE SECOND FORM's CARD OF 'laws.FnExactFracPow'. -/
def fnExactFracPowUptoCard : Claim7 := { stood := { row := fnExactFracPowUptoRow, standIns := [], harness := (true, "f5f52c1015a4cc120844bc06c0ff334c6d114bcc604c88d7c42a90526ff28fc3"), looks := true }, kinds := [], alts := [], laidByText := true, laidKinds := [.data, .data, .handle], laidTests := true, laidLooks := .later }
def FnExactFracPowUptoCardSaid : Prop := Claim7.holds Tryz.pinned (.plain (OpenSpec.upto fnExactFracPowSpec)) fnExactFracPowUptoCard

/-- THE SECOND FORM's CARD OF 'laws.FnExactFracRoot'. -/
def fnExactFracRootUptoCard : Claim7 := { stood := { row := fnExactFracRootUptoRow, standIns := [], harness := (true, "f5f52c1015a4cc120844bc06c0ff334c6d114bcc604c88d7c42a90526ff28fc3"), looks := true }, kinds := [], alts := [], laidByText := true, laidKinds := [.data, .data, .handle], laidTests := true, laidLooks := .later }
def FnExactFracRootUptoCardSaid : Prop := Claim7.holds Tryz.pinned (.plain (OpenSpec.upto fnExactFracRootSpec)) fnExactFracRootUptoCard
end Rows
end Go.Proofs.YtmbagnjicollgaaGreatDoor
