/-
  DERIVED. GIVEN WITH THE SEED: THE CARDS: each row of YtlfaiekcmflgnaaGreatDoorRows.lean that lists a variable, with what it lists TIED to the program's text (the seventh form; the later family's looks); each row that meets fmt, with fmt's text TOLD by the authors' own Lean function (tested against real Go, not proved from fmt's source: count such statements apart). THE CARD IS WHAT COUNTS. Prove the row's statement (the work); the ties are given (YtlfaiekcmflgnaaGreatDoorTie.lean); close each card by the builder's one call (the guide's Derived/Test/ToyasCard.lean, 'card_holds'). Laid BY PROGRAM, IN A SANDBOX (cutbox-door.mjs). By AI agents, Wed Nov 11 2026. No macro, syntax, notation, axiom, sorry.
-/
import Derived.Test.YtlfaiekcmflgnaaGreatDoorRows
import GoSem.ClaimSeven
namespace Go.Proofs.YtlfaiekcmflgnaaGreatDoor
namespace Rows

/-- THE TIED CARD OF 'laws.FnExactFracRead'. -/
def fnExactFracReadCard : Claim7 := { stood := { row := fnExactFracReadRow, standIns := [], harness := (true, "a4b41042cfd07190dd19383c48475f3b238191e449cd02caecdf1a20ae340786"), looks := true }, kinds := [], alts := [], laidByText := true, laidKinds := [.data, .data, .data, .handle, .sentinel, .sentinel], laidTests := true, laidLooks := .later }
def FnExactFracReadCardSaid : Prop := Claim7.holds Tryz.pinned (.plain (OpenSpec.ofChange fnExactFracReadSpec)) fnExactFracReadCard

/-- THE TIED CARD OF 'laws.FnFracText'. -/
def fnFracTextCard : Claim7 := { stood := { row := fnFracTextRow, standIns := [], harness := (true, "a4b41042cfd07190dd19383c48475f3b238191e449cd02caecdf1a20ae340786"), looks := true }, kinds := [], alts := [], laidByText := true, laidKinds := [.data, .data, .data, .handle, .sentinel, .sentinel], laidTests := true, laidLooks := .later }
def FnFracTextCardSaid : Prop := Claim7.holds Tryz.pinned (.plain (OpenSpec.ofChange fnFracTextSpec)) fnFracTextCard

/-- THE SECOND FORM's CARD OF 'laws.FnExactFracRead'. -/
def fnExactFracReadUptoCard : Claim7 := { stood := { row := fnExactFracReadUptoRow, standIns := [], harness := (true, "a4b41042cfd07190dd19383c48475f3b238191e449cd02caecdf1a20ae340786"), looks := true }, kinds := [], alts := [], laidByText := true, laidKinds := [.data, .data, .data, .handle, .sentinel, .sentinel], laidTests := true, laidLooks := .later }
def FnExactFracReadUptoCardSaid : Prop := Claim7.holds Tryz.pinned (.plain (OpenSpec.upto fnExactFracReadSpec)) fnExactFracReadUptoCard

/-- THE SECOND FORM's CARD OF 'laws.FnFracText'. -/
def fnFracTextUptoCard : Claim7 := { stood := { row := fnFracTextUptoRow, standIns := [], harness := (true, "a4b41042cfd07190dd19383c48475f3b238191e449cd02caecdf1a20ae340786"), looks := true }, kinds := [], alts := [], laidByText := true, laidKinds := [.data, .data, .data, .handle, .sentinel, .sentinel], laidTests := true, laidLooks := .later }
def FnFracTextUptoCardSaid : Prop := Claim7.holds Tryz.pinned (.plain (OpenSpec.upto fnFracTextSpec)) fnFracTextUptoCard
end Rows
end Go.Proofs.YtlfaiekcmflgnaaGreatDoor
