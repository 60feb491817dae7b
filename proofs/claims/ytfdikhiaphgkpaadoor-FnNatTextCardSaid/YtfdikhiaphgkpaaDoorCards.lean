/-
  DERIVED. GIVEN WITH THE SEED: THE CARDS: each row of YtfdikhiaphgkpaaDoorRows.lean that lists a variable, with what it lists TIED to the program's text (the seventh form; the later family's looks); each row that meets fmt, with fmt's text TOLD by the authors' own Lean function (tested against real Go, not proved from fmt's source: count such statements apart). THE CARD IS WHAT COUNTS. Prove the row's statement (the work); the ties are given (YtfdikhiaphgkpaaDoorTie.lean); close each card by the builder's one call (the guide's Derived/Test/ToyasCard.lean, 'card_holds'). Laid BY PROGRAM, IN A SANDBOX (cutbox-door.mjs). By AI agents, Wed Nov 11 2026. No macro, syntax, notation, axiom, sorry.
-/
import Derived.Test.YtfdikhiaphgkpaaDoorRows
import GoSem.ClaimSeven
namespace Go.Proofs.YtfdikhiaphgkpaaDoor
namespace Rows

/-- THE TIED CARD OF 'laws.FnNatText'. -/
def fnNatTextCard : Claim7 := { stood := { row := fnNatTextRow, standIns := [], harness := (true, "f2dd60b8a6c4b67e54a9ddfb44b5d655bbe796b59823a105b90038236b0bada4"), looks := true }, kinds := [], alts := [], laidByText := true, laidKinds := [.data, .data, .data, .sentinel, .sentinel], laidTests := true, laidLooks := .later }
def FnNatTextCardSaid : Prop := Claim7.holds Tryd.pinned (.plain (OpenSpec.ofChange fnNatTextSpec)) fnNatTextCard

/-- THE SECOND FORM's CARD OF 'laws.FnNatText'. -/
def fnNatTextUptoCard : Claim7 := { stood := { row := fnNatTextUptoRow, standIns := [], harness := (true, "f2dd60b8a6c4b67e54a9ddfb44b5d655bbe796b59823a105b90038236b0bada4"), looks := true }, kinds := [], alts := [], laidByText := true, laidKinds := [.data, .data, .data, .sentinel, .sentinel], laidTests := true, laidLooks := .later }
def FnNatTextUptoCardSaid : Prop := Claim7.holds Tryd.pinned (.plain (OpenSpec.upto fnNatTextSpec)) fnNatTextUptoCard
end Rows
end Go.Proofs.YtfdikhiaphgkpaaDoor
