/-
  DERIVED. GIVEN WITH THE SEED: THE CARDS: each row of YtmllcpcbaojipaaDoorRows.lean that lists a variable, with what it lists TIED to the program's text (the seventh form; the later family's looks); each row that meets fmt, with fmt's text TOLD by the authors' own Lean function (tested against real Go, not proved from fmt's source: count such statements apart). THE CARD IS WHAT COUNTS. Prove the row's statement (the work); the ties are given (YtmllcpcbaojipaaDoorTie.lean); close each card by the builder's one call (the guide's Derived/Test/ToyasCard.lean, 'card_holds'). Laid BY PROGRAM, IN A SANDBOX (cutbox-door.mjs). By AI agents, Wed Nov 11 2026. No macro, syntax, notation, axiom, sorry.
-/
import Derived.Test.YtmllcpcbaojipaaDoorRows
import GoSem.ClaimSeven
namespace Go.Proofs.YtmllcpcbaojipaaDoor
namespace Rows

/-- THE TIED CARD OF 'laws.FnBoxBits'. -/
def fnBoxBitsCard : Claim7 := { stood := { row := fnBoxBitsRow, standIns := [], harness := (true, "88f273e9d11f2c3b5ba673e22ccdcbe55b3b916894fe6f55d947997340c4dd23"), looks := true }, kinds := [], alts := [], laidByText := true, laidKinds := [.handle], laidTests := true, laidLooks := .later }
def FnBoxBitsCardSaid : Prop := Claim7.holds Tryd.pinned (.plain (OpenSpec.ofChange fnBoxBitsSpec)) fnBoxBitsCard

/-- THE SECOND FORM's CARD OF 'laws.FnBoxBits'. -/
def fnBoxBitsUptoCard : Claim7 := { stood := { row := fnBoxBitsUptoRow, standIns := [], harness := (true, "88f273e9d11f2c3b5ba673e22ccdcbe55b3b916894fe6f55d947997340c4dd23"), looks := true }, kinds := [], alts := [], laidByText := true, laidKinds := [.handle], laidTests := true, laidLooks := .later }
def FnBoxBitsUptoCardSaid : Prop := Claim7.holds Tryd.pinned (.plain (OpenSpec.upto fnBoxBitsSpec)) fnBoxBitsUptoCard
end Rows
end Go.Proofs.YtmllcpcbaojipaaDoor
