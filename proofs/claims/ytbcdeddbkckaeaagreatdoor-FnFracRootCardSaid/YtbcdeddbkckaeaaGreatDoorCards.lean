/-
  DERIVED. GIVEN WITH THE SEED: THE CARDS: each row of YtbcdeddbkckaeaaGreatDoorRows.lean that lists a variable, with what it lists TIED to the program's text (the seventh form; the later family's looks); each row that meets fmt, with fmt's text TOLD by the authors' own Lean function (tested against real Go, not proved from fmt's source: count such statements apart). THE CARD IS WHAT COUNTS. Prove the row's statement (the work); the ties are given (YtbcdeddbkckaeaaGreatDoorTie.lean); close each card by the builder's one call (the guide's Derived/Test/ToyasCard.lean, 'card_holds'). Laid BY PROGRAM, IN A SANDBOX (cutbox-door.mjs). By AI agents, Wed Nov 11 2026. No macro, syntax, notation, axiom, sorry.
-/
import Derived.Test.YtbcdeddbkckaeaaGreatDoorRows
import GoSem.ClaimSeven
namespace Go.Proofs.YtbcdeddbkckaeaaGreatDoor
namespace Rows

/-- THE TIED CARD OF 'laws.FnExactFracRoot'. -/
def fnExactFracRootCard : Claim7 := { stood := { row := fnExactFracRootRow, standIns := [], harness := (true, "d08cfaf9a017bd42d346fa062d4d4be3538dd4a9b00f40430ae896b55ebc9905"), looks := true }, kinds := [], alts := [], laidByText := true, laidKinds := [.data, .data, .handle], laidTests := true, laidLooks := .later }
def FnExactFracRootCardSaid : Prop := Claim7.holds Tryz.pinned (.plain (OpenSpec.ofChange fnExactFracRootSpec)) fnExactFracRootCard

/-- THE TIED CARD OF 'laws.FnFracRoot'. -/
def fnFracRootCard : Claim7 := { stood := { row := fnFracRootRow, standIns := [], harness := (true, "d08cfaf9a017bd42d346fa062d4d4be3538dd4a9b00f40430ae896b55ebc9905"), looks := true }, kinds := [], alts := [], laidByText := true, laidKinds := [.data, .data, .handle], laidTests := true, laidLooks := .later }
def FnFracRootCardSaid : Prop := Claim7.holds Tryz.pinned (.plain (OpenSpec.ofChange fnFracRootSpec)) fnFracRootCard

/-- THE SECOND FORM's CARD OF 'laws.FnExactFracRoot'. -/
def fnExactFracRootUptoCard : Claim7 := { stood := { row := fnExactFracRootUptoRow, standIns := [], harness := (true, "d08cfaf9a017bd42d346fa062d4d4be3538dd4a9b00f40430ae896b55ebc9905"), looks := true }, kinds := [], alts := [], laidByText := true, laidKinds := [.data, .data, .handle], laidTests := true, laidLooks := .later }
def FnExactFracRootUptoCardSaid : Prop := Claim7.holds Tryz.pinned (.plain (OpenSpec.upto fnExactFracRootSpec)) fnExactFracRootUptoCard

/-- THE SECOND FORM's CARD OF 'laws.FnFracRoot'. -/
def fnFracRootUptoCard : Claim7 := { stood := { row := fnFracRootUptoRow, standIns := [], harness := (true, "d08cfaf9a017bd42d346fa062d4d4be3538dd4a9b00f40430ae896b55ebc9905"), looks := true }, kinds := [], alts := [], laidByText := true, laidKinds := [.data, .data, .handle], laidTests := true, laidLooks := .later }
def FnFracRootUptoCardSaid : Prop := Claim7.holds Tryz.pinned (.plain (OpenSpec.upto fnFracRootSpec)) fnFracRootUptoCard
end Rows
end Go.Proofs.YtbcdeddbkckaeaaGreatDoor
