/-
  DERIVED. GIVEN WITH THE SEED: THE CARDS: each row of YtmnjkhfpgjolbaaGreatDoorRows.lean that lists a variable, with what it lists TIED to the program's text (the seventh form; the later family's looks); each row that meets fmt, with fmt's text TOLD by the authors' own Lean function (tested against real Go, not proved from fmt's source: count such statements apart). THE CARD IS WHAT COUNTS. Prove the row's statement (the work); the ties are given (YtmnjkhfpgjolbaaGreatDoorTie.lean); close each card by the builder's one call (the guide's Derived/Test/ToyasCard.lean, 'card_holds'). Laid BY PROGRAM, IN A SANDBOX (cutbox-door.mjs). By AI agents, Wed Nov 11 2026. No macro, syntax, notation, axiom, sorry.
-/
import Derived.Test.YtmnjkhfpgjolbaaGreatDoorRows
import GoSem.ClaimSeven
namespace Go.Proofs.YtmnjkhfpgjolbaaGreatDoor
namespace Rows

/-- THE TIED CARD OF 'laws.FnExactRelHolds'. -/
def fnExactRelHoldsCard : Claim7 := { stood := { row := fnExactRelHoldsRow, standIns := [], harness := (true, "73731316417543b93353f5041577f3a934df0596798adc1b24a0eed35377ba90"), looks := true }, kinds := [], alts := [], laidByText := true, laidKinds := [.data, .data, .handle], laidTests := true, laidLooks := .later }
def FnExactRelHoldsCardSaid : Prop := Claim7.holds Tryz.pinned (.plain (OpenSpec.ofChange fnExactRelHoldsSpec)) fnExactRelHoldsCard

/-- THE SECOND FORM's CARD OF 'laws.FnExactRelHolds'. -/
def fnExactRelHoldsUptoCard : Claim7 := { stood := { row := fnExactRelHoldsUptoRow, standIns := [], harness := (true, "73731316417543b93353f5041577f3a934df0596798adc1b24a0eed35377ba90"), looks := true }, kinds := [], alts := [], laidByText := true, laidKinds := [.data, .data, .handle], laidTests := true, laidLooks := .later }
def FnExactRelHoldsUptoCardSaid : Prop := Claim7.holds Tryz.pinned (.plain (OpenSpec.upto fnExactRelHoldsSpec)) fnExactRelHoldsUptoCard
end Rows
end Go.Proofs.YtmnjkhfpgjolbaaGreatDoor
