/-
  DERIVED. GIVEN WITH THE SEED: THE CARDS: each row of YtcclefoemcodpaaDoorRows.lean that lists a variable, with what it lists TIED to the program's text (the seventh form; the later family's looks); each row that meets fmt, with fmt's text TOLD by the authors' own Lean function (tested against real Go, not proved from fmt's source: count such statements apart). THE CARD IS WHAT COUNTS. Prove the row's statement (the work); the ties are given (YtcclefoemcodpaaDoorTie.lean); close each card by the builder's one call (the guide's Derived/Test/ToyasCard.lean, 'card_holds'). Laid BY PROGRAM, IN A SANDBOX (cutbox-door.mjs). By AI agents, Wed Nov 11 2026. No macro, syntax, notation, axiom, sorry.
-/
import Derived.Test.YtcclefoemcodpaaDoorRows
import GoSem.ClaimSeven
namespace Go.Proofs.YtcclefoemcodpaaDoor
namespace Rows

/-- THE TIED CARD OF 'laws.FnNatGcd'. -/
def fnNatGcdCard : Claim7 := { stood := { row := fnNatGcdRow, standIns := [], harness := (true, "815836fdf5263b1e091690dd95880f613a583bcdbcf3d368c4b89e48652227fe"), looks := false }, kinds := [], alts := [], laidByText := true, laidKinds := [.data, .data], laidTests := true, laidLooks := .later }
def FnNatGcdCardSaid : Prop := Claim7.holds Tryd.pinned (.plain (OpenSpec.ofChange fnNatGcdSpec)) fnNatGcdCard

/-- THE SECOND FORM's CARD OF 'laws.FnNatGcd'. -/
def fnNatGcdUptoCard : Claim7 := { stood := { row := fnNatGcdUptoRow, standIns := [], harness := (true, "815836fdf5263b1e091690dd95880f613a583bcdbcf3d368c4b89e48652227fe"), looks := false }, kinds := [], alts := [], laidByText := true, laidKinds := [.data, .data], laidTests := true, laidLooks := .later }
def FnNatGcdUptoCardSaid : Prop := Claim7.holds Tryd.pinned (.plain (OpenSpec.upto fnNatGcdSpec)) fnNatGcdUptoCard
end Rows
end Go.Proofs.YtcclefoemcodpaaDoor
