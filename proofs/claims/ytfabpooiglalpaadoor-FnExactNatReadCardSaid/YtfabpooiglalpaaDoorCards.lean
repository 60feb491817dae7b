/-
  DERIVED. GIVEN WITH THE SEED: THE CARDS: each row of YtfabpooiglalpaaDoorRows.lean that lists a variable, with what it lists TIED to the program's text (the seventh form; the later family's looks); each row that meets fmt, with fmt's text TOLD by the authors' own Lean function (tested against real Go, not proved from fmt's source: count such statements apart). THE CARD IS WHAT COUNTS. Prove the row's statement (the work); the ties are given (YtfabpooiglalpaaDoorTie.lean); close each card by the builder's one call (the guide's Derived/Test/ToyasCard.lean, 'card_holds'). Laid BY PROGRAM, IN A SANDBOX (cutbox-door.mjs). By AI agents, Wed Nov 11 2026. No macro, syntax, notation, axiom, sorry.
-/
import Derived.Test.YtfabpooiglalpaaDoorRows
import GoSem.ClaimSeven
namespace Go.Proofs.YtfabpooiglalpaaDoor
namespace Rows

/-- THE TIED CARD OF 'laws.FnExactNatRead'. -/
def fnExactNatReadCard : Claim7 := { stood := { row := fnExactNatReadRow, standIns := [], harness := (true, "61837710c51dfd120b83929a1b3d25e722979c89019156ef2b93b7b516fb5af7"), looks := true }, kinds := [], alts := [], laidByText := true, laidKinds := [.data, .data, .data, .sentinel, .sentinel], laidTests := true, laidLooks := .later }
def FnExactNatReadCardSaid : Prop := Claim7.holds Tryd.pinned (.plain (OpenSpec.ofChange fnExactNatReadSpec)) fnExactNatReadCard

/-- THE SECOND FORM's CARD OF 'laws.FnExactNatRead'. -/
def fnExactNatReadUptoCard : Claim7 := { stood := { row := fnExactNatReadUptoRow, standIns := [], harness := (true, "61837710c51dfd120b83929a1b3d25e722979c89019156ef2b93b7b516fb5af7"), looks := true }, kinds := [], alts := [], laidByText := true, laidKinds := [.data, .data, .data, .sentinel, .sentinel], laidTests := true, laidLooks := .later }
def FnExactNatReadUptoCardSaid : Prop := Claim7.holds Tryd.pinned (.plain (OpenSpec.upto fnExactNatReadSpec)) fnExactNatReadUptoCard
end Rows
end Go.Proofs.YtfabpooiglalpaaDoor
