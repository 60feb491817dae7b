/-
  DERIVED. GIVEN WITH THE SEED: THE CARDS: each row of YtekhokemekaeoaaGreatDoorRows.lean that lists a variable, with what it lists TIED to the program's text (the seventh form; the later family's looks); each row that meets fmt, with fmt's text TOLD by the authors' own Lean function (tested against real Go, not proved from fmt's source: count such statements apart). THE CARD IS WHAT COUNTS. Prove the row's statement (the work); the ties are given (YtekhokemekaeoaaGreatDoorTie.lean); close each card by the builder's one call (the guide's Derived/Test/ToyasCard.lean, 'card_holds'). Laid BY PROGRAM, IN A SANDBOX (cutbox-door.mjs). By AI agents, Wed Nov 11 2026. No macro, syntax, notation, axiom, sorry.
-/
import Derived.Test.YtekhokemekaeoaaGreatDoorRows
import GoSem.ClaimSeven
namespace Go.Proofs.YtekhokemekaeoaaGreatDoor
namespace Rows

/-- THE TIED CARD OF 'laws.FnNumTop'. -/
def fnNumTopCard : Claim7 := { stood := { row := fnNumTopRow, standIns := [], harness := (true, "91f3bad53399b08fb678b07bb22d6dd5aea13d0dd050997a9d365f189890a175"), looks := true }, kinds := [], alts := [], laidByText := true, laidKinds := [.data, .data, .handle], laidTests := true, laidLooks := .later }
def FnNumTopCardSaid : Prop := Claim7.holds Tryz.pinned (.plain (OpenSpec.ofChange fnNumTopSpec)) fnNumTopCard

/-- THE TIED CARD OF 'laws.FnFracOrder'. -/
def fnFracOrderCard : Claim7 := { stood := { row := fnFracOrderRow, standIns := [], harness := (true, "91f3bad53399b08fb678b07bb22d6dd5aea13d0dd050997a9d365f189890a175"), looks := true }, kinds := [], alts := [], laidByText := true, laidKinds := [.data, .data, .handle], laidTests := true, laidLooks := .later }
def FnFracOrderCardSaid : Prop := Claim7.holds Tryz.pinned (.plain (OpenSpec.ofChange fnFracOrderSpec)) fnFracOrderCard

/-- THE TIED CARD OF 'laws.FnFracRoot'. -/
def fnFracRootCard : Claim7 := { stood := { row := fnFracRootRow, standIns := [], harness := (true, "91f3bad53399b08fb678b07bb22d6dd5aea13d0dd050997a9d365f189890a175"), looks := true }, kinds := [], alts := [], laidByText := true, laidKinds := [.data, .data, .handle], laidTests := true, laidLooks := .later }
def FnFracRootCardSaid : Prop := Claim7.holds Tryz.pinned (.plain (OpenSpec.ofChange fnFracRootSpec)) fnFracRootCard

/-- THE SECOND FORM's CARD OF 'laws.FnNumTop'. -/
def fnNumTopUptoCard : Claim7 := { stood := { row := fnNumTopUptoRow, standIns := [], harness := (true, "91f3bad53399b08fb678b07bb22d6dd5aea13d0dd050997a9d365f189890a175"), looks := true }, kinds := [], alts := [], laidByText := true, laidKinds := [.data, .data, .handle], laidTests := true, laidLooks := .later }
def FnNumTopUptoCardSaid : Prop := Claim7.holds Tryz.pinned (.plain (OpenSpec.upto fnNumTopSpec)) fnNumTopUptoCard

/-- THE SECOND FORM's CARD OF 'laws.FnFracOrder'. -/
def fnFracOrderUptoCard : Claim7 := { stood := { row := fnFracOrderUptoRow, standIns := [], harness := (true, "91f3bad53399b08fb678b07bb22d6dd5aea13d0dd050997a9d365f189890a175"), looks := true }, kinds := [], alts := [], laidByText := true, laidKinds := [.data, .data, .handle], laidTests := true, laidLooks := .later }
def FnFracOrderUptoCardSaid : Prop := Claim7.holds Tryz.pinned (.plain (OpenSpec.upto fnFracOrderSpec)) fnFracOrderUptoCard

/-- THE SECOND FORM's CARD OF 'laws.FnFracRoot'. -/
def fnFracRootUptoCard : Claim7 := { stood := { row := fnFracRootUptoRow, standIns := [], harness := (true, "91f3bad53399b08fb678b07bb22d6dd5aea13d0dd050997a9d365f189890a175"), looks := true }, kinds := [], alts := [], laidByText := true, laidKinds := [.data, .data, .handle], laidTests := true, laidLooks := .later }
def FnFracRootUptoCardSaid : Prop := Claim7.holds Tryz.pinned (.plain (OpenSpec.upto fnFracRootSpec)) fnFracRootUptoCard
end Rows
end Go.Proofs.YtekhokemekaeoaaGreatDoor
