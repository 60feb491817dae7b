/-
  DERIVED. GIVEN WITH THE SEED: THE CARDS: each row of YtpjababikpakoaaGreatDoorRows.lean that lists a variable, with what it lists TIED to the program's text (the seventh form; the later family's looks); each row that meets fmt, with fmt's text TOLD by the authors' own Lean function (tested against real Go, not proved from fmt's source: count such statements apart). THE CARD IS WHAT COUNTS. Prove the row's statement (the work); the ties are given (YtpjababikpakoaaGreatDoorTie.lean); close each card by the builder's one call (the guide's Derived/Test/ToyasCard.lean, 'card_holds'). Laid BY PROGRAM, IN A SANDBOX (cutbox-door.mjs). By AI agents, Wed Nov 11 2026. No macro, syntax, notation, axiom, sorry.
-/
import Derived.Test.YtpjababikpakoaaGreatDoorRows
import GoSem.ClaimSeven
namespace Go.Proofs.YtpjababikpakoaaGreatDoor
namespace Rows

/-- THE TIED CARD OF 'laws.FnExactFloatFrac'. -/
def fnExactFloatFracCard : Claim7 := { stood := { row := fnExactFloatFracRow, standIns := [], harness := (true, "d48ad5c7555e276af5b1c612258beb3e89dc1ce490534c90b3196009b2b2ffd3"), looks := true }, kinds := [], alts := [], laidByText := true, laidKinds := [.data, .data, .handle], laidTests := true, laidLooks := .later }
def FnExactFloatFracCardSaid : Prop := Claim7.holds Tryz.pinned (.plain (OpenSpec.ofChange fnExactFloatFracSpec)) fnExactFloatFracCard

/-- THE TIED CARD OF 'laws.FnExactFloatDown'. -/
def fnExactFloatDownCard : Claim7 := { stood := { row := fnExactFloatDownRow, standIns := [], harness := (true, "d48ad5c7555e276af5b1c612258beb3e89dc1ce490534c90b3196009b2b2ffd3"), looks := true }, kinds := [], alts := [], laidByText := true, laidKinds := [.data, .data, .handle], laidTests := true, laidLooks := .later }
def FnExactFloatDownCardSaid : Prop := Claim7.holds Tryz.pinned (.plain (OpenSpec.ofChange fnExactFloatDownSpec)) fnExactFloatDownCard

/-- THE TIED CARD OF 'laws.FnExactFloatUp'. -/
def fnExactFloatUpCard : Claim7 := { stood := { row := fnExactFloatUpRow, standIns := [], harness := (true, "d48ad5c7555e276af5b1c612258beb3e89dc1ce490534c90b3196009b2b2ffd3"), looks := true }, kinds := [], alts := [], laidByText := true, laidKinds := [.data, .data, .handle], laidTests := true, laidLooks := .later }
def FnExactFloatUpCardSaid : Prop := Claim7.holds Tryz.pinned (.plain (OpenSpec.ofChange fnExactFloatUpSpec)) fnExactFloatUpCard

/-- THE TIED CARD OF 'laws.FnExactPairFrac'. -/
def fnExactPairFracCard : Claim7 := { stood := { row := fnExactPairFracRow, standIns := [], harness := (true, "d48ad5c7555e276af5b1c612258beb3e89dc1ce490534c90b3196009b2b2ffd3"), looks := true }, kinds := [], alts := [], laidByText := true, laidKinds := [.data, .data, .handle], laidTests := true, laidLooks := .later }
def FnExactPairFracCardSaid : Prop := Claim7.holds Tryz.pinned (.plain (OpenSpec.ofChange fnExactPairFracSpec)) fnExactPairFracCard

/-- THE TIED CARD OF 'laws.FnExactPairHas'. -/
def fnExactPairHasCard : Claim7 := { stood := { row := fnExactPairHasRow, standIns := [], harness := (true, "d48ad5c7555e276af5b1c612258beb3e89dc1ce490534c90b3196009b2b2ffd3"), looks := true }, kinds := [], alts := [], laidByText := true, laidKinds := [.data, .data, .handle], laidTests := true, laidLooks := .later }
def FnExactPairHasCardSaid : Prop := Claim7.holds Tryz.pinned (.plain (OpenSpec.ofChange fnExactPairHasSpec)) fnExactPairHasCard

/-- THE TIED CARD OF 'laws.FnExactSpanHas'. -/
def fnExactSpanHasCard : Claim7 := { stood := { row := fnExactSpanHasRow, standIns := [], harness := (true, "d48ad5c7555e276af5b1c612258beb3e89dc1ce490534c90b3196009b2b2ffd3"), looks := true }, kinds := [], alts := [], laidByText := true, laidKinds := [.data, .data, .handle], laidTests := true, laidLooks := .later }
def FnExactSpanHasCardSaid : Prop := Claim7.holds Tryz.pinned (.plain (OpenSpec.ofChange fnExactSpanHasSpec)) fnExactSpanHasCard

/-- THE TIED CARD OF 'laws.FnExactFloatNear'. -/
def fnExactFloatNearCard : Claim7 := { stood := { row := fnExactFloatNearRow, standIns := [], harness := (true, "d48ad5c7555e276af5b1c612258beb3e89dc1ce490534c90b3196009b2b2ffd3"), looks := true }, kinds := [], alts := [], laidByText := true, laidKinds := [.data, .data, .handle], laidTests := true, laidLooks := .later }
def FnExactFloatNearCardSaid : Prop := Claim7.holds Tryz.pinned (.plain (OpenSpec.ofChange fnExactFloatNearSpec)) fnExactFloatNearCard

/-- THE TIED CARD OF 'laws.FnFloatRound'. -/
def fnFloatRoundCard : Claim7 := { stood := { row := fnFloatRoundRow, standIns := [], harness := (true, "d48ad5c7555e276af5b1c612258beb3e89dc1ce490534c90b3196009b2b2ffd3"), looks := true }, kinds := [], alts := [], laidByText := true, laidKinds := [.data, .data, .handle], laidTests := true, laidLooks := .later }
def FnFloatRoundCardSaid : Prop := Claim7.holds Tryz.pinned (.plain (OpenSpec.ofChange fnFloatRoundSpec)) fnFloatRoundCard

/-- THE TIED CARD OF 'laws.FnFloatFrac'. -/
def fnFloatFracCard : Claim7 := { stood := { row := fnFloatFracRow, standIns := [], harness := (true, "d48ad5c7555e276af5b1c612258beb3e89dc1ce490534c90b3196009b2b2ffd3"), looks := true }, kinds := [], alts := [], laidByText := true, laidKinds := [.data, .data, .handle], laidTests := true, laidLooks := .later }
def FnFloatFracCardSaid : Prop := Claim7.holds Tryz.pinned (.plain (OpenSpec.ofChange fnFloatFracSpec)) fnFloatFracCard

/-- THE SECOND FORM's CARD OF 'laws.FnExactFloatFrac'. -/
def fnExactFloatFracUptoCard : Claim7 := { stood := { row := fnExactFloatFracUptoRow, standIns := [], harness := (true, "d48ad5c7555e276af5b1c612258beb3e89dc1ce490534c90b3196009b2b2ffd3"), looks := true }, kinds := [], alts := [], laidByText := true, laidKinds := [.data, .data, .handle], laidTests := true, laidLooks := .later }
def FnExactFloatFracUptoCardSaid : Prop := Claim7.holds Tryz.pinned (.plain (OpenSpec.upto fnExactFloatFracSpec)) fnExactFloatFracUptoCard

/-- THE SECOND FORM's CARD OF 'laws.FnExactFloatDown'. -/
def fnExactFloatDownUptoCard : Claim7 := { stood := { row := fnExactFloatDownUptoRow, standIns := [], harness := (true, "d48ad5c7555e276af5b1c612258beb3e89dc1ce490534c90b3196009b2b2ffd3"), looks := true }, kinds := [], alts := [], laidByText := true, laidKinds := [.data, .data, .handle], laidTests := true, laidLooks := .later }
def FnExactFloatDownUptoCardSaid : Prop := Claim7.holds Tryz.pinned (.plain (OpenSpec.upto fnExactFloatDownSpec)) fnExactFloatDownUptoCard

/-- THE SECOND FORM's CARD OF 'laws.FnExactFloatUp'. -/
def fnExactFloatUpUptoCard : Claim7 := { stood := { row := fnExactFloatUpUptoRow, standIns := [], harness := (true, "d48ad5c7555e276af5b1c612258beb3e89dc1ce490534c90b3196009b2b2ffd3"), looks := true }, kinds := [], alts := [], laidByText := true, laidKinds := [.data, .data, .handle], laidTests := true, laidLooks := .later }
def FnExactFloatUpUptoCardSaid : Prop := Claim7.holds Tryz.pinned (.plain (OpenSpec.upto fnExactFloatUpSpec)) fnExactFloatUpUptoCard

/-- THE SECOND FORM's CARD OF 'laws.FnExactPairFrac'. -/
def fnExactPairFracUptoCard : Claim7 := { stood := { row := fnExactPairFracUptoRow, standIns := [], harness := (true, "d48ad5c7555e276af5b1c612258beb3e89dc1ce490534c90b3196009b2b2ffd3"), looks := true }, kinds := [], alts := [], laidByText := true, laidKinds := [.data, .data, .handle], laidTests := true, laidLooks := .later }
def FnExactPairFracUptoCardSaid : Prop := Claim7.holds Tryz.pinned (.plain (OpenSpec.upto fnExactPairFracSpec)) fnExactPairFracUptoCard

/-- THE SECOND FORM's CARD OF 'laws.FnExactPairHas'. -/
def fnExactPairHasUptoCard : Claim7 := { stood := { row := fnExactPairHasUptoRow, standIns := [], harness := (true, "d48ad5c7555e276af5b1c612258beb3e89dc1ce490534c90b3196009b2b2ffd3"), looks := true }, kinds := [], alts := [], laidByText := true, laidKinds := [.data, .data, .handle], laidTests := true, laidLooks := .later }
def FnExactPairHasUptoCardSaid : Prop := Claim7.holds Tryz.pinned (.plain (OpenSpec.upto fnExactPairHasSpec)) fnExactPairHasUptoCard

/-- THE SECOND FORM's CARD OF 'laws.FnExactSpanHas'. -/
def fnExactSpanHasUptoCard : Claim7 := { stood := { row := fnExactSpanHasUptoRow, standIns := [], harness := (true, "d48ad5c7555e276af5b1c612258beb3e89dc1ce490534c90b3196009b2b2ffd3"), looks := true }, kinds := [], alts := [], laidByText := true, laidKinds := [.data, .data, .handle], laidTests := true, laidLooks := .later }
def FnExactSpanHasUptoCardSaid : Prop := Claim7.holds Tryz.pinned (.plain (OpenSpec.upto fnExactSpanHasSpec)) fnExactSpanHasUptoCard

/-- THE SECOND FORM's CARD OF 'laws.FnExactFloatNear'. -/
def fnExactFloatNearUptoCard : Claim7 := { stood := { row := fnExactFloatNearUptoRow, standIns := [], harness := (true, "d48ad5c7555e276af5b1c612258beb3e89dc1ce490534c90b3196009b2b2ffd3"), looks := true }, kinds := [], alts := [], laidByText := true, laidKinds := [.data, .data, .handle], laidTests := true, laidLooks := .later }
def FnExactFloatNearUptoCardSaid : Prop := Claim7.holds Tryz.pinned (.plain (OpenSpec.upto fnExactFloatNearSpec)) fnExactFloatNearUptoCard

/-- THE SECOND FORM's CARD OF 'laws.FnFloatRound'. -/
def fnFloatRoundUptoCard : Claim7 := { stood := { row := fnFloatRoundUptoRow, standIns := [], harness := (true, "d48ad5c7555e276af5b1c612258beb3e89dc1ce490534c90b3196009b2b2ffd3"), looks := true }, kinds := [], alts := [], laidByText := true, laidKinds := [.data, .data, .handle], laidTests := true, laidLooks := .later }
def FnFloatRoundUptoCardSaid : Prop := Claim7.holds Tryz.pinned (.plain (OpenSpec.upto fnFloatRoundSpec)) fnFloatRoundUptoCard

/-- THE SECOND FORM's CARD OF 'laws.FnFloatFrac'. -/
def fnFloatFracUptoCard : Claim7 := { stood := { row := fnFloatFracUptoRow, standIns := [], harness := (true, "d48ad5c7555e276af5b1c612258beb3e89dc1ce490534c90b3196009b2b2ffd3"), looks := true }, kinds := [], alts := [], laidByText := true, laidKinds := [.data, .data, .handle], laidTests := true, laidLooks := .later }
def FnFloatFracUptoCardSaid : Prop := Claim7.holds Tryz.pinned (.plain (OpenSpec.upto fnFloatFracSpec)) fnFloatFracUptoCard
end Rows
end Go.Proofs.YtpjababikpakoaaGreatDoor
