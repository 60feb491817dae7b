/-
  DERIVED. GIVEN WITH THE SEED: THE CARDS: each row of YtpamnpdigoikoaaDoorRows.lean that lists a variable, with what it lists TIED to the program's text (the seventh form; the later family's looks); each row that meets fmt, with fmt's text TOLD by the authors' own Lean function (tested against real Go, not proved from fmt's source: count such statements apart). THE CARD IS WHAT COUNTS. Prove the row's statement (the work); the ties are given (YtpamnpdigoikoaaDoorTie.lean); close each card by the builder's one call (the guide's Derived/Test/ToyasCard.lean, 'card_holds'). Laid BY PROGRAM, IN A SANDBOX (cutbox-door.mjs). By AI agents, Wed Nov 11 2026. No macro, syntax, notation, axiom, sorry.
-/
import Derived.Test.YtpamnpdigoikoaaDoorRows
import GoSem.ClaimSeven
namespace Go.Proofs.YtpamnpdigoikoaaDoor
namespace Rows

/-- THE TIED CARD OF 'laws.FnNatGcd'. -/
def fnNatGcdCard : Claim7 := { stood := { row := fnNatGcdRow, standIns := [], harness := (true, "6f21039d4a4c9ff674e44c4929c0c3c93ca81af254afb800033856e427f768f3"), looks := true }, kinds := [], alts := [], laidByText := true, laidKinds := [.data, .data], laidTests := true, laidLooks := .later }
def FnNatGcdCardSaid : Prop := Claim7.holds Tryd.pinned (.plain (OpenSpec.ofChange fnNatGcdSpec)) fnNatGcdCard

/-- THE TIED CARD OF 'laws.FnExactNatGcd'. -/
def fnExactNatGcdCard : Claim7 := { stood := { row := fnExactNatGcdRow, standIns := [], harness := (true, "6f21039d4a4c9ff674e44c4929c0c3c93ca81af254afb800033856e427f768f3"), looks := true }, kinds := [], alts := [], laidByText := true, laidKinds := [.data, .data], laidTests := true, laidLooks := .later }
def FnExactNatGcdCardSaid : Prop := Claim7.holds Tryd.pinned (.plain (OpenSpec.ofChange fnExactNatGcdSpec)) fnExactNatGcdCard

/-- THE TIED CARD OF 'laws.FnExactFracOk'. -/
def fnExactFracOkCard : Claim7 := { stood := { row := fnExactFracOkRow, standIns := [], harness := (true, "6f21039d4a4c9ff674e44c4929c0c3c93ca81af254afb800033856e427f768f3"), looks := true }, kinds := [], alts := [], laidByText := true, laidKinds := [.data, .data, .handle], laidTests := true, laidLooks := .later }
def FnExactFracOkCardSaid : Prop := Claim7.holds Tryd.pinned (.plain (OpenSpec.ofChange fnExactFracOkSpec)) fnExactFracOkCard

/-- THE TIED CARD OF 'laws.FnExactFracOf'. -/
def fnExactFracOfCard : Claim7 := { stood := { row := fnExactFracOfRow, standIns := [], harness := (true, "6f21039d4a4c9ff674e44c4929c0c3c93ca81af254afb800033856e427f768f3"), looks := true }, kinds := [], alts := [], laidByText := true, laidKinds := [.data, .data, .handle], laidTests := true, laidLooks := .later }
def FnExactFracOfCardSaid : Prop := Claim7.holds Tryd.pinned (.plain (OpenSpec.ofChange fnExactFracOfSpec)) fnExactFracOfCard

/-- THE TIED CARD OF 'laws.FnExactFracCmp'. -/
def fnExactFracCmpCard : Claim7 := { stood := { row := fnExactFracCmpRow, standIns := [], harness := (true, "6f21039d4a4c9ff674e44c4929c0c3c93ca81af254afb800033856e427f768f3"), looks := true }, kinds := [], alts := [], laidByText := true, laidKinds := [.data, .data, .handle], laidTests := true, laidLooks := .later }
def FnExactFracCmpCardSaid : Prop := Claim7.holds Tryd.pinned (.plain (OpenSpec.ofChange fnExactFracCmpSpec)) fnExactFracCmpCard

/-- THE TIED CARD OF 'laws.FnExactFracSign'. -/
def fnExactFracSignCard : Claim7 := { stood := { row := fnExactFracSignRow, standIns := [], harness := (true, "6f21039d4a4c9ff674e44c4929c0c3c93ca81af254afb800033856e427f768f3"), looks := true }, kinds := [], alts := [], laidByText := true, laidKinds := [.data, .data, .handle], laidTests := true, laidLooks := .later }
def FnExactFracSignCardSaid : Prop := Claim7.holds Tryd.pinned (.plain (OpenSpec.ofChange fnExactFracSignSpec)) fnExactFracSignCard

/-- THE TIED CARD OF 'laws.FnExactFracNeg'. -/
def fnExactFracNegCard : Claim7 := { stood := { row := fnExactFracNegRow, standIns := [], harness := (true, "6f21039d4a4c9ff674e44c4929c0c3c93ca81af254afb800033856e427f768f3"), looks := true }, kinds := [], alts := [], laidByText := true, laidKinds := [.data, .data, .handle], laidTests := true, laidLooks := .later }
def FnExactFracNegCardSaid : Prop := Claim7.holds Tryd.pinned (.plain (OpenSpec.ofChange fnExactFracNegSpec)) fnExactFracNegCard

/-- THE TIED CARD OF 'laws.FnExactFracAbs'. -/
def fnExactFracAbsCard : Claim7 := { stood := { row := fnExactFracAbsRow, standIns := [], harness := (true, "6f21039d4a4c9ff674e44c4929c0c3c93ca81af254afb800033856e427f768f3"), looks := true }, kinds := [], alts := [], laidByText := true, laidKinds := [.data, .data, .handle], laidTests := true, laidLooks := .later }
def FnExactFracAbsCardSaid : Prop := Claim7.holds Tryd.pinned (.plain (OpenSpec.ofChange fnExactFracAbsSpec)) fnExactFracAbsCard

/-- THE TIED CARD OF 'laws.FnExactFracMul'. -/
def fnExactFracMulCard : Claim7 := { stood := { row := fnExactFracMulRow, standIns := [], harness := (true, "6f21039d4a4c9ff674e44c4929c0c3c93ca81af254afb800033856e427f768f3"), looks := true }, kinds := [], alts := [], laidByText := true, laidKinds := [.data, .data, .handle], laidTests := true, laidLooks := .later }
def FnExactFracMulCardSaid : Prop := Claim7.holds Tryd.pinned (.plain (OpenSpec.ofChange fnExactFracMulSpec)) fnExactFracMulCard

/-- THE SECOND FORM's CARD OF 'laws.FnNatGcd'. -/
def fnNatGcdUptoCard : Claim7 := { stood := { row := fnNatGcdUptoRow, standIns := [], harness := (true, "6f21039d4a4c9ff674e44c4929c0c3c93ca81af254afb800033856e427f768f3"), looks := true }, kinds := [], alts := [], laidByText := true, laidKinds := [.data, .data], laidTests := true, laidLooks := .later }
def FnNatGcdUptoCardSaid : Prop := Claim7.holds Tryd.pinned (.plain (OpenSpec.upto fnNatGcdSpec)) fnNatGcdUptoCard

/-- THE SECOND FORM's CARD OF 'laws.FnExactNatGcd'. -/
def fnExactNatGcdUptoCard : Claim7 := { stood := { row := fnExactNatGcdUptoRow, standIns := [], harness := (true, "6f21039d4a4c9ff674e44c4929c0c3c93ca81af254afb800033856e427f768f3"), looks := true }, kinds := [], alts := [], laidByText := true, laidKinds := [.data, .data], laidTests := true, laidLooks := .later }
def FnExactNatGcdUptoCardSaid : Prop := Claim7.holds Tryd.pinned (.plain (OpenSpec.upto fnExactNatGcdSpec)) fnExactNatGcdUptoCard

/-- THE SECOND FORM's CARD OF 'laws.FnExactFracOk'. -/
def fnExactFracOkUptoCard : Claim7 := { stood := { row := fnExactFracOkUptoRow, standIns := [], harness := (true, "6f21039d4a4c9ff674e44c4929c0c3c93ca81af254afb800033856e427f768f3"), looks := true }, kinds := [], alts := [], laidByText := true, laidKinds := [.data, .data, .handle], laidTests := true, laidLooks := .later }
def FnExactFracOkUptoCardSaid : Prop := Claim7.holds Tryd.pinned (.plain (OpenSpec.upto fnExactFracOkSpec)) fnExactFracOkUptoCard

/-- THE SECOND FORM's CARD OF 'laws.FnExactFracOf'. -/
def fnExactFracOfUptoCard : Claim7 := { stood := { row := fnExactFracOfUptoRow, standIns := [], harness := (true, "6f21039d4a4c9ff674e44c4929c0c3c93ca81af254afb800033856e427f768f3"), looks := true }, kinds := [], alts := [], laidByText := true, laidKinds := [.data, .data, .handle], laidTests := true, laidLooks := .later }
def FnExactFracOfUptoCardSaid : Prop := Claim7.holds Tryd.pinned (.plain (OpenSpec.upto fnExactFracOfSpec)) fnExactFracOfUptoCard

/-- THE SECOND FORM's CARD OF 'laws.FnExactFracCmp'. -/
def fnExactFracCmpUptoCard : Claim7 := { stood := { row := fnExactFracCmpUptoRow, standIns := [], harness := (true, "6f21039d4a4c9ff674e44c4929c0c3c93ca81af254afb800033856e427f768f3"), looks := true }, kinds := [], alts := [], laidByText := true, laidKinds := [.data, .data, .handle], laidTests := true, laidLooks := .later }
def FnExactFracCmpUptoCardSaid : Prop := Claim7.holds Tryd.pinned (.plain (OpenSpec.upto fnExactFracCmpSpec)) fnExactFracCmpUptoCard

/-- THE SECOND FORM's CARD OF 'laws.FnExactFracSign'. -/
def fnExactFracSignUptoCard : Claim7 := { stood := { row := fnExactFracSignUptoRow, standIns := [], harness := (true, "6f21039d4a4c9ff674e44c4929c0c3c93ca81af254afb800033856e427f768f3"), looks := true }, kinds := [], alts := [], laidByText := true, laidKinds := [.data, .data, .handle], laidTests := true, laidLooks := .later }
def FnExactFracSignUptoCardSaid : Prop := Claim7.holds Tryd.pinned (.plain (OpenSpec.upto fnExactFracSignSpec)) fnExactFracSignUptoCard

/-- THE SECOND FORM's CARD OF 'laws.FnExactFracNeg'. -/
def fnExactFracNegUptoCard : Claim7 := { stood := { row := fnExactFracNegUptoRow, standIns := [], harness := (true, "6f21039d4a4c9ff674e44c4929c0c3c93ca81af254afb800033856e427f768f3"), looks := true }, kinds := [], alts := [], laidByText := true, laidKinds := [.data, .data, .handle], laidTests := true, laidLooks := .later }
def FnExactFracNegUptoCardSaid : Prop := Claim7.holds Tryd.pinned (.plain (OpenSpec.upto fnExactFracNegSpec)) fnExactFracNegUptoCard

/-- THE SECOND FORM's CARD OF 'laws.FnExactFracAbs'. -/
def fnExactFracAbsUptoCard : Claim7 := { stood := { row := fnExactFracAbsUptoRow, standIns := [], harness := (true, "6f21039d4a4c9ff674e44c4929c0c3c93ca81af254afb800033856e427f768f3"), looks := true }, kinds := [], alts := [], laidByText := true, laidKinds := [.data, .data, .handle], laidTests := true, laidLooks := .later }
def FnExactFracAbsUptoCardSaid : Prop := Claim7.holds Tryd.pinned (.plain (OpenSpec.upto fnExactFracAbsSpec)) fnExactFracAbsUptoCard

/-- THE SECOND FORM's CARD OF 'laws.FnExactFracMul'. -/
def fnExactFracMulUptoCard : Claim7 := { stood := { row := fnExactFracMulUptoRow, standIns := [], harness := (true, "6f21039d4a4c9ff674e44c4929c0c3c93ca81af254afb800033856e427f768f3"), looks := true }, kinds := [], alts := [], laidByText := true, laidKinds := [.data, .data, .handle], laidTests := true, laidLooks := .later }
def FnExactFracMulUptoCardSaid : Prop := Claim7.holds Tryd.pinned (.plain (OpenSpec.upto fnExactFracMulSpec)) fnExactFracMulUptoCard
end Rows
end Go.Proofs.YtpamnpdigoikoaaDoor
