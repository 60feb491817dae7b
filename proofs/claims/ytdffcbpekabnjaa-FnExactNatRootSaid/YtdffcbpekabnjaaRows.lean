/-
  No cell of these rows narrows 'for every input' (looked for: loops, veiled, ifaces, maps, wideKeys, modest, calm, conditions, laid).
  DERIVED. THE GIVEN ROWS OF THIS SEAT. 8 by the template 'for every input the law returns true; each argument reads behind the call as it read before'; 0 by the template 'total and deterministic' (their statements: YtdffcbpekabnjaaTotals.lean).
  GIVEN WITH THE SEED: the statements are not yours to turn. If you find one false, say at which input.
  Laid BY PROGRAM, IN A SANDBOX (cutbox-rows.mjs): the forced cells as the released guide's own fill.sh prints them over the translation f70c6f63e8d52c99… (all of the seat's roots in one cut). By AI agents, Wed Nov 11 2026. No macro, syntax, notation, axiom, sorry.
-/
import Derived.Test.YtdffcbpekabnjaaChecked
import GoSem.Claim
import GoSem.ClaimJoined
import GoSem.ClaimMapViews
import Derived.JoinedTies
import Derived.KernelRfl
namespace Go.Proofs.Ytdffcbpekabnjaa
/- THE CELL 'sum', in the pinned program and in every row, IS THE sha256 OF THE DUMP (.gsa) THAT YtdffcbpekabnjaaProg.lean LOADS. Nothing in Lean hashes anything: it is a label: what it is worth is what the hold of that sum in a sandbox is worth. -/
noncomputable def Try.pinned : Pinned := { name := "ytdffcbpekabnjaa", sum := "f70c6f63e8d52c9996c04b8c5a6c390a013d7827b30cc6482bf4c904fc80d068", checked := Try.checked }
namespace Rows
def none {H : Type} : Left H := { results := [], args := [] }

/-- 'laws.FnNatDiv': WHATEVER THE INPUT: true; the input reads as it did. -/
def fnNatDivSpec : ChangeSpec := { name := "fnNatDiv", fn := fun _ => fun
  | [d] => { results := [.lit (.bool true)], args := [d] }
  | _ => none }
def fnNatDivRow : OpenClaim := { program := "ytdffcbpekabnjaa", sum := "f70c6f63e8d52c9996c04b8c5a6c390a013d7827b30cc6482bf4c904fc80d068", func := "loop.example/pinfold/laws.FnNatDiv", spec := "fnNatDiv", unfollowed := true, recurses := true, apart := false }
def FnNatDivSaid : Prop := fnNatDivRow.holds Try.pinned (OpenSpec.ofChange fnNatDivSpec)

/-- ITS FALSE NEIGHBOUR: 'it returns false'. Refute it at one input. -/
def fnNatDivWrong : ChangeSpec := { name := "fnNatDiv", fn := fun _ => fun
  | [d] => { results := [.lit (.bool false)], args := [d] }
  | _ => none }
def FnNatDivWrongFalsely : Prop := fnNatDivRow.holds Try.pinned (OpenSpec.ofChange fnNatDivWrong)

/-- 'laws.FnNatRoot': WHATEVER THE INPUT: true; the input reads as it did. -/
def fnNatRootSpec : ChangeSpec := { name := "fnNatRoot", fn := fun _ => fun
  | [d] => { results := [.lit (.bool true)], args := [d] }
  | _ => none }
def fnNatRootRow : OpenClaim := { program := "ytdffcbpekabnjaa", sum := "f70c6f63e8d52c9996c04b8c5a6c390a013d7827b30cc6482bf4c904fc80d068", func := "loop.example/pinfold/laws.FnNatRoot", spec := "fnNatRoot", unfollowed := true, recurses := true, apart := false }
def FnNatRootSaid : Prop := fnNatRootRow.holds Try.pinned (OpenSpec.ofChange fnNatRootSpec)

/-- ITS FALSE NEIGHBOUR: 'it returns false'. Refute it at one input. -/
def fnNatRootWrong : ChangeSpec := { name := "fnNatRoot", fn := fun _ => fun
  | [d] => { results := [.lit (.bool false)], args := [d] }
  | _ => none }
def FnNatRootWrongFalsely : Prop := fnNatRootRow.holds Try.pinned (OpenSpec.ofChange fnNatRootWrong)

/-- 'laws.FnNatShift': WHATEVER THE INPUT: true; the input reads as it did. -/
def fnNatShiftSpec : ChangeSpec := { name := "fnNatShift", fn := fun _ => fun
  | [d] => { results := [.lit (.bool true)], args := [d] }
  | _ => none }
def fnNatShiftRow : OpenClaim := { program := "ytdffcbpekabnjaa", sum := "f70c6f63e8d52c9996c04b8c5a6c390a013d7827b30cc6482bf4c904fc80d068", func := "loop.example/pinfold/laws.FnNatShift", spec := "fnNatShift", unfollowed := true, recurses := true, apart := false }
def FnNatShiftSaid : Prop := fnNatShiftRow.holds Try.pinned (OpenSpec.ofChange fnNatShiftSpec)

/-- ITS FALSE NEIGHBOUR: 'it returns false'. Refute it at one input. -/
def fnNatShiftWrong : ChangeSpec := { name := "fnNatShift", fn := fun _ => fun
  | [d] => { results := [.lit (.bool false)], args := [d] }
  | _ => none }
def FnNatShiftWrongFalsely : Prop := fnNatShiftRow.holds Try.pinned (OpenSpec.ofChange fnNatShiftWrong)

/-- 'laws.FnNatPow': WHATEVER THE INPUT: true; the input reads as it did. -/
def fnNatPowSpec : ChangeSpec := { name := "fnNatPow", fn := fun _ => fun
  | [d1, d2] => { results := [.lit (.bool true)], args := [d1, d2] }
  | _ => none }
def fnNatPowRow : OpenClaim := { program := "ytdffcbpekabnjaa", sum := "f70c6f63e8d52c9996c04b8c5a6c390a013d7827b30cc6482bf4c904fc80d068", func := "loop.example/pinfold/laws.FnNatPow", spec := "fnNatPow", unfollowed := true, recurses := true, apart := false }
def FnNatPowSaid : Prop := fnNatPowRow.holds Try.pinned (OpenSpec.ofChange fnNatPowSpec)

/-- ITS FALSE NEIGHBOUR: 'it returns false'. Refute it at one input. -/
def fnNatPowWrong : ChangeSpec := { name := "fnNatPow", fn := fun _ => fun
  | [d1, d2] => { results := [.lit (.bool false)], args := [d1, d2] }
  | _ => none }
def FnNatPowWrongFalsely : Prop := fnNatPowRow.holds Try.pinned (OpenSpec.ofChange fnNatPowWrong)

/-- 'laws.FnExactNatDiv': WHATEVER THE INPUT: true; the input reads as it did. -/
def fnExactNatDivSpec : ChangeSpec := { name := "fnExactNatDiv", fn := fun _ => fun
  | [d1, d2] => { results := [.lit (.bool true)], args := [d1, d2] }
  | _ => none }
def fnExactNatDivRow : OpenClaim := { program := "ytdffcbpekabnjaa", sum := "f70c6f63e8d52c9996c04b8c5a6c390a013d7827b30cc6482bf4c904fc80d068", func := "loop.example/pinfold/laws.FnExactNatDiv", spec := "fnExactNatDiv", unfollowed := true, recurses := true, apart := false }
def FnExactNatDivSaid : Prop := fnExactNatDivRow.holds Try.pinned (OpenSpec.ofChange fnExactNatDivSpec)

/-- ITS FALSE NEIGHBOUR: 'it returns false'. Refute it at one input. -/
def fnExactNatDivWrong : ChangeSpec := { name := "fnExactNatDiv", fn := fun _ => fun
  | [d1, d2] => { results := [.lit (.bool false)], args := [d1, d2] }
  | _ => none }
def FnExactNatDivWrongFalsely : Prop := fnExactNatDivRow.holds Try.pinned (OpenSpec.ofChange fnExactNatDivWrong)

/-- 'laws.FnExactNatShift': WHATEVER THE INPUT: true; the input reads as it did. -/
def fnExactNatShiftSpec : ChangeSpec := { name := "fnExactNatShift", fn := fun _ => fun
  | [d1, d2] => { results := [.lit (.bool true)], args := [d1, d2] }
  | _ => none }
def fnExactNatShiftRow : OpenClaim := { program := "ytdffcbpekabnjaa", sum := "f70c6f63e8d52c9996c04b8c5a6c390a013d7827b30cc6482bf4c904fc80d068", func := "loop.example/pinfold/laws.FnExactNatShift", spec := "fnExactNatShift", unfollowed := true, recurses := true, apart := false }
def FnExactNatShiftSaid : Prop := fnExactNatShiftRow.holds Try.pinned (OpenSpec.ofChange fnExactNatShiftSpec)

/-- ITS FALSE NEIGHBOUR: 'it returns false'. Refute it at one input. -/
def fnExactNatShiftWrong : ChangeSpec := { name := "fnExactNatShift", fn := fun _ => fun
  | [d1, d2] => { results := [.lit (.bool false)], args := [d1, d2] }
  | _ => none }
def FnExactNatShiftWrongFalsely : Prop := fnExactNatShiftRow.holds Try.pinned (OpenSpec.ofChange fnExactNatShiftWrong)

/-- 'laws.FnExactNatPow': WHATEVER THE INPUT: true; the input reads as it did. -/
def fnExactNatPowSpec : ChangeSpec := { name := "fnExactNatPow", fn := fun _ => fun
  | [d1, d2] => { results := [.lit (.bool true)], args := [d1, d2] }
  | _ => none }
def fnExactNatPowRow : OpenClaim := { program := "ytdffcbpekabnjaa", sum := "f70c6f63e8d52c9996c04b8c5a6c390a013d7827b30cc6482bf4c904fc80d068", func := "loop.example/pinfold/laws.FnExactNatPow", spec := "fnExactNatPow", unfollowed := true, recurses := true, apart := false }
def FnExactNatPowSaid : Prop := fnExactNatPowRow.holds Try.pinned (OpenSpec.ofChange fnExactNatPowSpec)

/-- ITS FALSE NEIGHBOUR: 'it returns false'. Refute it at one input. -/
def fnExactNatPowWrong : ChangeSpec := { name := "fnExactNatPow", fn := fun _ => fun
  | [d1, d2] => { results := [.lit (.bool false)], args := [d1, d2] }
  | _ => none }
def FnExactNatPowWrongFalsely : Prop := fnExactNatPowRow.holds Try.pinned (OpenSpec.ofChange fnExactNatPowWrong)

/-- 'laws.FnExactNatRoot': WHATEVER THE INPUT: true; the input reads as it did. -/
def fnExactNatRootSpec : ChangeSpec := { name := "fnExactNatRoot", fn := fun _ => fun
  | [d] => { results := [.lit (.bool true)], args := [d] }
  | _ => none }
def fnExactNatRootRow : OpenClaim := { program := "ytdffcbpekabnjaa", sum := "f70c6f63e8d52c9996c04b8c5a6c390a013d7827b30cc6482bf4c904fc80d068", func := "loop.example/pinfold/laws.FnExactNatRoot", spec := "fnExactNatRoot", unfollowed := true, recurses := true, apart := false }
def FnExactNatRootSaid : Prop := fnExactNatRootRow.holds Try.pinned (OpenSpec.ofChange fnExactNatRootSpec)

/-- ITS FALSE NEIGHBOUR: 'it returns false'. Refute it at one input. -/
def fnExactNatRootWrong : ChangeSpec := { name := "fnExactNatRoot", fn := fun _ => fun
  | [d] => { results := [.lit (.bool false)], args := [d] }
  | _ => none }
def FnExactNatRootWrongFalsely : Prop := fnExactNatRootRow.holds Try.pinned (OpenSpec.ofChange fnExactNatRootWrong)

/- THE SECOND FORM. 'bulk': how many values and letters a reading holds, each counted each time it is reached (what is shared counts as often as it is met; a slice's spare places count too). A statement '..UptoSaid' is the law's where the arguments, and the package variables that the reading takes, are together of bulk at most 1048576: NARROWER than '..Said'. Prove '..Said' where nothing that the law and all that it calls make is longer than what came in: it says more and counts as full. Else prove '..UptoSaid'. A law counts once. -/
mutual
def uptoBulk {H : Type} : DataW H → Nat
  | .lit (.string bytes) => bytes.length + 1
  | .lit _ => 1
  | .nil => 1
  | .ptr d => uptoBulk d + 1
  | .slice elems spare => uptoBulkAll elems + uptoBulkAll spare + 1
  | .agg parts => uptoBulkAll parts + 1
  | .iface _ d => uptoBulk d + 1
  | .map entries => uptoBulkEntries entries + 1
  | .held _ => 1
def uptoBulkAll {H : Type} : List (DataW H) → Nat
  | [] => 0
  | d :: r => uptoBulk d + uptoBulkAll r
def uptoBulkEntries {H : Type} : List (Lit × DataW H) → Nat
  | [] => 0
  | x :: r => uptoBulkEntry x + uptoBulkEntries r
def uptoBulkEntry {H : Type} : Lit × DataW H → Nat
  | (.string bytes, d) => bytes.length + uptoBulk d + 1
  | (_, d) => uptoBulk d + 1
 end
def uptoSmall : (H : Type) → List (DataW H) → Bool := fun _ ds => decide (uptoBulkAll ds ≤ 1048576)
def OpenSpec.upto (s : _root_.Go.ChangeSpec) : _root_.Go.OpenSpec := { _root_.Go.OpenSpec.ofChange s with cond := some uptoSmall }

/-- 'laws.FnNatDiv', WHERE WHAT IT READS IS OF BULK AT MOST 1048576: true; the input reads as it did. -/
def fnNatDivUptoRow : OpenClaim := { program := "ytdffcbpekabnjaa", sum := "f70c6f63e8d52c9996c04b8c5a6c390a013d7827b30cc6482bf4c904fc80d068", func := "loop.example/pinfold/laws.FnNatDiv", spec := "fnNatDiv", unfollowed := true, recurses := true, apart := false, narrowed := true }
def FnNatDivUptoSaid : Prop := fnNatDivUptoRow.holds Try.pinned (OpenSpec.upto fnNatDivSpec)

/-- 'laws.FnNatRoot', WHERE WHAT IT READS IS OF BULK AT MOST 1048576: true; the input reads as it did. -/
def fnNatRootUptoRow : OpenClaim := { program := "ytdffcbpekabnjaa", sum := "f70c6f63e8d52c9996c04b8c5a6c390a013d7827b30cc6482bf4c904fc80d068", func := "loop.example/pinfold/laws.FnNatRoot", spec := "fnNatRoot", unfollowed := true, recurses := true, apart := false, narrowed := true }
def FnNatRootUptoSaid : Prop := fnNatRootUptoRow.holds Try.pinned (OpenSpec.upto fnNatRootSpec)

/-- 'laws.FnNatShift', WHERE WHAT IT READS IS OF BULK AT MOST 1048576: true; the input reads as it did. -/
def fnNatShiftUptoRow : OpenClaim := { program := "ytdffcbpekabnjaa", sum := "f70c6f63e8d52c9996c04b8c5a6c390a013d7827b30cc6482bf4c904fc80d068", func := "loop.example/pinfold/laws.FnNatShift", spec := "fnNatShift", unfollowed := true, recurses := true, apart := false, narrowed := true }
def FnNatShiftUptoSaid : Prop := fnNatShiftUptoRow.holds Try.pinned (OpenSpec.upto fnNatShiftSpec)

/-- 'laws.FnNatPow', WHERE WHAT IT READS IS OF BULK AT MOST 1048576: true; the input reads as it did. -/
def fnNatPowUptoRow : OpenClaim := { program := "ytdffcbpekabnjaa", sum := "f70c6f63e8d52c9996c04b8c5a6c390a013d7827b30cc6482bf4c904fc80d068", func := "loop.example/pinfold/laws.FnNatPow", spec := "fnNatPow", unfollowed := true, recurses := true, apart := false, narrowed := true }
def FnNatPowUptoSaid : Prop := fnNatPowUptoRow.holds Try.pinned (OpenSpec.upto fnNatPowSpec)

/-- 'laws.FnExactNatDiv', WHERE WHAT IT READS IS OF BULK AT MOST 1048576: true; the input reads as it did. -/
def fnExactNatDivUptoRow : OpenClaim := { program := "ytdffcbpekabnjaa", sum := "f70c6f63e8d52c9996c04b8c5a6c390a013d7827b30cc6482bf4c904fc80d068", func := "loop.example/pinfold/laws.FnExactNatDiv", spec := "fnExactNatDiv", unfollowed := true, recurses := true, apart := false, narrowed := true }
def FnExactNatDivUptoSaid : Prop := fnExactNatDivUptoRow.holds Try.pinned (OpenSpec.upto fnExactNatDivSpec)

/-- 'laws.FnExactNatShift', WHERE WHAT IT READS IS OF BULK AT MOST 1048576: true; the input reads as it did. -/
def fnExactNatShiftUptoRow : OpenClaim := { program := "ytdffcbpekabnjaa", sum := "f70c6f63e8d52c9996c04b8c5a6c390a013d7827b30cc6482bf4c904fc80d068", func := "loop.example/pinfold/laws.FnExactNatShift", spec := "fnExactNatShift", unfollowed := true, recurses := true, apart := false, narrowed := true }
def FnExactNatShiftUptoSaid : Prop := fnExactNatShiftUptoRow.holds Try.pinned (OpenSpec.upto fnExactNatShiftSpec)

/-- 'laws.FnExactNatPow', WHERE WHAT IT READS IS OF BULK AT MOST 1048576: true; the input reads as it did. -/
def fnExactNatPowUptoRow : OpenClaim := { program := "ytdffcbpekabnjaa", sum := "f70c6f63e8d52c9996c04b8c5a6c390a013d7827b30cc6482bf4c904fc80d068", func := "loop.example/pinfold/laws.FnExactNatPow", spec := "fnExactNatPow", unfollowed := true, recurses := true, apart := false, narrowed := true }
def FnExactNatPowUptoSaid : Prop := fnExactNatPowUptoRow.holds Try.pinned (OpenSpec.upto fnExactNatPowSpec)

/-- 'laws.FnExactNatRoot', WHERE WHAT IT READS IS OF BULK AT MOST 1048576: true; the input reads as it did. -/
def fnExactNatRootUptoRow : OpenClaim := { program := "ytdffcbpekabnjaa", sum := "f70c6f63e8d52c9996c04b8c5a6c390a013d7827b30cc6482bf4c904fc80d068", func := "loop.example/pinfold/laws.FnExactNatRoot", spec := "fnExactNatRoot", unfollowed := true, recurses := true, apart := false, narrowed := true }
def FnExactNatRootUptoSaid : Prop := fnExactNatRootUptoRow.holds Try.pinned (OpenSpec.upto fnExactNatRootSpec)

end Rows
end Go.Proofs.Ytdffcbpekabnjaa
