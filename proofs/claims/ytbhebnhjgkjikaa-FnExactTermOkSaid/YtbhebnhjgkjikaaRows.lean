/-
  No cell of these rows narrows 'for every input' (looked for: loops, veiled, ifaces, maps, wideKeys, modest, calm, conditions, laid).
  DERIVED. THE GIVEN ROWS OF THIS SEAT. 4 by the template 'for every input the law returns true; each argument reads behind the call as it read before'; 0 by the template 'total and deterministic' (their statements: YtbhebnhjgkjikaaTotals.lean).
  GIVEN WITH THE SEED: the statements are not yours to turn. If you find one false, say at which input.
  Laid BY PROGRAM, IN A SANDBOX (cutbox-rows.mjs): the forced cells as the released guide's own fill.sh prints them over the translation a143ab36da2a7f44… (all of the seat's roots in one cut). By AI agents, Wed Nov 11 2026. No macro, syntax, notation, axiom, sorry.
-/
import Derived.Test.YtbhebnhjgkjikaaChecked
import GoSem.Claim
import GoSem.ClaimJoined
import GoSem.ClaimMapViews
import Derived.JoinedTies
import Derived.KernelRfl
namespace Go.Proofs.Ytbhebnhjgkjikaa
/- THE CELL 'sum', in the pinned program and in every row, IS THE sha256 OF THE DUMP (.gsa) THAT YtbhebnhjgkjikaaProg.lean LOADS. Nothing in Lean hashes anything: it is a label: what it is worth is what the hold of that sum in a sandbox is worth. -/
noncomputable def Try.pinned : Pinned := { name := "ytbhebnhjgkjikaa", sum := "a143ab36da2a7f447b2a8d1ec2b8649d4c087a38e13eef274ecb0d9fad11c11c", checked := Try.checked }
namespace Rows
def none {H : Type} : Left H := { results := [], args := [] }

/-- 'laws.FnExactLangNameOk': WHATEVER THE INPUT: true; the input reads as it did. -/
def fnExactLangNameOkSpec : ChangeSpec := { name := "fnExactLangNameOk", fn := fun _ => fun
  | [d] => { results := [.lit (.bool true)], args := [d] }
  | _ => none }
def fnExactLangNameOkRow : OpenClaim := { program := "ytbhebnhjgkjikaa", sum := "a143ab36da2a7f447b2a8d1ec2b8649d4c087a38e13eef274ecb0d9fad11c11c", func := "loop.example/pinfold/laws.FnExactLangNameOk", spec := "fnExactLangNameOk", apart := false }
def FnExactLangNameOkSaid : Prop := fnExactLangNameOkRow.holds Try.pinned (OpenSpec.ofChange fnExactLangNameOkSpec)

/-- ITS FALSE NEIGHBOUR: 'it returns false'. Refute it at one input. -/
def fnExactLangNameOkWrong : ChangeSpec := { name := "fnExactLangNameOk", fn := fun _ => fun
  | [d] => { results := [.lit (.bool false)], args := [d] }
  | _ => none }
def FnExactLangNameOkWrongFalsely : Prop := fnExactLangNameOkRow.holds Try.pinned (OpenSpec.ofChange fnExactLangNameOkWrong)

/-- 'laws.FnExactLangNumOk': WHATEVER THE INPUT: true; the input reads as it did. -/
def fnExactLangNumOkSpec : ChangeSpec := { name := "fnExactLangNumOk", fn := fun _ => fun
  | [d] => { results := [.lit (.bool true)], args := [d] }
  | _ => none }
def fnExactLangNumOkRow : OpenClaim := { program := "ytbhebnhjgkjikaa", sum := "a143ab36da2a7f447b2a8d1ec2b8649d4c087a38e13eef274ecb0d9fad11c11c", func := "loop.example/pinfold/laws.FnExactLangNumOk", spec := "fnExactLangNumOk", unfollowed := true, recurses := true, apart := false }
def FnExactLangNumOkSaid : Prop := fnExactLangNumOkRow.holds Try.pinned (OpenSpec.ofChange fnExactLangNumOkSpec)

/-- ITS FALSE NEIGHBOUR: 'it returns false'. Refute it at one input. -/
def fnExactLangNumOkWrong : ChangeSpec := { name := "fnExactLangNumOk", fn := fun _ => fun
  | [d] => { results := [.lit (.bool false)], args := [d] }
  | _ => none }
def FnExactLangNumOkWrongFalsely : Prop := fnExactLangNumOkRow.holds Try.pinned (OpenSpec.ofChange fnExactLangNumOkWrong)

/-- 'laws.FnExactDecOk': WHATEVER THE INPUT: true; the input reads as it did. -/
def fnExactDecOkSpec : ChangeSpec := { name := "fnExactDecOk", fn := fun _ => fun
  | [d] => { results := [.lit (.bool true)], args := [d] }
  | _ => none }
def fnExactDecOkRow : OpenClaim := { program := "ytbhebnhjgkjikaa", sum := "a143ab36da2a7f447b2a8d1ec2b8649d4c087a38e13eef274ecb0d9fad11c11c", func := "loop.example/pinfold/laws.FnExactDecOk", spec := "fnExactDecOk", unfollowed := true, recurses := true, apart := false }
def FnExactDecOkSaid : Prop := fnExactDecOkRow.holds Try.pinned (OpenSpec.ofChange fnExactDecOkSpec)

/-- ITS FALSE NEIGHBOUR: 'it returns false'. Refute it at one input. -/
def fnExactDecOkWrong : ChangeSpec := { name := "fnExactDecOk", fn := fun _ => fun
  | [d] => { results := [.lit (.bool false)], args := [d] }
  | _ => none }
def FnExactDecOkWrongFalsely : Prop := fnExactDecOkRow.holds Try.pinned (OpenSpec.ofChange fnExactDecOkWrong)

/-- 'laws.FnExactTermOk': WHATEVER THE INPUT: true; the input reads as it did. -/
def fnExactTermOkSpec : ChangeSpec := { name := "fnExactTermOk", fn := fun _ => fun
  | [d] => { results := [.lit (.bool true)], args := [d] }
  | _ => none }
def fnExactTermOkRow : OpenClaim := { program := "ytbhebnhjgkjikaa", sum := "a143ab36da2a7f447b2a8d1ec2b8649d4c087a38e13eef274ecb0d9fad11c11c", func := "loop.example/pinfold/laws.FnExactTermOk", spec := "fnExactTermOk", unfollowed := true, recurses := true, apart := false }
def FnExactTermOkSaid : Prop := fnExactTermOkRow.holds Try.pinned (OpenSpec.ofChange fnExactTermOkSpec)

/-- ITS FALSE NEIGHBOUR: 'it returns false'. Refute it at one input. -/
def fnExactTermOkWrong : ChangeSpec := { name := "fnExactTermOk", fn := fun _ => fun
  | [d] => { results := [.lit (.bool false)], args := [d] }
  | _ => none }
def FnExactTermOkWrongFalsely : Prop := fnExactTermOkRow.holds Try.pinned (OpenSpec.ofChange fnExactTermOkWrong)

/- THE SECOND FORM. 'bulk': how many values and letters a reading holds, each counted each time it is reached (what is shared counts as often as it is met; a slice's spare places count too). A statement '..UptoSaid' is the law's where the arguments, and the package variables that the reading takes, are together of bulk at most 1048576: NARROWER than '..Said'. Prove '..Said' where nothing that the law and all that it calls make is longer than what came in: it says more and counts as full. Else prove '..UptoSaid'. A law counts once. -/
mutual
def uptoBulk {H : Type} : DataW H → Nat
  | .lit (.string bytes) => bytes.length + 1
  | .lit _ => 1
  | .nil => 1
  | .ptr d => uptoBulk d + 1
  | .slice elems spare => uptoBulkAll elems + uptoBulkAll spare + 1
  | .agg parts => uptoBulkAll parts + 1
  | .iface _ d => uptoBulk d + 1
  | .map entries => uptoBulkEntries entries + 1
  | .held _ => 1
def uptoBulkAll {H : Type} : List (DataW H) → Nat
  | [] => 0
  | d :: r => uptoBulk d + uptoBulkAll r
def uptoBulkEntries {H : Type} : List (Lit × DataW H) → Nat
  | [] => 0
  | x :: r => uptoBulkEntry x + uptoBulkEntries r
def uptoBulkEntry {H : Type} : Lit × DataW H → Nat
  | (.string bytes, d) => bytes.length + uptoBulk d + 1
  | (_, d) => uptoBulk d + 1
 end
def uptoSmall : (H : Type) → List (DataW H) → Bool := fun _ ds => decide (uptoBulkAll ds ≤ 1048576)
def OpenSpec.upto (s : _root_.Go.ChangeSpec) : _root_.Go.OpenSpec := { _root_.Go.OpenSpec.ofChange s with cond := some uptoSmall }

/-- 'laws.FnExactLangNameOk', WHERE WHAT IT READS IS OF BULK AT MOST 1048576: true; the input reads as it did. -/
def fnExactLangNameOkUptoRow : OpenClaim := { program := "ytbhebnhjgkjikaa", sum := "a143ab36da2a7f447b2a8d1ec2b8649d4c087a38e13eef274ecb0d9fad11c11c", func := "loop.example/pinfold/laws.FnExactLangNameOk", spec := "fnExactLangNameOk", apart := false, narrowed := true }
def FnExactLangNameOkUptoSaid : Prop := fnExactLangNameOkUptoRow.holds Try.pinned (OpenSpec.upto fnExactLangNameOkSpec)

/-- 'laws.FnExactLangNumOk', WHERE WHAT IT READS IS OF BULK AT MOST 1048576: true; the input reads as it did. -/
def fnExactLangNumOkUptoRow : OpenClaim := { program := "ytbhebnhjgkjikaa", sum := "a143ab36da2a7f447b2a8d1ec2b8649d4c087a38e13eef274ecb0d9fad11c11c", func := "loop.example/pinfold/laws.FnExactLangNumOk", spec := "fnExactLangNumOk", unfollowed := true, recurses := true, apart := false, narrowed := true }
def FnExactLangNumOkUptoSaid : Prop := fnExactLangNumOkUptoRow.holds Try.pinned (OpenSpec.upto fnExactLangNumOkSpec)

/-- 'laws.FnExactDecOk', WHERE WHAT IT READS IS OF BULK AT MOST 1048576: true; the input reads as it did. -/
def fnExactDecOkUptoRow : OpenClaim := { program := "ytbhebnhjgkjikaa", sum := "a143ab36da2a7f447b2a8d1ec2b8649d4c087a38e13eef274ecb0d9fad11c11c", func := "loop.example/pinfold/laws.FnExactDecOk", spec := "fnExactDecOk", unfollowed := true, recurses := true, apart := false, narrowed := true }
def FnExactDecOkUptoSaid : Prop := fnExactDecOkUptoRow.holds Try.pinned (OpenSpec.upto fnExactDecOkSpec)

/-- 'laws.FnExactTermOk', WHERE WHAT IT READS IS OF BULK AT MOST 1048576: true; the input reads as it did. -/
def fnExactTermOkUptoRow : OpenClaim := { program := "ytbhebnhjgkjikaa", sum := "a143ab36da2a7f447b2a8d1ec2b8649d4c087a38e13eef274ecb0d9fad11c11c", func := "loop.example/pinfold/laws.FnExactTermOk", spec := "fnExactTermOk", unfollowed := true, recurses := true, apart := false, narrowed := true }
def FnExactTermOkUptoSaid : Prop := fnExactTermOkUptoRow.holds Try.pinned (OpenSpec.upto fnExactTermOkSpec)

end Rows
end Go.Proofs.Ytbhebnhjgkjikaa
