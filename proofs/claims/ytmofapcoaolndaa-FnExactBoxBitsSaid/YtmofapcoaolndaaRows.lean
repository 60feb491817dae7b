/-
  No cell of these rows narrows 'for every input' (looked for: loops, veiled, ifaces, maps, wideKeys, modest, calm, conditions, laid).
  DERIVED. THE GIVEN ROWS OF THIS SEAT. 3 by the template 'for every input the law returns true; each argument reads behind the call as it read before'; 0 by the template 'total and deterministic' (their statements: YtmofapcoaolndaaTotals.lean).
  GIVEN WITH THE SEED: the statements are not yours to turn. If you find one false, say at which input.
  Laid BY PROGRAM, IN A SANDBOX (cutbox-rows.mjs): the forced cells as the released guide's own fill.sh prints them over the translation 3c911c266e0fb8dd… (all of the seat's roots in one cut). By AI agents, Wed Nov 11 2026. No macro, syntax, notation, axiom, sorry.
-/
import Derived.Test.YtmofapcoaolndaaChecked
import GoSem.Claim
import GoSem.ClaimJoined
import GoSem.ClaimMapViews
import Derived.JoinedTies
import Derived.KernelRfl
namespace Go.Proofs.Ytmofapcoaolndaa
/- THE CELL 'sum', in the pinned program and in every row, IS THE sha256 OF THE DUMP (.gsa) THAT YtmofapcoaolndaaProg.lean LOADS. Nothing in Lean hashes anything: it is a label: what it is worth is what the hold of that sum in a sandbox is worth. -/
noncomputable def Try.pinned : Pinned := { name := "ytmofapcoaolndaa", sum := "3c911c266e0fb8dd6324c1f227816d2749dc21d81d3214a7aee5fa81ec195dd8", checked := Try.checked }
namespace Rows
def none {H : Type} : Left H := { results := [], args := [] }

/-- 'laws.FnExactBoxSplit': WHATEVER THE INPUT: true; the input reads as it did. -/
def fnExactBoxSplitSpec : ChangeSpec := { name := "fnExactBoxSplit", fn := fun _ => fun
  | [d1, d2, d3] => { results := [.lit (.bool true)], args := [d1, d2, d3] }
  | _ => none }
def fnExactBoxSplitRow : OpenClaim := { program := "ytmofapcoaolndaa", sum := "3c911c266e0fb8dd6324c1f227816d2749dc21d81d3214a7aee5fa81ec195dd8", func := "loop.example/pinfold/laws.FnExactBoxSplit", spec := "fnExactBoxSplit", unfollowed := true, recurses := true, apart := false }
def FnExactBoxSplitSaid : Prop := fnExactBoxSplitRow.holds Try.pinned (OpenSpec.ofChange fnExactBoxSplitSpec)

/-- ITS FALSE NEIGHBOUR: 'it returns false'. Refute it at one input. -/
def fnExactBoxSplitWrong : ChangeSpec := { name := "fnExactBoxSplit", fn := fun _ => fun
  | [d1, d2, d3] => { results := [.lit (.bool false)], args := [d1, d2, d3] }
  | _ => none }
def FnExactBoxSplitWrongFalsely : Prop := fnExactBoxSplitRow.holds Try.pinned (OpenSpec.ofChange fnExactBoxSplitWrong)

/-- 'laws.FnExactBoxCut': WHATEVER THE INPUT: true; the input reads as it did. -/
def fnExactBoxCutSpec : ChangeSpec := { name := "fnExactBoxCut", fn := fun _ => fun
  | [d1, d2, d3, d4] => { results := [.lit (.bool true)], args := [d1, d2, d3, d4] }
  | _ => none }
def fnExactBoxCutRow : OpenClaim := { program := "ytmofapcoaolndaa", sum := "3c911c266e0fb8dd6324c1f227816d2749dc21d81d3214a7aee5fa81ec195dd8", func := "loop.example/pinfold/laws.FnExactBoxCut", spec := "fnExactBoxCut", unfollowed := true, recurses := true, apart := false }
def FnExactBoxCutSaid : Prop := fnExactBoxCutRow.holds Try.pinned (OpenSpec.ofChange fnExactBoxCutSpec)

/-- ITS FALSE NEIGHBOUR: 'it returns false'. Refute it at one input. -/
def fnExactBoxCutWrong : ChangeSpec := { name := "fnExactBoxCut", fn := fun _ => fun
  | [d1, d2, d3, d4] => { results := [.lit (.bool false)], args := [d1, d2, d3, d4] }
  | _ => none }
def FnExactBoxCutWrongFalsely : Prop := fnExactBoxCutRow.holds Try.pinned (OpenSpec.ofChange fnExactBoxCutWrong)

/-- 'laws.FnExactBoxBits': WHATEVER THE INPUT: true; the input reads as it did. -/
def fnExactBoxBitsSpec : ChangeSpec := { name := "fnExactBoxBits", fn := fun _ => fun
  | [d1, d2] => { results := [.lit (.bool true)], args := [d1, d2] }
  | _ => none }
def fnExactBoxBitsRow : OpenClaim := { program := "ytmofapcoaolndaa", sum := "3c911c266e0fb8dd6324c1f227816d2749dc21d81d3214a7aee5fa81ec195dd8", func := "loop.example/pinfold/laws.FnExactBoxBits", spec := "fnExactBoxBits", unfollowed := true, recurses := true, apart := false }
def FnExactBoxBitsSaid : Prop := fnExactBoxBitsRow.holds Try.pinned (OpenSpec.ofChange fnExactBoxBitsSpec)

/-- ITS FALSE NEIGHBOUR: 'it returns false'. Refute it at one input. -/
def fnExactBoxBitsWrong : ChangeSpec := { name := "fnExactBoxBits", fn := fun _ => fun
  | [d1, d2] => { results := [.lit (.bool false)], args := [d1, d2] }
  | _ => none }
def FnExactBoxBitsWrongFalsely : Prop := fnExactBoxBitsRow.holds Try.pinned (OpenSpec.ofChange fnExactBoxBitsWrong)

/- THE SECOND FORM. 'bulk': how many values and letters a reading holds, each counted each time it is reached (what is shared counts as often as it is met; a slice's spare places count too). A statement '..UptoSaid' is the law's where the arguments, and the package variables that the reading takes, are together of bulk at most 1048576: NARROWER than '..Said'. Prove '..Said' where nothing that the law and all that it calls make is longer than what came in: it says more and counts as full. Else prove '..UptoSaid'. A law counts once. -/
mutual
def uptoBulk {H : Type} : DataW H → Nat
  | .lit (.string bytes) => bytes.length + 1
  | .lit _ => 1
  | .nil => 1
  | .ptr d => uptoBulk d + 1
  | .slice elems spare => uptoBulkAll elems + uptoBulkAll spare + 1
  | .agg parts => uptoBulkAll parts + 1
  | .iface _ d => uptoBulk d + 1
  | .map entries => uptoBulkEntries entries + 1
  | .held _ => 1
def uptoBulkAll {H : Type} : List (DataW H) → Nat
  | [] => 0
  | d :: r => uptoBulk d + uptoBulkAll r
def uptoBulkEntries {H : Type} : List (Lit × DataW H) → Nat
  | [] => 0
  | x :: r => uptoBulkEntry x + uptoBulkEntries r
def uptoBulkEntry {H : Type} : Lit × DataW H → Nat
  | (.string bytes, d) => bytes.length + uptoBulk d + 1
  | (_, d) => uptoBulk d + 1
 end
def uptoSmall : (H : Type) → List (DataW H) → Bool := fun _ ds => decide (uptoBulkAll ds ≤ 1048576)
def OpenSpec.upto (s : _root_.Go.ChangeSpec) : _root_.Go.OpenSpec := { _root_.Go.OpenSpec.ofChange s with cond := some uptoSmall }

/-- 'laws.FnExactBoxSplit', WHERE WHAT IT READS IS OF BULK AT MOST 1048576: true; the input reads as it did. -/
def fnExactBoxSplitUptoRow : OpenClaim := { program := "ytmofapcoaolndaa", sum := "3c911c266e0fb8dd6324c1f227816d2749dc21d81d3214a7aee5fa81ec195dd8", func := "loop.example/pinfold/laws.FnExactBoxSplit", spec := "fnExactBoxSplit", unfollowed := true, recurses := true, apart := false, narrowed := true }
def FnExactBoxSplitUptoSaid : Prop := fnExactBoxSplitUptoRow.holds Try.pinned (OpenSpec.upto fnExactBoxSplitSpec)

/-- 'laws.FnExactBoxCut', WHERE WHAT IT READS IS OF BULK AT MOST 1048576: true; the input reads as it did. -/
def fnExactBoxCutUptoRow : OpenClaim := { program := "ytmofapcoaolndaa", sum := "3c911c266e0fb8dd6324c1f227816d2749dc21d81d3214a7aee5fa81ec195dd8", func := "loop.example/pinfold/laws.FnExactBoxCut", spec := "fnExactBoxCut", unfollowed := true, recurses := true, apart := false, narrowed := true }
def FnExactBoxCutUptoSaid : Prop := fnExactBoxCutUptoRow.holds Try.pinned (OpenSpec.upto fnExactBoxCutSpec)

/-- 'laws.FnExactBoxBits', WHERE WHAT IT READS IS OF BULK AT MOST 1048576: true; the input reads as it did. -/
def fnExactBoxBitsUptoRow : OpenClaim := { program := "ytmofapcoaolndaa", sum := "3c911c266e0fb8dd6324c1f227816d2749dc21d81d3214a7aee5fa81ec195dd8", func := "loop.example/pinfold/laws.FnExactBoxBits", spec := "fnExactBoxBits", unfollowed := true, recurses := true, apart := false, narrowed := true }
def FnExactBoxBitsUptoSaid : Prop := fnExactBoxBitsUptoRow.holds Try.pinned (OpenSpec.upto fnExactBoxBitsSpec)

end Rows
end Go.Proofs.Ytmofapcoaolndaa
