/-
  No cell of these rows narrows 'for every input' (looked for: loops, veiled, ifaces, maps, wideKeys, modest, calm, conditions, laid).
  DERIVED. THE GIVEN ROWS OF THIS SEAT. 11 by the template 'for every input the law returns true; each argument reads behind the call as it read before'; 0 by the template 'total and deterministic' (their statements: YteigdooniolmlaaTotals.lean).
  GIVEN WITH THE SEED: the statements are not yours to turn. If you find one false, say at which input.
  Laid BY PROGRAM, IN A SANDBOX (cutbox-rows.mjs): the forced cells as the released guide's own fill.sh prints them over the translation 6dc0a346f2f362eb… (all of the seat's roots in one cut). By AI agents, Wed Nov 11 2026. No macro, syntax, notation, axiom, sorry.
-/
import Derived.Test.YteigdooniolmlaaChecked
import GoSem.Claim
import GoSem.ClaimJoined
import GoSem.ClaimMapViews
import Derived.JoinedTies
import Derived.KernelRfl
namespace Go.Proofs.Yteigdooniolmlaa
/- THE CELL 'sum', in the pinned program and in every row, IS THE sha256 OF THE DUMP (.gsa) THAT YteigdooniolmlaaProg.lean LOADS. Nothing in Lean hashes anything: it is a label: what it is worth is what the hold of that sum in a sandbox is worth. -/
noncomputable def Try.pinned : Pinned := { name := "yteigdooniolmlaa", sum := "6dc0a346f2f362eb2a7a9dda41d3cae9f8774ac0e28107a8a8445b81778b1783", checked := Try.checked }
namespace Rows
def none {H : Type} : Left H := { results := [], args := [] }

/-- 'laws.FnPairSplit': WHATEVER THE INPUT: true; the input reads as it did. -/
def fnPairSplitSpec : ChangeSpec := { name := "fnPairSplit", fn := fun _ => fun
  | [d1, d2] => { results := [.lit (.bool true)], args := [d1, d2] }
  | _ => none }
def fnPairSplitRow : OpenClaim := { program := "yteigdooniolmlaa", sum := "6dc0a346f2f362eb2a7a9dda41d3cae9f8774ac0e28107a8a8445b81778b1783", func := "loop.example/pinfold/laws.FnPairSplit", spec := "fnPairSplit", unfollowed := true, recurses := true, apart := false }
def FnPairSplitSaid : Prop := fnPairSplitRow.holds Try.pinned (OpenSpec.ofChange fnPairSplitSpec)

/-- ITS FALSE NEIGHBOUR: 'it returns false'. Refute it at one input. -/
def fnPairSplitWrong : ChangeSpec := { name := "fnPairSplit", fn := fun _ => fun
  | [d1, d2] => { results := [.lit (.bool false)], args := [d1, d2] }
  | _ => none }
def FnPairSplitWrongFalsely : Prop := fnPairSplitRow.holds Try.pinned (OpenSpec.ofChange fnPairSplitWrong)

/-- 'laws.FnPairCut': WHATEVER THE INPUT: true; the input reads as it did. -/
def fnPairCutSpec : ChangeSpec := { name := "fnPairCut", fn := fun _ => fun
  | [d1, d2] => { results := [.lit (.bool true)], args := [d1, d2] }
  | _ => none }
def fnPairCutRow : OpenClaim := { program := "yteigdooniolmlaa", sum := "6dc0a346f2f362eb2a7a9dda41d3cae9f8774ac0e28107a8a8445b81778b1783", func := "loop.example/pinfold/laws.FnPairCut", spec := "fnPairCut", unfollowed := true, recurses := true, apart := false }
def FnPairCutSaid : Prop := fnPairCutRow.holds Try.pinned (OpenSpec.ofChange fnPairCutSpec)

/-- ITS FALSE NEIGHBOUR: 'it returns false'. Refute it at one input. -/
def fnPairCutWrong : ChangeSpec := { name := "fnPairCut", fn := fun _ => fun
  | [d1, d2] => { results := [.lit (.bool false)], args := [d1, d2] }
  | _ => none }
def FnPairCutWrongFalsely : Prop := fnPairCutRow.holds Try.pinned (OpenSpec.ofChange fnPairCutWrong)

/-- 'laws.FnPairMeet': WHATEVER THE INPUT: true; the input reads as it did. -/
def fnPairMeetSpec : ChangeSpec := { name := "fnPairMeet", fn := fun _ => fun
  | [d1, d2] => { results := [.lit (.bool true)], args := [d1, d2] }
  | _ => none }
def fnPairMeetRow : OpenClaim := { program := "yteigdooniolmlaa", sum := "6dc0a346f2f362eb2a7a9dda41d3cae9f8774ac0e28107a8a8445b81778b1783", func := "loop.example/pinfold/laws.FnPairMeet", spec := "fnPairMeet", unfollowed := true, recurses := true, apart := false }
def FnPairMeetSaid : Prop := fnPairMeetRow.holds Try.pinned (OpenSpec.ofChange fnPairMeetSpec)

/-- ITS FALSE NEIGHBOUR: 'it returns false'. Refute it at one input. -/
def fnPairMeetWrong : ChangeSpec := { name := "fnPairMeet", fn := fun _ => fun
  | [d1, d2] => { results := [.lit (.bool false)], args := [d1, d2] }
  | _ => none }
def FnPairMeetWrongFalsely : Prop := fnPairMeetRow.holds Try.pinned (OpenSpec.ofChange fnPairMeetWrong)

/-- 'laws.FnExactPairOk': WHATEVER THE INPUT: true; the input reads as it did. -/
def fnExactPairOkSpec : ChangeSpec := { name := "fnExactPairOk", fn := fun _ => fun
  | [d1, d2] => { results := [.lit (.bool true)], args := [d1, d2] }
  | _ => none }
def fnExactPairOkRow : OpenClaim := { program := "yteigdooniolmlaa", sum := "6dc0a346f2f362eb2a7a9dda41d3cae9f8774ac0e28107a8a8445b81778b1783", func := "loop.example/pinfold/laws.FnExactPairOk", spec := "fnExactPairOk", unfollowed := true, recurses := true, apart := false }
def FnExactPairOkSaid : Prop := fnExactPairOkRow.holds Try.pinned (OpenSpec.ofChange fnExactPairOkSpec)

/-- ITS FALSE NEIGHBOUR: 'it returns false'. Refute it at one input. -/
def fnExactPairOkWrong : ChangeSpec := { name := "fnExactPairOk", fn := fun _ => fun
  | [d1, d2] => { results := [.lit (.bool false)], args := [d1, d2] }
  | _ => none }
def FnExactPairOkWrongFalsely : Prop := fnExactPairOkRow.holds Try.pinned (OpenSpec.ofChange fnExactPairOkWrong)

/-- 'laws.FnExactPairIs': WHATEVER THE INPUT: true; the input reads as it did. -/
def fnExactPairIsSpec : ChangeSpec := { name := "fnExactPairIs", fn := fun _ => fun
  | [d1, d2] => { results := [.lit (.bool true)], args := [d1, d2] }
  | _ => none }
def fnExactPairIsRow : OpenClaim := { program := "yteigdooniolmlaa", sum := "6dc0a346f2f362eb2a7a9dda41d3cae9f8774ac0e28107a8a8445b81778b1783", func := "loop.example/pinfold/laws.FnExactPairIs", spec := "fnExactPairIs", apart := false }
def FnExactPairIsSaid : Prop := fnExactPairIsRow.holds Try.pinned (OpenSpec.ofChange fnExactPairIsSpec)

/-- ITS FALSE NEIGHBOUR: 'it returns false'. Refute it at one input. -/
def fnExactPairIsWrong : ChangeSpec := { name := "fnExactPairIs", fn := fun _ => fun
  | [d1, d2] => { results := [.lit (.bool false)], args := [d1, d2] }
  | _ => none }
def FnExactPairIsWrongFalsely : Prop := fnExactPairIsRow.holds Try.pinned (OpenSpec.ofChange fnExactPairIsWrong)

/-- 'laws.FnExactPairMeet': WHATEVER THE INPUT: true; the input reads as it did. -/
def fnExactPairMeetSpec : ChangeSpec := { name := "fnExactPairMeet", fn := fun _ => fun
  | [d1, d2, d3] => { results := [.lit (.bool true)], args := [d1, d2, d3] }
  | _ => none }
def fnExactPairMeetRow : OpenClaim := { program := "yteigdooniolmlaa", sum := "6dc0a346f2f362eb2a7a9dda41d3cae9f8774ac0e28107a8a8445b81778b1783", func := "loop.example/pinfold/laws.FnExactPairMeet", spec := "fnExactPairMeet", unfollowed := true, recurses := true, apart := false }
def FnExactPairMeetSaid : Prop := fnExactPairMeetRow.holds Try.pinned (OpenSpec.ofChange fnExactPairMeetSpec)

/-- ITS FALSE NEIGHBOUR: 'it returns false'. Refute it at one input. -/
def fnExactPairMeetWrong : ChangeSpec := { name := "fnExactPairMeet", fn := fun _ => fun
  | [d1, d2, d3] => { results := [.lit (.bool false)], args := [d1, d2, d3] }
  | _ => none }
def FnExactPairMeetWrongFalsely : Prop := fnExactPairMeetRow.holds Try.pinned (OpenSpec.ofChange fnExactPairMeetWrong)

/-- 'laws.FnExactPairHull': WHATEVER THE INPUT: true; the input reads as it did. -/
def fnExactPairHullSpec : ChangeSpec := { name := "fnExactPairHull", fn := fun _ => fun
  | [d1, d2, d3] => { results := [.lit (.bool true)], args := [d1, d2, d3] }
  | _ => none }
def fnExactPairHullRow : OpenClaim := { program := "yteigdooniolmlaa", sum := "6dc0a346f2f362eb2a7a9dda41d3cae9f8774ac0e28107a8a8445b81778b1783", func := "loop.example/pinfold/laws.FnExactPairHull", spec := "fnExactPairHull", unfollowed := true, recurses := true, apart := false }
def FnExactPairHullSaid : Prop := fnExactPairHullRow.holds Try.pinned (OpenSpec.ofChange fnExactPairHullSpec)

/-- ITS FALSE NEIGHBOUR: 'it returns false'. Refute it at one input. -/
def fnExactPairHullWrong : ChangeSpec := { name := "fnExactPairHull", fn := fun _ => fun
  | [d1, d2, d3] => { results := [.lit (.bool false)], args := [d1, d2, d3] }
  | _ => none }
def FnExactPairHullWrongFalsely : Prop := fnExactPairHullRow.holds Try.pinned (OpenSpec.ofChange fnExactPairHullWrong)

/-- 'laws.FnExactPairSplit': WHATEVER THE INPUT: true; the input reads as it did. -/
def fnExactPairSplitSpec : ChangeSpec := { name := "fnExactPairSplit", fn := fun _ => fun
  | [d1, d2] => { results := [.lit (.bool true)], args := [d1, d2] }
  | _ => none }
def fnExactPairSplitRow : OpenClaim := { program := "yteigdooniolmlaa", sum := "6dc0a346f2f362eb2a7a9dda41d3cae9f8774ac0e28107a8a8445b81778b1783", func := "loop.example/pinfold/laws.FnExactPairSplit", spec := "fnExactPairSplit", unfollowed := true, recurses := true, apart := false }
def FnExactPairSplitSaid : Prop := fnExactPairSplitRow.holds Try.pinned (OpenSpec.ofChange fnExactPairSplitSpec)

/-- ITS FALSE NEIGHBOUR: 'it returns false'. Refute it at one input. -/
def fnExactPairSplitWrong : ChangeSpec := { name := "fnExactPairSplit", fn := fun _ => fun
  | [d1, d2] => { results := [.lit (.bool false)], args := [d1, d2] }
  | _ => none }
def FnExactPairSplitWrongFalsely : Prop := fnExactPairSplitRow.holds Try.pinned (OpenSpec.ofChange fnExactPairSplitWrong)

/-- 'laws.FnExactPairCut': WHATEVER THE INPUT: true; the input reads as it did. -/
def fnExactPairCutSpec : ChangeSpec := { name := "fnExactPairCut", fn := fun _ => fun
  | [d1, d2, d3] => { results := [.lit (.bool true)], args := [d1, d2, d3] }
  | _ => none }
def fnExactPairCutRow : OpenClaim := { program := "yteigdooniolmlaa", sum := "6dc0a346f2f362eb2a7a9dda41d3cae9f8774ac0e28107a8a8445b81778b1783", func := "loop.example/pinfold/laws.FnExactPairCut", spec := "fnExactPairCut", unfollowed := true, recurses := true, apart := false }
def FnExactPairCutSaid : Prop := fnExactPairCutRow.holds Try.pinned (OpenSpec.ofChange fnExactPairCutSpec)

/-- ITS FALSE NEIGHBOUR: 'it returns false'. Refute it at one input. -/
def fnExactPairCutWrong : ChangeSpec := { name := "fnExactPairCut", fn := fun _ => fun
  | [d1, d2, d3] => { results := [.lit (.bool false)], args := [d1, d2, d3] }
  | _ => none }
def FnExactPairCutWrongFalsely : Prop := fnExactPairCutRow.holds Try.pinned (OpenSpec.ofChange fnExactPairCutWrong)

/-- 'laws.FnExactPairLess': WHATEVER THE INPUT: true; the input reads as it did. -/
def fnExactPairLessSpec : ChangeSpec := { name := "fnExactPairLess", fn := fun _ => fun
  | [d] => { results := [.lit (.bool true)], args := [d] }
  | _ => none }
def fnExactPairLessRow : OpenClaim := { program := "yteigdooniolmlaa", sum := "6dc0a346f2f362eb2a7a9dda41d3cae9f8774ac0e28107a8a8445b81778b1783", func := "loop.example/pinfold/laws.FnExactPairLess", spec := "fnExactPairLess", inPlace := ["math.Float32frombits", "math.Float64bits", "math.Float64frombits", "math.Float32bits"], unfollowed := true, recurses := true, apart := false }
def FnExactPairLessSaid : Prop := fnExactPairLessRow.holds Try.pinned (OpenSpec.ofChange fnExactPairLessSpec)

/-- ITS FALSE NEIGHBOUR: 'it returns false'. Refute it at one input. -/
def fnExactPairLessWrong : ChangeSpec := { name := "fnExactPairLess", fn := fun _ => fun
  | [d] => { results := [.lit (.bool false)], args := [d] }
  | _ => none }
def FnExactPairLessWrongFalsely : Prop := fnExactPairLessRow.holds Try.pinned (OpenSpec.ofChange fnExactPairLessWrong)

/-- 'laws.FnExactPairMore': WHATEVER THE INPUT: true; the input reads as it did. -/
def fnExactPairMoreSpec : ChangeSpec := { name := "fnExactPairMore", fn := fun _ => fun
  | [d] => { results := [.lit (.bool true)], args := [d] }
  | _ => none }
def fnExactPairMoreRow : OpenClaim := { program := "yteigdooniolmlaa", sum := "6dc0a346f2f362eb2a7a9dda41d3cae9f8774ac0e28107a8a8445b81778b1783", func := "loop.example/pinfold/laws.FnExactPairMore", spec := "fnExactPairMore", inPlace := ["math.Float32frombits", "math.Float64bits"], unfollowed := true, recurses := true, apart := false }
def FnExactPairMoreSaid : Prop := fnExactPairMoreRow.holds Try.pinned (OpenSpec.ofChange fnExactPairMoreSpec)

/-- ITS FALSE NEIGHBOUR: 'it returns false'. Refute it at one input. -/
def fnExactPairMoreWrong : ChangeSpec := { name := "fnExactPairMore", fn := fun _ => fun
  | [d] => { results := [.lit (.bool false)], args := [d] }
  | _ => none }
def FnExactPairMoreWrongFalsely : Prop := fnExactPairMoreRow.holds Try.pinned (OpenSpec.ofChange fnExactPairMoreWrong)

/- THE SECOND FORM. 'bulk': how many values and letters a reading holds, each counted each time it is reached (what is shared counts as often as it is met; a slice's spare places count too). A statement '..UptoSaid' is the law's where the arguments, and the package variables that the reading takes, are together of bulk at most 1048576: NARROWER than '..Said'. Prove '..Said' where nothing that the law and all that it calls make is longer than what came in: it says more and counts as full. Else prove '..UptoSaid'. A law counts once. -/
mutual
def uptoBulk {H : Type} : DataW H → Nat
  | .lit (.string bytes) => bytes.length + 1
  | .lit _ => 1
  | .nil => 1
  | .ptr d => uptoBulk d + 1
  | .slice elems spare => uptoBulkAll elems + uptoBulkAll spare + 1
  | .agg parts => uptoBulkAll parts + 1
  | .iface _ d => uptoBulk d + 1
  | .map entries => uptoBulkEntries entries + 1
  | .held _ => 1
def uptoBulkAll {H : Type} : List (DataW H) → Nat
  | [] => 0
  | d :: r => uptoBulk d + uptoBulkAll r
def uptoBulkEntries {H : Type} : List (Lit × DataW H) → Nat
  | [] => 0
  | x :: r => uptoBulkEntry x + uptoBulkEntries r
def uptoBulkEntry {H : Type} : Lit × DataW H → Nat
  | (.string bytes, d) => bytes.length + uptoBulk d + 1
  | (_, d) => uptoBulk d + 1
 end
def uptoSmall : (H : Type) → List (DataW H) → Bool := fun _ ds => decide (uptoBulkAll ds ≤ 1048576)
def OpenSpec.upto (s : _root_.Go.ChangeSpec) : _root_.Go.OpenSpec := { _root_.Go.OpenSpec.ofChange s with cond := some uptoSmall }

/-- 'laws.FnPairSplit', WHERE WHAT IT READS IS OF BULK AT MOST 1048576: true; the input reads as it did. -/
def fnPairSplitUptoRow : OpenClaim := { program := "yteigdooniolmlaa", sum := "6dc0a346f2f362eb2a7a9dda41d3cae9f8774ac0e28107a8a8445b81778b1783", func := "loop.example/pinfold/laws.FnPairSplit", spec := "fnPairSplit", unfollowed := true, recurses := true, apart := false, narrowed := true }
def FnPairSplitUptoSaid : Prop := fnPairSplitUptoRow.holds Try.pinned (OpenSpec.upto fnPairSplitSpec)

/-- 'laws.FnPairCut', WHERE WHAT IT READS IS OF BULK AT MOST 1048576: true; the input reads as it did. -/
def fnPairCutUptoRow : OpenClaim := { program := "yteigdooniolmlaa", sum := "6dc0a346f2f362eb2a7a9dda41d3cae9f8774ac0e28107a8a8445b81778b1783", func := "loop.example/pinfold/laws.FnPairCut", spec := "fnPairCut", unfollowed := true, recurses := true, apart := false, narrowed := true }
def FnPairCutUptoSaid : Prop := fnPairCutUptoRow.holds Try.pinned (OpenSpec.upto fnPairCutSpec)

/-- 'laws.FnPairMeet', WHERE WHAT IT READS IS OF BULK AT MOST 1048576: true; the input reads as it did. -/
def fnPairMeetUptoRow : OpenClaim := { program := "yteigdooniolmlaa", sum := "6dc0a346f2f362eb2a7a9dda41d3cae9f8774ac0e28107a8a8445b81778b1783", func := "loop.example/pinfold/laws.FnPairMeet", spec := "fnPairMeet", unfollowed := true, recurses := true, apart := false, narrowed := true }
def FnPairMeetUptoSaid : Prop := fnPairMeetUptoRow.holds Try.pinned (OpenSpec.upto fnPairMeetSpec)

/-- 'laws.FnExactPairOk', WHERE WHAT IT READS IS OF BULK AT MOST 1048576: true; the input reads as it did. -/
def fnExactPairOkUptoRow : OpenClaim := { program := "yteigdooniolmlaa", sum := "6dc0a346f2f362eb2a7a9dda41d3cae9f8774ac0e28107a8a8445b81778b1783", func := "loop.example/pinfold/laws.FnExactPairOk", spec := "fnExactPairOk", unfollowed := true, recurses := true, apart := false, narrowed := true }
def FnExactPairOkUptoSaid : Prop := fnExactPairOkUptoRow.holds Try.pinned (OpenSpec.upto fnExactPairOkSpec)

/-- 'laws.FnExactPairIs', WHERE WHAT IT READS IS OF BULK AT MOST 1048576: true; the input reads as it did. -/
def fnExactPairIsUptoRow : OpenClaim := { program := "yteigdooniolmlaa", sum := "6dc0a346f2f362eb2a7a9dda41d3cae9f8774ac0e28107a8a8445b81778b1783", func := "loop.example/pinfold/laws.FnExactPairIs", spec := "fnExactPairIs", apart := false, narrowed := true }
def FnExactPairIsUptoSaid : Prop := fnExactPairIsUptoRow.holds Try.pinned (OpenSpec.upto fnExactPairIsSpec)

/-- 'laws.FnExactPairMeet', WHERE WHAT IT READS IS OF BULK AT MOST 1048576: true; the input reads as it did. -/
def fnExactPairMeetUptoRow : OpenClaim := { program := "yteigdooniolmlaa", sum := "6dc0a346f2f362eb2a7a9dda41d3cae9f8774ac0e28107a8a8445b81778b1783", func := "loop.example/pinfold/laws.FnExactPairMeet", spec := "fnExactPairMeet", unfollowed := true, recurses := true, apart := false, narrowed := true }
def FnExactPairMeetUptoSaid : Prop := fnExactPairMeetUptoRow.holds Try.pinned (OpenSpec.upto fnExactPairMeetSpec)

/-- 'laws.FnExactPairHull', WHERE WHAT IT READS IS OF BULK AT MOST 1048576: true; the input reads as it did. -/
def fnExactPairHullUptoRow : OpenClaim := { program := "yteigdooniolmlaa", sum := "6dc0a346f2f362eb2a7a9dda41d3cae9f8774ac0e28107a8a8445b81778b1783", func := "loop.example/pinfold/laws.FnExactPairHull", spec := "fnExactPairHull", unfollowed := true, recurses := true, apart := false, narrowed := true }
def FnExactPairHullUptoSaid : Prop := fnExactPairHullUptoRow.holds Try.pinned (OpenSpec.upto fnExactPairHullSpec)

/-- 'laws.FnExactPairSplit', WHERE WHAT IT READS IS OF BULK AT MOST 1048576: true; the input reads as it did. -/
def fnExactPairSplitUptoRow : OpenClaim := { program := "yteigdooniolmlaa", sum := "6dc0a346f2f362eb2a7a9dda41d3cae9f8774ac0e28107a8a8445b81778b1783", func := "loop.example/pinfold/laws.FnExactPairSplit", spec := "fnExactPairSplit", unfollowed := true, recurses := true, apart := false, narrowed := true }
def FnExactPairSplitUptoSaid : Prop := fnExactPairSplitUptoRow.holds Try.pinned (OpenSpec.upto fnExactPairSplitSpec)

/-- 'laws.FnExactPairCut', WHERE WHAT IT READS IS OF BULK AT MOST 1048576: true; the input reads as it did. -/
def fnExactPairCutUptoRow : OpenClaim := { program := "yteigdooniolmlaa", sum := "6dc0a346f2f362eb2a7a9dda41d3cae9f8774ac0e28107a8a8445b81778b1783", func := "loop.example/pinfold/laws.FnExactPairCut", spec := "fnExactPairCut", unfollowed := true, recurses := true, apart := false, narrowed := true }
def FnExactPairCutUptoSaid : Prop := fnExactPairCutUptoRow.holds Try.pinned (OpenSpec.upto fnExactPairCutSpec)

/-- 'laws.FnExactPairLess', WHERE WHAT IT READS IS OF BULK AT MOST 1048576: true; the input reads as it did. -/
def fnExactPairLessUptoRow : OpenClaim := { program := "yteigdooniolmlaa", sum := "6dc0a346f2f362eb2a7a9dda41d3cae9f8774ac0e28107a8a8445b81778b1783", func := "loop.example/pinfold/laws.FnExactPairLess", spec := "fnExactPairLess", inPlace := ["math.Float32frombits", "math.Float64bits", "math.Float64frombits", "math.Float32bits"], unfollowed := true, recurses := true, apart := false, narrowed := true }
def FnExactPairLessUptoSaid : Prop := fnExactPairLessUptoRow.holds Try.pinned (OpenSpec.upto fnExactPairLessSpec)

/-- 'laws.FnExactPairMore', WHERE WHAT IT READS IS OF BULK AT MOST 1048576: true; the input reads as it did. -/
def fnExactPairMoreUptoRow : OpenClaim := { program := "yteigdooniolmlaa", sum := "6dc0a346f2f362eb2a7a9dda41d3cae9f8774ac0e28107a8a8445b81778b1783", func := "loop.example/pinfold/laws.FnExactPairMore", spec := "fnExactPairMore", inPlace := ["math.Float32frombits", "math.Float64bits"], unfollowed := true, recurses := true, apart := false, narrowed := true }
def FnExactPairMoreUptoSaid : Prop := fnExactPairMoreUptoRow.holds Try.pinned (OpenSpec.upto fnExactPairMoreSpec)

end Rows
end Go.Proofs.Yteigdooniolmlaa
