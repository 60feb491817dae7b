/-
  No cell of these rows narrows 'for every input' (looked for: loops, veiled, ifaces, maps, wideKeys, modest, calm, conditions, laid).
  DERIVED. THE GIVEN ROWS OF THIS SEAT. 17 by the template 'for every input the law returns true; each argument reads behind the call as it read before'; 0 by the template 'total and deterministic' (their statements: YtljmmaaaeojbpaaTotals.lean).
  GIVEN WITH THE SEED: the statements are not yours to turn. If you find one false, say at which input.
  Laid BY PROGRAM, IN A SANDBOX (cutbox-rows.mjs): the forced cells as the released guide's own fill.sh prints them over the translation 044b37d7c9e532ee… (all of the seat's roots in one cut). By AI agents, Wed Nov 11 2026. No macro, syntax, notation, axiom, sorry.
-/
import Derived.Test.YtljmmaaaeojbpaaChecked
import GoSem.Claim
import GoSem.ClaimJoined
import GoSem.ClaimMapViews
import Derived.JoinedTies
import Derived.KernelRfl
namespace Go.Proofs.Ytljmmaaaeojbpaa
/- THE CELL 'sum', in the pinned program and in every row, IS THE sha256 OF THE DUMP (.gsa) THAT YtljmmaaaeojbpaaProg.lean LOADS. Nothing in Lean hashes anything: it is a label: what it is worth is what the hold of that sum in a sandbox is worth. -/
noncomputable def Try.pinned : Pinned := { name := "ytljmmaaaeojbpaa", sum := "044b37d7c9e532ee18a6ee3dd2072a90edc5a1e351dead6150c6fd105a73e8e3", checked := Try.checked }
namespace Rows
def none {H : Type} : Left H := { results := [], args := [] }

/-- 'laws.FnBitOrder': WHATEVER THE INPUT: true; the input reads as it did. -/
def fnBitOrderSpec : ChangeSpec := { name := "fnBitOrder", fn := fun _ => fun
  | [d1, d2] => { results := [.lit (.bool true)], args := [d1, d2] }
  | _ => none }
def fnBitOrderRow : OpenClaim := { program := "ytljmmaaaeojbpaa", sum := "044b37d7c9e532ee18a6ee3dd2072a90edc5a1e351dead6150c6fd105a73e8e3", func := "loop.example/pinfold/laws.FnBitOrder", spec := "fnBitOrder", unfollowed := true, recurses := true, apart := false }
def FnBitOrderSaid : Prop := fnBitOrderRow.holds Try.pinned (OpenSpec.ofChange fnBitOrderSpec)

/-- ITS FALSE NEIGHBOUR: 'it returns false'. Refute it at one input. -/
def fnBitOrderWrong : ChangeSpec := { name := "fnBitOrder", fn := fun _ => fun
  | [d1, d2] => { results := [.lit (.bool false)], args := [d1, d2] }
  | _ => none }
def FnBitOrderWrongFalsely : Prop := fnBitOrderRow.holds Try.pinned (OpenSpec.ofChange fnBitOrderWrong)

/-- 'laws.FnBitSteps': WHATEVER THE INPUT: true; the input reads as it did. -/
def fnBitStepsSpec : ChangeSpec := { name := "fnBitSteps", fn := fun _ => fun
  | [d] => { results := [.lit (.bool true)], args := [d] }
  | _ => none }
def fnBitStepsRow : OpenClaim := { program := "ytljmmaaaeojbpaa", sum := "044b37d7c9e532ee18a6ee3dd2072a90edc5a1e351dead6150c6fd105a73e8e3", func := "loop.example/pinfold/laws.FnBitSteps", spec := "fnBitSteps", unfollowed := true, recurses := true, apart := false }
def FnBitStepsSaid : Prop := fnBitStepsRow.holds Try.pinned (OpenSpec.ofChange fnBitStepsSpec)

/-- ITS FALSE NEIGHBOUR: 'it returns false'. Refute it at one input. -/
def fnBitStepsWrong : ChangeSpec := { name := "fnBitSteps", fn := fun _ => fun
  | [d] => { results := [.lit (.bool false)], args := [d] }
  | _ => none }
def FnBitStepsWrongFalsely : Prop := fnBitStepsRow.holds Try.pinned (OpenSpec.ofChange fnBitStepsWrong)

/-- 'laws.FnBitCross': WHATEVER THE INPUT: true; the input reads as it did. -/
def fnBitCrossSpec : ChangeSpec := { name := "fnBitCross", fn := fun _ => fun
  | [d1, d2] => { results := [.lit (.bool true)], args := [d1, d2] }
  | _ => none }
def fnBitCrossRow : OpenClaim := { program := "ytljmmaaaeojbpaa", sum := "044b37d7c9e532ee18a6ee3dd2072a90edc5a1e351dead6150c6fd105a73e8e3", func := "loop.example/pinfold/laws.FnBitCross", spec := "fnBitCross", inPlace := ["math.Float32frombits", "math.Float64bits", "math.Float64frombits", "math.Float32bits"], unfollowed := true, recurses := true, apart := false }
def FnBitCrossSaid : Prop := fnBitCrossRow.holds Try.pinned (OpenSpec.ofChange fnBitCrossSpec)

/-- ITS FALSE NEIGHBOUR: 'it returns false'. Refute it at one input. -/
def fnBitCrossWrong : ChangeSpec := { name := "fnBitCross", fn := fun _ => fun
  | [d1, d2] => { results := [.lit (.bool false)], args := [d1, d2] }
  | _ => none }
def FnBitCrossWrongFalsely : Prop := fnBitCrossRow.holds Try.pinned (OpenSpec.ofChange fnBitCrossWrong)

/-- 'laws.FnBitMiddle': WHATEVER THE INPUT: true; the input reads as it did. -/
def fnBitMiddleSpec : ChangeSpec := { name := "fnBitMiddle", fn := fun _ => fun
  | [d] => { results := [.lit (.bool true)], args := [d] }
  | _ => none }
def fnBitMiddleRow : OpenClaim := { program := "ytljmmaaaeojbpaa", sum := "044b37d7c9e532ee18a6ee3dd2072a90edc5a1e351dead6150c6fd105a73e8e3", func := "loop.example/pinfold/laws.FnBitMiddle", spec := "fnBitMiddle", apart := false }
def FnBitMiddleSaid : Prop := fnBitMiddleRow.holds Try.pinned (OpenSpec.ofChange fnBitMiddleSpec)

/-- ITS FALSE NEIGHBOUR: 'it returns false'. Refute it at one input. -/
def fnBitMiddleWrong : ChangeSpec := { name := "fnBitMiddle", fn := fun _ => fun
  | [d] => { results := [.lit (.bool false)], args := [d] }
  | _ => none }
def FnBitMiddleWrongFalsely : Prop := fnBitMiddleRow.holds Try.pinned (OpenSpec.ofChange fnBitMiddleWrong)

/-- 'laws.FnExactBitTop': WHATEVER THE INPUT: true; the input reads as it did. -/
def fnExactBitTopSpec : ChangeSpec := { name := "fnExactBitTop", fn := fun _ => fun
  | [d] => { results := [.lit (.bool true)], args := [d] }
  | _ => none }
def fnExactBitTopRow : OpenClaim := { program := "ytljmmaaaeojbpaa", sum := "044b37d7c9e532ee18a6ee3dd2072a90edc5a1e351dead6150c6fd105a73e8e3", func := "loop.example/pinfold/laws.FnExactBitTop", spec := "fnExactBitTop", unfollowed := true, recurses := true, apart := false }
def FnExactBitTopSaid : Prop := fnExactBitTopRow.holds Try.pinned (OpenSpec.ofChange fnExactBitTopSpec)

/-- ITS FALSE NEIGHBOUR: 'it returns false'. Refute it at one input. -/
def fnExactBitTopWrong : ChangeSpec := { name := "fnExactBitTop", fn := fun _ => fun
  | [d] => { results := [.lit (.bool false)], args := [d] }
  | _ => none }
def FnExactBitTopWrongFalsely : Prop := fnExactBitTopRow.holds Try.pinned (OpenSpec.ofChange fnExactBitTopWrong)

/-- 'laws.FnExactBitOk': WHATEVER THE INPUT: true; the input reads as it did. -/
def fnExactBitOkSpec : ChangeSpec := { name := "fnExactBitOk", fn := fun _ => fun
  | [d1, d2] => { results := [.lit (.bool true)], args := [d1, d2] }
  | _ => none }
def fnExactBitOkRow : OpenClaim := { program := "ytljmmaaaeojbpaa", sum := "044b37d7c9e532ee18a6ee3dd2072a90edc5a1e351dead6150c6fd105a73e8e3", func := "loop.example/pinfold/laws.FnExactBitOk", spec := "fnExactBitOk", unfollowed := true, recurses := true, apart := false }
def FnExactBitOkSaid : Prop := fnExactBitOkRow.holds Try.pinned (OpenSpec.ofChange fnExactBitOkSpec)

/-- ITS FALSE NEIGHBOUR: 'it returns false'. Refute it at one input. -/
def fnExactBitOkWrong : ChangeSpec := { name := "fnExactBitOk", fn := fun _ => fun
  | [d1, d2] => { results := [.lit (.bool false)], args := [d1, d2] }
  | _ => none }
def FnExactBitOkWrongFalsely : Prop := fnExactBitOkRow.holds Try.pinned (OpenSpec.ofChange fnExactBitOkWrong)

/-- 'laws.FnExactBitOrd': WHATEVER THE INPUT: true; the input reads as it did. -/
def fnExactBitOrdSpec : ChangeSpec := { name := "fnExactBitOrd", fn := fun _ => fun
  | [d1, d2] => { results := [.lit (.bool true)], args := [d1, d2] }
  | _ => none }
def fnExactBitOrdRow : OpenClaim := { program := "ytljmmaaaeojbpaa", sum := "044b37d7c9e532ee18a6ee3dd2072a90edc5a1e351dead6150c6fd105a73e8e3", func := "loop.example/pinfold/laws.FnExactBitOrd", spec := "fnExactBitOrd", unfollowed := true, recurses := true, apart := false }
def FnExactBitOrdSaid : Prop := fnExactBitOrdRow.holds Try.pinned (OpenSpec.ofChange fnExactBitOrdSpec)

/-- ITS FALSE NEIGHBOUR: 'it returns false'. Refute it at one input. -/
def fnExactBitOrdWrong : ChangeSpec := { name := "fnExactBitOrd", fn := fun _ => fun
  | [d1, d2] => { results := [.lit (.bool false)], args := [d1, d2] }
  | _ => none }
def FnExactBitOrdWrongFalsely : Prop := fnExactBitOrdRow.holds Try.pinned (OpenSpec.ofChange fnExactBitOrdWrong)

/-- 'laws.FnExactBitBits': WHATEVER THE INPUT: true; the input reads as it did. -/
def fnExactBitBitsSpec : ChangeSpec := { name := "fnExactBitBits", fn := fun _ => fun
  | [d1, d2] => { results := [.lit (.bool true)], args := [d1, d2] }
  | _ => none }
def fnExactBitBitsRow : OpenClaim := { program := "ytljmmaaaeojbpaa", sum := "044b37d7c9e532ee18a6ee3dd2072a90edc5a1e351dead6150c6fd105a73e8e3", func := "loop.example/pinfold/laws.FnExactBitBits", spec := "fnExactBitBits", unfollowed := true, recurses := true, apart := false }
def FnExactBitBitsSaid : Prop := fnExactBitBitsRow.holds Try.pinned (OpenSpec.ofChange fnExactBitBitsSpec)

/-- ITS FALSE NEIGHBOUR: 'it returns false'. Refute it at one input. -/
def fnExactBitBitsWrong : ChangeSpec := { name := "fnExactBitBits", fn := fun _ => fun
  | [d1, d2] => { results := [.lit (.bool false)], args := [d1, d2] }
  | _ => none }
def FnExactBitBitsWrongFalsely : Prop := fnExactBitBitsRow.holds Try.pinned (OpenSpec.ofChange fnExactBitBitsWrong)

/-- 'laws.FnExactBitKindOf': WHATEVER THE INPUT: true; the input reads as it did. -/
def fnExactBitKindOfSpec : ChangeSpec := { name := "fnExactBitKindOf", fn := fun _ => fun
  | [d1, d2] => { results := [.lit (.bool true)], args := [d1, d2] }
  | _ => none }
def fnExactBitKindOfRow : OpenClaim := { program := "ytljmmaaaeojbpaa", sum := "044b37d7c9e532ee18a6ee3dd2072a90edc5a1e351dead6150c6fd105a73e8e3", func := "loop.example/pinfold/laws.FnExactBitKindOf", spec := "fnExactBitKindOf", unfollowed := true, recurses := true, apart := false }
def FnExactBitKindOfSaid : Prop := fnExactBitKindOfRow.holds Try.pinned (OpenSpec.ofChange fnExactBitKindOfSpec)

/-- ITS FALSE NEIGHBOUR: 'it returns false'. Refute it at one input. -/
def fnExactBitKindOfWrong : ChangeSpec := { name := "fnExactBitKindOf", fn := fun _ => fun
  | [d1, d2] => { results := [.lit (.bool false)], args := [d1, d2] }
  | _ => none }
def FnExactBitKindOfWrongFalsely : Prop := fnExactBitKindOfRow.holds Try.pinned (OpenSpec.ofChange fnExactBitKindOfWrong)

/-- 'laws.FnExactBitUp': WHATEVER THE INPUT: true; the input reads as it did. -/
def fnExactBitUpSpec : ChangeSpec := { name := "fnExactBitUp", fn := fun _ => fun
  | [d1, d2] => { results := [.lit (.bool true)], args := [d1, d2] }
  | _ => none }
def fnExactBitUpRow : OpenClaim := { program := "ytljmmaaaeojbpaa", sum := "044b37d7c9e532ee18a6ee3dd2072a90edc5a1e351dead6150c6fd105a73e8e3", func := "loop.example/pinfold/laws.FnExactBitUp", spec := "fnExactBitUp", unfollowed := true, recurses := true, apart := false }
def FnExactBitUpSaid : Prop := fnExactBitUpRow.holds Try.pinned (OpenSpec.ofChange fnExactBitUpSpec)

/-- ITS FALSE NEIGHBOUR: 'it returns false'. Refute it at one input. -/
def fnExactBitUpWrong : ChangeSpec := { name := "fnExactBitUp", fn := fun _ => fun
  | [d1, d2] => { results := [.lit (.bool false)], args := [d1, d2] }
  | _ => none }
def FnExactBitUpWrongFalsely : Prop := fnExactBitUpRow.holds Try.pinned (OpenSpec.ofChange fnExactBitUpWrong)

/-- 'laws.FnExactBitDown': WHATEVER THE INPUT: true; the input reads as it did. -/
def fnExactBitDownSpec : ChangeSpec := { name := "fnExactBitDown", fn := fun _ => fun
  | [d1, d2] => { results := [.lit (.bool true)], args := [d1, d2] }
  | _ => none }
def fnExactBitDownRow : OpenClaim := { program := "ytljmmaaaeojbpaa", sum := "044b37d7c9e532ee18a6ee3dd2072a90edc5a1e351dead6150c6fd105a73e8e3", func := "loop.example/pinfold/laws.FnExactBitDown", spec := "fnExactBitDown", unfollowed := true, recurses := true, apart := false }
def FnExactBitDownSaid : Prop := fnExactBitDownRow.holds Try.pinned (OpenSpec.ofChange fnExactBitDownSpec)

/-- ITS FALSE NEIGHBOUR: 'it returns false'. Refute it at one input. -/
def fnExactBitDownWrong : ChangeSpec := { name := "fnExactBitDown", fn := fun _ => fun
  | [d1, d2] => { results := [.lit (.bool false)], args := [d1, d2] }
  | _ => none }
def FnExactBitDownWrongFalsely : Prop := fnExactBitDownRow.holds Try.pinned (OpenSpec.ofChange fnExactBitDownWrong)

/-- 'laws.FnExactBitPartOf': WHATEVER THE INPUT: true; the input reads as it did. -/
def fnExactBitPartOfSpec : ChangeSpec := { name := "fnExactBitPartOf", fn := fun _ => fun
  | [d1, d2] => { results := [.lit (.bool true)], args := [d1, d2] }
  | _ => none }
def fnExactBitPartOfRow : OpenClaim := { program := "ytljmmaaaeojbpaa", sum := "044b37d7c9e532ee18a6ee3dd2072a90edc5a1e351dead6150c6fd105a73e8e3", func := "loop.example/pinfold/laws.FnExactBitPartOf", spec := "fnExactBitPartOf", unfollowed := true, recurses := true, apart := false }
def FnExactBitPartOfSaid : Prop := fnExactBitPartOfRow.holds Try.pinned (OpenSpec.ofChange fnExactBitPartOfSpec)

/-- ITS FALSE NEIGHBOUR: 'it returns false'. Refute it at one input. -/
def fnExactBitPartOfWrong : ChangeSpec := { name := "fnExactBitPartOf", fn := fun _ => fun
  | [d1, d2] => { results := [.lit (.bool false)], args := [d1, d2] }
  | _ => none }
def FnExactBitPartOfWrongFalsely : Prop := fnExactBitPartOfRow.holds Try.pinned (OpenSpec.ofChange fnExactBitPartOfWrong)

/-- 'laws.FnExactBitGap': WHATEVER THE INPUT: true; the input reads as it did. -/
def fnExactBitGapSpec : ChangeSpec := { name := "fnExactBitGap", fn := fun _ => fun
  | [d1, d2] => { results := [.lit (.bool true)], args := [d1, d2] }
  | _ => none }
def fnExactBitGapRow : OpenClaim := { program := "ytljmmaaaeojbpaa", sum := "044b37d7c9e532ee18a6ee3dd2072a90edc5a1e351dead6150c6fd105a73e8e3", func := "loop.example/pinfold/laws.FnExactBitGap", spec := "fnExactBitGap", apart := false }
def FnExactBitGapSaid : Prop := fnExactBitGapRow.holds Try.pinned (OpenSpec.ofChange fnExactBitGapSpec)

/-- ITS FALSE NEIGHBOUR: 'it returns false'. Refute it at one input. -/
def fnExactBitGapWrong : ChangeSpec := { name := "fnExactBitGap", fn := fun _ => fun
  | [d1, d2] => { results := [.lit (.bool false)], args := [d1, d2] }
  | _ => none }
def FnExactBitGapWrongFalsely : Prop := fnExactBitGapRow.holds Try.pinned (OpenSpec.ofChange fnExactBitGapWrong)

/-- 'laws.FnExactBitMiddle': WHATEVER THE INPUT: true; the input reads as it did. -/
def fnExactBitMiddleSpec : ChangeSpec := { name := "fnExactBitMiddle", fn := fun _ => fun
  | [d1, d2] => { results := [.lit (.bool true)], args := [d1, d2] }
  | _ => none }
def fnExactBitMiddleRow : OpenClaim := { program := "ytljmmaaaeojbpaa", sum := "044b37d7c9e532ee18a6ee3dd2072a90edc5a1e351dead6150c6fd105a73e8e3", func := "loop.example/pinfold/laws.FnExactBitMiddle", spec := "fnExactBitMiddle", apart := false }
def FnExactBitMiddleSaid : Prop := fnExactBitMiddleRow.holds Try.pinned (OpenSpec.ofChange fnExactBitMiddleSpec)

/-- ITS FALSE NEIGHBOUR: 'it returns false'. Refute it at one input. -/
def fnExactBitMiddleWrong : ChangeSpec := { name := "fnExactBitMiddle", fn := fun _ => fun
  | [d1, d2] => { results := [.lit (.bool false)], args := [d1, d2] }
  | _ => none }
def FnExactBitMiddleWrongFalsely : Prop := fnExactBitMiddleRow.holds Try.pinned (OpenSpec.ofChange fnExactBitMiddleWrong)

/-- 'laws.FnExactBitWiden': WHATEVER THE INPUT: true; the input reads as it did. -/
def fnExactBitWidenSpec : ChangeSpec := { name := "fnExactBitWiden", fn := fun _ => fun
  | [d] => { results := [.lit (.bool true)], args := [d] }
  | _ => none }
def fnExactBitWidenRow : OpenClaim := { program := "ytljmmaaaeojbpaa", sum := "044b37d7c9e532ee18a6ee3dd2072a90edc5a1e351dead6150c6fd105a73e8e3", func := "loop.example/pinfold/laws.FnExactBitWiden", spec := "fnExactBitWiden", inPlace := ["math.Float32frombits", "math.Float64bits"], unfollowed := true, recurses := true, apart := false }
def FnExactBitWidenSaid : Prop := fnExactBitWidenRow.holds Try.pinned (OpenSpec.ofChange fnExactBitWidenSpec)

/-- ITS FALSE NEIGHBOUR: 'it returns false'. Refute it at one input. -/
def fnExactBitWidenWrong : ChangeSpec := { name := "fnExactBitWiden", fn := fun _ => fun
  | [d] => { results := [.lit (.bool false)], args := [d] }
  | _ => none }
def FnExactBitWidenWrongFalsely : Prop := fnExactBitWidenRow.holds Try.pinned (OpenSpec.ofChange fnExactBitWidenWrong)

/-- 'laws.FnExactBitBelow': WHATEVER THE INPUT: true; the input reads as it did. -/
def fnExactBitBelowSpec : ChangeSpec := { name := "fnExactBitBelow", fn := fun _ => fun
  | [d] => { results := [.lit (.bool true)], args := [d] }
  | _ => none }
def fnExactBitBelowRow : OpenClaim := { program := "ytljmmaaaeojbpaa", sum := "044b37d7c9e532ee18a6ee3dd2072a90edc5a1e351dead6150c6fd105a73e8e3", func := "loop.example/pinfold/laws.FnExactBitBelow", spec := "fnExactBitBelow", inPlace := ["math.Float32frombits", "math.Float64bits", "math.Float64frombits", "math.Float32bits"], unfollowed := true, recurses := true, apart := false }
def FnExactBitBelowSaid : Prop := fnExactBitBelowRow.holds Try.pinned (OpenSpec.ofChange fnExactBitBelowSpec)

/-- ITS FALSE NEIGHBOUR: 'it returns false'. Refute it at one input. -/
def fnExactBitBelowWrong : ChangeSpec := { name := "fnExactBitBelow", fn := fun _ => fun
  | [d] => { results := [.lit (.bool false)], args := [d] }
  | _ => none }
def FnExactBitBelowWrongFalsely : Prop := fnExactBitBelowRow.holds Try.pinned (OpenSpec.ofChange fnExactBitBelowWrong)

/-- 'laws.FnExactBitAbove': WHATEVER THE INPUT: true; the input reads as it did. -/
def fnExactBitAboveSpec : ChangeSpec := { name := "fnExactBitAbove", fn := fun _ => fun
  | [d] => { results := [.lit (.bool true)], args := [d] }
  | _ => none }
def fnExactBitAboveRow : OpenClaim := { program := "ytljmmaaaeojbpaa", sum := "044b37d7c9e532ee18a6ee3dd2072a90edc5a1e351dead6150c6fd105a73e8e3", func := "loop.example/pinfold/laws.FnExactBitAbove", spec := "fnExactBitAbove", inPlace := ["math.Float32frombits", "math.Float64bits", "math.Float64frombits", "math.Float32bits"], unfollowed := true, recurses := true, apart := false }
def FnExactBitAboveSaid : Prop := fnExactBitAboveRow.holds Try.pinned (OpenSpec.ofChange fnExactBitAboveSpec)

/-- ITS FALSE NEIGHBOUR: 'it returns false'. Refute it at one input. -/
def fnExactBitAboveWrong : ChangeSpec := { name := "fnExactBitAbove", fn := fun _ => fun
  | [d] => { results := [.lit (.bool false)], args := [d] }
  | _ => none }
def FnExactBitAboveWrongFalsely : Prop := fnExactBitAboveRow.holds Try.pinned (OpenSpec.ofChange fnExactBitAboveWrong)

/- THE SECOND FORM. 'bulk': how many values and letters a reading holds, each counted each time it is reached (what is shared counts as often as it is met; a slice's spare places count too). A statement '..UptoSaid' is the law's where the arguments, and the package variables that the reading takes, are together of bulk at most 1048576: NARROWER than '..Said'. Prove '..Said' where nothing that the law and all that it calls make is longer than what came in: it says more and counts as full. Else prove '..UptoSaid'. A law counts once. -/
mutual
def uptoBulk {H : Type} : DataW H → Nat
  | .lit (.string bytes) => bytes.length + 1
  | .lit _ => 1
  | .nil => 1
  | .ptr d => uptoBulk d + 1
  | .slice elems spare => uptoBulkAll elems + uptoBulkAll spare + 1
  | .agg parts => uptoBulkAll parts + 1
  | .iface _ d => uptoBulk d + 1
  | .map entries => uptoBulkEntries entries + 1
  | .held _ => 1
def uptoBulkAll {H : Type} : List (DataW H) → Nat
  | [] => 0
  | d :: r => uptoBulk d + uptoBulkAll r
def uptoBulkEntries {H : Type} : List (Lit × DataW H) → Nat
  | [] => 0
  | x :: r => uptoBulkEntry x + uptoBulkEntries r
def uptoBulkEntry {H : Type} : Lit × DataW H → Nat
  | (.string bytes, d) => bytes.length + uptoBulk d + 1
  | (_, d) => uptoBulk d + 1
 end
def uptoSmall : (H : Type) → List (DataW H) → Bool := fun _ ds => decide (uptoBulkAll ds ≤ 1048576)
def OpenSpec.upto (s : _root_.Go.ChangeSpec) : _root_.Go.OpenSpec := { _root_.Go.OpenSpec.ofChange s with cond := some uptoSmall }

/-- 'laws.FnBitOrder', WHERE WHAT IT READS IS OF BULK AT MOST 1048576: true; the input reads as it did. -/
def fnBitOrderUptoRow : OpenClaim := { program := "ytljmmaaaeojbpaa", sum := "044b37d7c9e532ee18a6ee3dd2072a90edc5a1e351dead6150c6fd105a73e8e3", func := "loop.example/pinfold/laws.FnBitOrder", spec := "fnBitOrder", unfollowed := true, recurses := true, apart := false, narrowed := true }
def FnBitOrderUptoSaid : Prop := fnBitOrderUptoRow.holds Try.pinned (OpenSpec.upto fnBitOrderSpec)

/-- 'laws.FnBitSteps', WHERE WHAT IT READS IS OF BULK AT MOST 1048576: true; the input reads as it did. -/
def fnBitStepsUptoRow : OpenClaim := { program := "ytljmmaaaeojbpaa", sum := "044b37d7c9e532ee18a6ee3dd2072a90edc5a1e351dead6150c6fd105a73e8e3", func := "loop.example/pinfold/laws.FnBitSteps", spec := "fnBitSteps", unfollowed := true, recurses := true, apart := false, narrowed := true }
def FnBitStepsUptoSaid : Prop := fnBitStepsUptoRow.holds Try.pinned (OpenSpec.upto fnBitStepsSpec)

/-- 'laws.FnBitCross', WHERE WHAT IT READS IS OF BULK AT MOST 1048576: true; the input reads as it did. -/
def fnBitCrossUptoRow : OpenClaim := { program := "ytljmmaaaeojbpaa", sum := "044b37d7c9e532ee18a6ee3dd2072a90edc5a1e351dead6150c6fd105a73e8e3", func := "loop.example/pinfold/laws.FnBitCross", spec := "fnBitCross", inPlace := ["math.Float32frombits", "math.Float64bits", "math.Float64frombits", "math.Float32bits"], unfollowed := true, recurses := true, apart := false, narrowed := true }
def FnBitCrossUptoSaid : Prop := fnBitCrossUptoRow.holds Try.pinned (OpenSpec.upto fnBitCrossSpec)

/-- 'laws.FnBitMiddle', WHERE WHAT IT READS IS OF BULK AT MOST 1048576: true; the input reads as it did. -/
def fnBitMiddleUptoRow : OpenClaim := { program := "ytljmmaaaeojbpaa", sum := "044b37d7c9e532ee18a6ee3dd2072a90edc5a1e351dead6150c6fd105a73e8e3", func := "loop.example/pinfold/laws.FnBitMiddle", spec := "fnBitMiddle", apart := false, narrowed := true }
def FnBitMiddleUptoSaid : Prop := fnBitMiddleUptoRow.holds Try.pinned (OpenSpec.upto fnBitMiddleSpec)

/-- 'laws.FnExactBitTop', WHERE WHAT IT READS IS OF BULK AT MOST 1048576: true; the input reads as it did. -/
def fnExactBitTopUptoRow : OpenClaim := { program := "ytljmmaaaeojbpaa", sum := "044b37d7c9e532ee18a6ee3dd2072a90edc5a1e351dead6150c6fd105a73e8e3", func := "loop.example/pinfold/laws.FnExactBitTop", spec := "fnExactBitTop", unfollowed := true, recurses := true, apart := false, narrowed := true }
def FnExactBitTopUptoSaid : Prop := fnExactBitTopUptoRow.holds Try.pinned (OpenSpec.upto fnExactBitTopSpec)

/-- 'laws.FnExactBitOk', WHERE WHAT IT READS IS OF BULK AT MOST 1048576: true; the input reads as it did. -/
def fnExactBitOkUptoRow : OpenClaim := { program := "ytljmmaaaeojbpaa", sum := "044b37d7c9e532ee18a6ee3dd2072a90edc5a1e351dead6150c6fd105a73e8e3", func := "loop.example/pinfold/laws.FnExactBitOk", spec := "fnExactBitOk", unfollowed := true, recurses := true, apart := false, narrowed := true }
def FnExactBitOkUptoSaid : Prop := fnExactBitOkUptoRow.holds Try.pinned (OpenSpec.upto fnExactBitOkSpec)

/-- 'laws.FnExactBitOrd', WHERE WHAT IT READS IS OF BULK AT MOST 1048576: true; the input reads as it did. -/
def fnExactBitOrdUptoRow : OpenClaim := { program := "ytljmmaaaeojbpaa", sum := "044b37d7c9e532ee18a6ee3dd2072a90edc5a1e351dead6150c6fd105a73e8e3", func := "loop.example/pinfold/laws.FnExactBitOrd", spec := "fnExactBitOrd", unfollowed := true, recurses := true, apart := false, narrowed := true }
def FnExactBitOrdUptoSaid : Prop := fnExactBitOrdUptoRow.holds Try.pinned (OpenSpec.upto fnExactBitOrdSpec)

/-- 'laws.FnExactBitBits', WHERE WHAT IT READS IS OF BULK AT MOST 1048576: true; the input reads as it did. -/
def fnExactBitBitsUptoRow : OpenClaim := { program := "ytljmmaaaeojbpaa", sum := "044b37d7c9e532ee18a6ee3dd2072a90edc5a1e351dead6150c6fd105a73e8e3", func := "loop.example/pinfold/laws.FnExactBitBits", spec := "fnExactBitBits", unfollowed := true, recurses := true, apart := false, narrowed := true }
def FnExactBitBitsUptoSaid : Prop := fnExactBitBitsUptoRow.holds Try.pinned (OpenSpec.upto fnExactBitBitsSpec)

/-- 'laws.FnExactBitKindOf', WHERE WHAT IT READS IS OF BULK AT MOST 1048576: true; the input reads as it did. -/
def fnExactBitKindOfUptoRow : OpenClaim := { program := "ytljmmaaaeojbpaa", sum := "044b37d7c9e532ee18a6ee3dd2072a90edc5a1e351dead6150c6fd105a73e8e3", func := "loop.example/pinfold/laws.FnExactBitKindOf", spec := "fnExactBitKindOf", unfollowed := true, recurses := true, apart := false, narrowed := true }
def FnExactBitKindOfUptoSaid : Prop := fnExactBitKindOfUptoRow.holds Try.pinned (OpenSpec.upto fnExactBitKindOfSpec)

/-- 'laws.FnExactBitUp', WHERE WHAT IT READS IS OF BULK AT MOST 1048576: true; the input reads as it did. -/
def fnExactBitUpUptoRow : OpenClaim := { program := "ytljmmaaaeojbpaa", sum := "044b37d7c9e532ee18a6ee3dd2072a90edc5a1e351dead6150c6fd105a73e8e3", func := "loop.example/pinfold/laws.FnExactBitUp", spec := "fnExactBitUp", unfollowed := true, recurses := true, apart := false, narrowed := true }
def FnExactBitUpUptoSaid : Prop := fnExactBitUpUptoRow.holds Try.pinned (OpenSpec.upto fnExactBitUpSpec)

/-- 'laws.FnExactBitDown', WHERE WHAT IT READS IS OF BULK AT MOST 1048576: true; the input reads as it did. -/
def fnExactBitDownUptoRow : OpenClaim := { program := "ytljmmaaaeojbpaa", sum := "044b37d7c9e532ee18a6ee3dd2072a90edc5a1e351dead6150c6fd105a73e8e3", func := "loop.example/pinfold/laws.FnExactBitDown", spec := "fnExactBitDown", unfollowed := true, recurses := true, apart := false, narrowed := true }
def FnExactBitDownUptoSaid : Prop := fnExactBitDownUptoRow.holds Try.pinned (OpenSpec.upto fnExactBitDownSpec)

/-- 'laws.FnExactBitPartOf', WHERE WHAT IT READS IS OF BULK AT MOST 1048576: true; the input reads as it did. -/
def fnExactBitPartOfUptoRow : OpenClaim := { program := "ytljmmaaaeojbpaa", sum := "044b37d7c9e532ee18a6ee3dd2072a90edc5a1e351dead6150c6fd105a73e8e3", func := "loop.example/pinfold/laws.FnExactBitPartOf", spec := "fnExactBitPartOf", unfollowed := true, recurses := true, apart := false, narrowed := true }
def FnExactBitPartOfUptoSaid : Prop := fnExactBitPartOfUptoRow.holds Try.pinned (OpenSpec.upto fnExactBitPartOfSpec)

/-- 'laws.FnExactBitGap', WHERE WHAT IT READS IS OF BULK AT MOST 1048576: true; the input reads as it did. -/
def fnExactBitGapUptoRow : OpenClaim := { program := "ytljmmaaaeojbpaa", sum := "044b37d7c9e532ee18a6ee3dd2072a90edc5a1e351dead6150c6fd105a73e8e3", func := "loop.example/pinfold/laws.FnExactBitGap", spec := "fnExactBitGap", apart := false, narrowed := true }
def FnExactBitGapUptoSaid : Prop := fnExactBitGapUptoRow.holds Try.pinned (OpenSpec.upto fnExactBitGapSpec)

/-- 'laws.FnExactBitMiddle', WHERE WHAT IT READS IS OF BULK AT MOST 1048576: true; the input reads as it did. -/
def fnExactBitMiddleUptoRow : OpenClaim := { program := "ytljmmaaaeojbpaa", sum := "044b37d7c9e532ee18a6ee3dd2072a90edc5a1e351dead6150c6fd105a73e8e3", func := "loop.example/pinfold/laws.FnExactBitMiddle", spec := "fnExactBitMiddle", apart := false, narrowed := true }
def FnExactBitMiddleUptoSaid : Prop := fnExactBitMiddleUptoRow.holds Try.pinned (OpenSpec.upto fnExactBitMiddleSpec)

/-- 'laws.FnExactBitWiden', WHERE WHAT IT READS IS OF BULK AT MOST 1048576: true; the input reads as it did. -/
def fnExactBitWidenUptoRow : OpenClaim := { program := "ytljmmaaaeojbpaa", sum := "044b37d7c9e532ee18a6ee3dd2072a90edc5a1e351dead6150c6fd105a73e8e3", func := "loop.example/pinfold/laws.FnExactBitWiden", spec := "fnExactBitWiden", inPlace := ["math.Float32frombits", "math.Float64bits"], unfollowed := true, recurses := true, apart := false, narrowed := true }
def FnExactBitWidenUptoSaid : Prop := fnExactBitWidenUptoRow.holds Try.pinned (OpenSpec.upto fnExactBitWidenSpec)

/-- 'laws.FnExactBitBelow', WHERE WHAT IT READS IS OF BULK AT MOST 1048576: true; the input reads as it did. -/
def fnExactBitBelowUptoRow : OpenClaim := { program := "ytljmmaaaeojbpaa", sum := "044b37d7c9e532ee18a6ee3dd2072a90edc5a1e351dead6150c6fd105a73e8e3", func := "loop.example/pinfold/laws.FnExactBitBelow", spec := "fnExactBitBelow", inPlace := ["math.Float32frombits", "math.Float64bits", "math.Float64frombits", "math.Float32bits"], unfollowed := true, recurses := true, apart := false, narrowed := true }
def FnExactBitBelowUptoSaid : Prop := fnExactBitBelowUptoRow.holds Try.pinned (OpenSpec.upto fnExactBitBelowSpec)

/-- 'laws.FnExactBitAbove', WHERE WHAT IT READS IS OF BULK AT MOST 1048576: true; the input reads as it did. -/
def fnExactBitAboveUptoRow : OpenClaim := { program := "ytljmmaaaeojbpaa", sum := "044b37d7c9e532ee18a6ee3dd2072a90edc5a1e351dead6150c6fd105a73e8e3", func := "loop.example/pinfold/laws.FnExactBitAbove", spec := "fnExactBitAbove", inPlace := ["math.Float32frombits", "math.Float64bits", "math.Float64frombits", "math.Float32bits"], unfollowed := true, recurses := true, apart := false, narrowed := true }
def FnExactBitAboveUptoSaid : Prop := fnExactBitAboveUptoRow.holds Try.pinned (OpenSpec.upto fnExactBitAboveSpec)

end Rows
end Go.Proofs.Ytljmmaaaeojbpaa
