/-
  No cell of these rows narrows 'for every input' (looked for: loops, veiled, ifaces, maps, wideKeys, modest, calm, conditions, laid).
  DERIVED. THE GIVEN ROWS OF THIS SEAT. 28 by the template 'for every input the law returns true; each argument reads behind the call as it read before'; 0 by the template 'total and deterministic' (their statements: YtpdigbmeehpmdaaTotals.lean).
  GIVEN WITH THE SEED: the statements are not yours to turn. If you find one false, say at which input.
  Laid BY PROGRAM, IN A SANDBOX (cutbox-rows.mjs): the forced cells as the released guide's own fill.sh prints them over the translation 201c08b7a12ca476… (all of the seat's roots in one cut). By AI agents, Wed Nov 11 2026. No macro, syntax, notation, axiom, sorry.
-/
import Derived.Test.YtpdigbmeehpmdaaChecked
import GoSem.Claim
import GoSem.ClaimJoined
import GoSem.ClaimMapViews
import Derived.JoinedTies
import Derived.KernelRfl
namespace Go.Proofs.Ytpdigbmeehpmdaa
/- THE CELL 'sum', in the pinned program and in every row, IS THE sha256 OF THE DUMP (.gsa) THAT YtpdigbmeehpmdaaProg.lean LOADS. Nothing in Lean hashes anything: it is a label: what it is worth is what the hold of that sum in a sandbox is worth. -/
noncomputable def Try.pinned : Pinned := { name := "ytpdigbmeehpmdaa", sum := "201c08b7a12ca476d491a26ac2b35167cf09e4f40e14848335713dedef5b3181", checked := Try.checked }
namespace Rows
def none {H : Type} : Left H := { results := [], args := [] }

/-- 'laws.FnBitTop': WHATEVER THE INPUT: true; the input reads as it did. -/
def fnBitTopSpec : ChangeSpec := { name := "fnBitTop", fn := fun _ => fun
  | [d1, d2] => { results := [.lit (.bool true)], args := [d1, d2] }
  | _ => none }
def fnBitTopRow : OpenClaim := { program := "ytpdigbmeehpmdaa", sum := "201c08b7a12ca476d491a26ac2b35167cf09e4f40e14848335713dedef5b3181", func := "loop.example/pinfold/laws.FnBitTop", spec := "fnBitTop", unfollowed := true, recurses := true, apart := false }
def FnBitTopSaid : Prop := fnBitTopRow.holds Try.pinned (OpenSpec.ofChange fnBitTopSpec)

/-- ITS FALSE NEIGHBOUR: 'it returns false'. Refute it at one input. -/
def fnBitTopWrong : ChangeSpec := { name := "fnBitTop", fn := fun _ => fun
  | [d1, d2] => { results := [.lit (.bool false)], args := [d1, d2] }
  | _ => none }
def FnBitTopWrongFalsely : Prop := fnBitTopRow.holds Try.pinned (OpenSpec.ofChange fnBitTopWrong)

/-- 'laws.FnPairSplit': WHATEVER THE INPUT: true; the input reads as it did. -/
def fnPairSplitSpec : ChangeSpec := { name := "fnPairSplit", fn := fun _ => fun
  | [d1, d2] => { results := [.lit (.bool true)], args := [d1, d2] }
  | _ => none }
def fnPairSplitRow : OpenClaim := { program := "ytpdigbmeehpmdaa", sum := "201c08b7a12ca476d491a26ac2b35167cf09e4f40e14848335713dedef5b3181", func := "loop.example/pinfold/laws.FnPairSplit", spec := "fnPairSplit", unfollowed := true, recurses := true, apart := false }
def FnPairSplitSaid : Prop := fnPairSplitRow.holds Try.pinned (OpenSpec.ofChange fnPairSplitSpec)

/-- ITS FALSE NEIGHBOUR: 'it returns false'. Refute it at one input. -/
def fnPairSplitWrong : ChangeSpec := { name := "fnPairSplit", fn := fun _ => fun
  | [d1, d2] => { results := [.lit (.bool false)], args := [d1, d2] }
  | _ => none }
def FnPairSplitWrongFalsely : Prop := fnPairSplitRow.holds Try.pinned (OpenSpec.ofChange fnPairSplitWrong)

/-- 'laws.FnPairCut': WHATEVER THE INPUT: true; the input reads as it did. -/
def fnPairCutSpec : ChangeSpec := { name := "fnPairCut", fn := fun _ => fun
  | [d1, d2] => { results := [.lit (.bool true)], args := [d1, d2] }
  | _ => none }
def fnPairCutRow : OpenClaim := { program := "ytpdigbmeehpmdaa", sum := "201c08b7a12ca476d491a26ac2b35167cf09e4f40e14848335713dedef5b3181", func := "loop.example/pinfold/laws.FnPairCut", spec := "fnPairCut", unfollowed := true, recurses := true, apart := false }
def FnPairCutSaid : Prop := fnPairCutRow.holds Try.pinned (OpenSpec.ofChange fnPairCutSpec)

/-- ITS FALSE NEIGHBOUR: 'it returns false'. Refute it at one input. -/
def fnPairCutWrong : ChangeSpec := { name := "fnPairCut", fn := fun _ => fun
  | [d1, d2] => { results := [.lit (.bool false)], args := [d1, d2] }
  | _ => none }
def FnPairCutWrongFalsely : Prop := fnPairCutRow.holds Try.pinned (OpenSpec.ofChange fnPairCutWrong)

/-- 'laws.FnPairMeet': WHATEVER THE INPUT: true; the input reads as it did. -/
def fnPairMeetSpec : ChangeSpec := { name := "fnPairMeet", fn := fun _ => fun
  | [d1, d2] => { results := [.lit (.bool true)], args := [d1, d2] }
  | _ => none }
def fnPairMeetRow : OpenClaim := { program := "ytpdigbmeehpmdaa", sum := "201c08b7a12ca476d491a26ac2b35167cf09e4f40e14848335713dedef5b3181", func := "loop.example/pinfold/laws.FnPairMeet", spec := "fnPairMeet", unfollowed := true, recurses := true, apart := false }
def FnPairMeetSaid : Prop := fnPairMeetRow.holds Try.pinned (OpenSpec.ofChange fnPairMeetSpec)

/-- ITS FALSE NEIGHBOUR: 'it returns false'. Refute it at one input. -/
def fnPairMeetWrong : ChangeSpec := { name := "fnPairMeet", fn := fun _ => fun
  | [d1, d2] => { results := [.lit (.bool false)], args := [d1, d2] }
  | _ => none }
def FnPairMeetWrongFalsely : Prop := fnPairMeetRow.holds Try.pinned (OpenSpec.ofChange fnPairMeetWrong)

/-- 'laws.FnBoxUnits': WHATEVER THE INPUT: true; the input reads as it did. -/
def fnBoxUnitsSpec : ChangeSpec := { name := "fnBoxUnits", fn := fun _ => fun
  | [d1, d2] => { results := [.lit (.bool true)], args := [d1, d2] }
  | _ => none }
def fnBoxUnitsRow : OpenClaim := { program := "ytpdigbmeehpmdaa", sum := "201c08b7a12ca476d491a26ac2b35167cf09e4f40e14848335713dedef5b3181", func := "loop.example/pinfold/laws.FnBoxUnits", spec := "fnBoxUnits", unfollowed := true, recurses := true, apart := false }
def FnBoxUnitsSaid : Prop := fnBoxUnitsRow.holds Try.pinned (OpenSpec.ofChange fnBoxUnitsSpec)

/-- ITS FALSE NEIGHBOUR: 'it returns false'. Refute it at one input. -/
def fnBoxUnitsWrong : ChangeSpec := { name := "fnBoxUnits", fn := fun _ => fun
  | [d1, d2] => { results := [.lit (.bool false)], args := [d1, d2] }
  | _ => none }
def FnBoxUnitsWrongFalsely : Prop := fnBoxUnitsRow.holds Try.pinned (OpenSpec.ofChange fnBoxUnitsWrong)

/-- 'laws.FnBoxWithin': WHATEVER THE INPUT: true; the input reads as it did. -/
def fnBoxWithinSpec : ChangeSpec := { name := "fnBoxWithin", fn := fun _ => fun
  | [d] => { results := [.lit (.bool true)], args := [d] }
  | _ => none }
def fnBoxWithinRow : OpenClaim := { program := "ytpdigbmeehpmdaa", sum := "201c08b7a12ca476d491a26ac2b35167cf09e4f40e14848335713dedef5b3181", func := "loop.example/pinfold/laws.FnBoxWithin", spec := "fnBoxWithin", unfollowed := true, recurses := true, apart := false }
def FnBoxWithinSaid : Prop := fnBoxWithinRow.holds Try.pinned (OpenSpec.ofChange fnBoxWithinSpec)

/-- ITS FALSE NEIGHBOUR: 'it returns false'. Refute it at one input. -/
def fnBoxWithinWrong : ChangeSpec := { name := "fnBoxWithin", fn := fun _ => fun
  | [d] => { results := [.lit (.bool false)], args := [d] }
  | _ => none }
def FnBoxWithinWrongFalsely : Prop := fnBoxWithinRow.holds Try.pinned (OpenSpec.ofChange fnBoxWithinWrong)

/-- 'laws.FnBoxNarrow': WHATEVER THE INPUT: true; the input reads as it did. -/
def fnBoxNarrowSpec : ChangeSpec := { name := "fnBoxNarrow", fn := fun _ => fun
  | [d] => { results := [.lit (.bool true)], args := [d] }
  | _ => none }
def fnBoxNarrowRow : OpenClaim := { program := "ytpdigbmeehpmdaa", sum := "201c08b7a12ca476d491a26ac2b35167cf09e4f40e14848335713dedef5b3181", func := "loop.example/pinfold/laws.FnBoxNarrow", spec := "fnBoxNarrow", inPlace := ["math.Float32frombits", "math.Float64bits", "math.Float64frombits", "math.Float32bits"], unfollowed := true, recurses := true, apart := false }
def FnBoxNarrowSaid : Prop := fnBoxNarrowRow.holds Try.pinned (OpenSpec.ofChange fnBoxNarrowSpec)

/-- ITS FALSE NEIGHBOUR: 'it returns false'. Refute it at one input. -/
def fnBoxNarrowWrong : ChangeSpec := { name := "fnBoxNarrow", fn := fun _ => fun
  | [d] => { results := [.lit (.bool false)], args := [d] }
  | _ => none }
def FnBoxNarrowWrongFalsely : Prop := fnBoxNarrowRow.holds Try.pinned (OpenSpec.ofChange fnBoxNarrowWrong)

/-- 'laws.FnExactPairOk': WHATEVER THE INPUT: true; the input reads as it did. -/
def fnExactPairOkSpec : ChangeSpec := { name := "fnExactPairOk", fn := fun _ => fun
  | [d1, d2] => { results := [.lit (.bool true)], args := [d1, d2] }
  | _ => none }
def fnExactPairOkRow : OpenClaim := { program := "ytpdigbmeehpmdaa", sum := "201c08b7a12ca476d491a26ac2b35167cf09e4f40e14848335713dedef5b3181", func := "loop.example/pinfold/laws.FnExactPairOk", spec := "fnExactPairOk", unfollowed := true, recurses := true, apart := false }
def FnExactPairOkSaid : Prop := fnExactPairOkRow.holds Try.pinned (OpenSpec.ofChange fnExactPairOkSpec)

/-- ITS FALSE NEIGHBOUR: 'it returns false'. Refute it at one input. -/
def fnExactPairOkWrong : ChangeSpec := { name := "fnExactPairOk", fn := fun _ => fun
  | [d1, d2] => { results := [.lit (.bool false)], args := [d1, d2] }
  | _ => none }
def FnExactPairOkWrongFalsely : Prop := fnExactPairOkRow.holds Try.pinned (OpenSpec.ofChange fnExactPairOkWrong)

/-- 'laws.FnExactPairIs': WHATEVER THE INPUT: true; the input reads as it did. -/
def fnExactPairIsSpec : ChangeSpec := { name := "fnExactPairIs", fn := fun _ => fun
  | [d1, d2] => { results := [.lit (.bool true)], args := [d1, d2] }
  | _ => none }
def fnExactPairIsRow : OpenClaim := { program := "ytpdigbmeehpmdaa", sum := "201c08b7a12ca476d491a26ac2b35167cf09e4f40e14848335713dedef5b3181", func := "loop.example/pinfold/laws.FnExactPairIs", spec := "fnExactPairIs", apart := false }
def FnExactPairIsSaid : Prop := fnExactPairIsRow.holds Try.pinned (OpenSpec.ofChange fnExactPairIsSpec)

/-- ITS FALSE NEIGHBOUR: 'it returns false'. Refute it at one input. -/
def fnExactPairIsWrong : ChangeSpec := { name := "fnExactPairIs", fn := fun _ => fun
  | [d1, d2] => { results := [.lit (.bool false)], args := [d1, d2] }
  | _ => none }
def FnExactPairIsWrongFalsely : Prop := fnExactPairIsRow.holds Try.pinned (OpenSpec.ofChange fnExactPairIsWrong)

/-- 'laws.FnExactPairMeet': WHATEVER THE INPUT: true; the input reads as it did. -/
def fnExactPairMeetSpec : ChangeSpec := { name := "fnExactPairMeet", fn := fun _ => fun
  | [d1, d2, d3] => { results := [.lit (.bool true)], args := [d1, d2, d3] }
  | _ => none }
def fnExactPairMeetRow : OpenClaim := { program := "ytpdigbmeehpmdaa", sum := "201c08b7a12ca476d491a26ac2b35167cf09e4f40e14848335713dedef5b3181", func := "loop.example/pinfold/laws.FnExactPairMeet", spec := "fnExactPairMeet", unfollowed := true, recurses := true, apart := false }
def FnExactPairMeetSaid : Prop := fnExactPairMeetRow.holds Try.pinned (OpenSpec.ofChange fnExactPairMeetSpec)

/-- ITS FALSE NEIGHBOUR: 'it returns false'. Refute it at one input. -/
def fnExactPairMeetWrong : ChangeSpec := { name := "fnExactPairMeet", fn := fun _ => fun
  | [d1, d2, d3] => { results := [.lit (.bool false)], args := [d1, d2, d3] }
  | _ => none }
def FnExactPairMeetWrongFalsely : Prop := fnExactPairMeetRow.holds Try.pinned (OpenSpec.ofChange fnExactPairMeetWrong)

/-- 'laws.FnExactPairHull': WHATEVER THE INPUT: true; the input reads as it did. -/
def fnExactPairHullSpec : ChangeSpec := { name := "fnExactPairHull", fn := fun _ => fun
  | [d1, d2, d3] => { results := [.lit (.bool true)], args := [d1, d2, d3] }
  | _ => none }
def fnExactPairHullRow : OpenClaim := { program := "ytpdigbmeehpmdaa", sum := "201c08b7a12ca476d491a26ac2b35167cf09e4f40e14848335713dedef5b3181", func := "loop.example/pinfold/laws.FnExactPairHull", spec := "fnExactPairHull", unfollowed := true, recurses := true, apart := false }
def FnExactPairHullSaid : Prop := fnExactPairHullRow.holds Try.pinned (OpenSpec.ofChange fnExactPairHullSpec)

/-- ITS FALSE NEIGHBOUR: 'it returns false'. Refute it at one input. -/
def fnExactPairHullWrong : ChangeSpec := { name := "fnExactPairHull", fn := fun _ => fun
  | [d1, d2, d3] => { results := [.lit (.bool false)], args := [d1, d2, d3] }
  | _ => none }
def FnExactPairHullWrongFalsely : Prop := fnExactPairHullRow.holds Try.pinned (OpenSpec.ofChange fnExactPairHullWrong)

/-- 'laws.FnExactPairSplit': WHATEVER THE INPUT: true; the input reads as it did. -/
def fnExactPairSplitSpec : ChangeSpec := { name := "fnExactPairSplit", fn := fun _ => fun
  | [d1, d2] => { results := [.lit (.bool true)], args := [d1, d2] }
  | _ => none }
def fnExactPairSplitRow : OpenClaim := { program := "ytpdigbmeehpmdaa", sum := "201c08b7a12ca476d491a26ac2b35167cf09e4f40e14848335713dedef5b3181", func := "loop.example/pinfold/laws.FnExactPairSplit", spec := "fnExactPairSplit", unfollowed := true, recurses := true, apart := false }
def FnExactPairSplitSaid : Prop := fnExactPairSplitRow.holds Try.pinned (OpenSpec.ofChange fnExactPairSplitSpec)

/-- ITS FALSE NEIGHBOUR: 'it returns false'. Refute it at one input. -/
def fnExactPairSplitWrong : ChangeSpec := { name := "fnExactPairSplit", fn := fun _ => fun
  | [d1, d2] => { results := [.lit (.bool false)], args := [d1, d2] }
  | _ => none }
def FnExactPairSplitWrongFalsely : Prop := fnExactPairSplitRow.holds Try.pinned (OpenSpec.ofChange fnExactPairSplitWrong)

/-- 'laws.FnExactPairCut': WHATEVER THE INPUT: true; the input reads as it did. -/
def fnExactPairCutSpec : ChangeSpec := { name := "fnExactPairCut", fn := fun _ => fun
  | [d1, d2, d3] => { results := [.lit (.bool true)], args := [d1, d2, d3] }
  | _ => none }
def fnExactPairCutRow : OpenClaim := { program := "ytpdigbmeehpmdaa", sum := "201c08b7a12ca476d491a26ac2b35167cf09e4f40e14848335713dedef5b3181", func := "loop.example/pinfold/laws.FnExactPairCut", spec := "fnExactPairCut", unfollowed := true, recurses := true, apart := false }
def FnExactPairCutSaid : Prop := fnExactPairCutRow.holds Try.pinned (OpenSpec.ofChange fnExactPairCutSpec)

/-- ITS FALSE NEIGHBOUR: 'it returns false'. Refute it at one input. -/
def fnExactPairCutWrong : ChangeSpec := { name := "fnExactPairCut", fn := fun _ => fun
  | [d1, d2, d3] => { results := [.lit (.bool false)], args := [d1, d2, d3] }
  | _ => none }
def FnExactPairCutWrongFalsely : Prop := fnExactPairCutRow.holds Try.pinned (OpenSpec.ofChange fnExactPairCutWrong)

/-- 'laws.FnExactPairLess': WHATEVER THE INPUT: true; the input reads as it did. -/
def fnExactPairLessSpec : ChangeSpec := { name := "fnExactPairLess", fn := fun _ => fun
  | [d] => { results := [.lit (.bool true)], args := [d] }
  | _ => none }
def fnExactPairLessRow : OpenClaim := { program := "ytpdigbmeehpmdaa", sum := "201c08b7a12ca476d491a26ac2b35167cf09e4f40e14848335713dedef5b3181", func := "loop.example/pinfold/laws.FnExactPairLess", spec := "fnExactPairLess", inPlace := ["math.Float32frombits", "math.Float64bits", "math.Float64frombits", "math.Float32bits"], unfollowed := true, recurses := true, apart := false }
def FnExactPairLessSaid : Prop := fnExactPairLessRow.holds Try.pinned (OpenSpec.ofChange fnExactPairLessSpec)

/-- ITS FALSE NEIGHBOUR: 'it returns false'. Refute it at one input. -/
def fnExactPairLessWrong : ChangeSpec := { name := "fnExactPairLess", fn := fun _ => fun
  | [d] => { results := [.lit (.bool false)], args := [d] }
  | _ => none }
def FnExactPairLessWrongFalsely : Prop := fnExactPairLessRow.holds Try.pinned (OpenSpec.ofChange fnExactPairLessWrong)

/-- 'laws.FnExactPairMore': WHATEVER THE INPUT: true; the input reads as it did. -/
def fnExactPairMoreSpec : ChangeSpec := { name := "fnExactPairMore", fn := fun _ => fun
  | [d] => { results := [.lit (.bool true)], args := [d] }
  | _ => none }
def fnExactPairMoreRow : OpenClaim := { program := "ytpdigbmeehpmdaa", sum := "201c08b7a12ca476d491a26ac2b35167cf09e4f40e14848335713dedef5b3181", func := "loop.example/pinfold/laws.FnExactPairMore", spec := "fnExactPairMore", inPlace := ["math.Float32frombits", "math.Float64bits"], unfollowed := true, recurses := true, apart := false }
def FnExactPairMoreSaid : Prop := fnExactPairMoreRow.holds Try.pinned (OpenSpec.ofChange fnExactPairMoreSpec)

/-- ITS FALSE NEIGHBOUR: 'it returns false'. Refute it at one input. -/
def fnExactPairMoreWrong : ChangeSpec := { name := "fnExactPairMore", fn := fun _ => fun
  | [d] => { results := [.lit (.bool false)], args := [d] }
  | _ => none }
def FnExactPairMoreWrongFalsely : Prop := fnExactPairMoreRow.holds Try.pinned (OpenSpec.ofChange fnExactPairMoreWrong)

/-- 'laws.FnExactBoxOk': WHATEVER THE INPUT: true; the input reads as it did. -/
def fnExactBoxOkSpec : ChangeSpec := { name := "fnExactBoxOk", fn := fun _ => fun
  | [d1, d2] => { results := [.lit (.bool true)], args := [d1, d2] }
  | _ => none }
def fnExactBoxOkRow : OpenClaim := { program := "ytpdigbmeehpmdaa", sum := "201c08b7a12ca476d491a26ac2b35167cf09e4f40e14848335713dedef5b3181", func := "loop.example/pinfold/laws.FnExactBoxOk", spec := "fnExactBoxOk", unfollowed := true, recurses := true, apart := false }
def FnExactBoxOkSaid : Prop := fnExactBoxOkRow.holds Try.pinned (OpenSpec.ofChange fnExactBoxOkSpec)

/-- ITS FALSE NEIGHBOUR: 'it returns false'. Refute it at one input. -/
def fnExactBoxOkWrong : ChangeSpec := { name := "fnExactBoxOk", fn := fun _ => fun
  | [d1, d2] => { results := [.lit (.bool false)], args := [d1, d2] }
  | _ => none }
def FnExactBoxOkWrongFalsely : Prop := fnExactBoxOkRow.holds Try.pinned (OpenSpec.ofChange fnExactBoxOkWrong)

/-- 'laws.FnExactBoxBits': WHATEVER THE INPUT: true; the input reads as it did. -/
def fnExactBoxBitsSpec : ChangeSpec := { name := "fnExactBoxBits", fn := fun _ => fun
  | [d1, d2] => { results := [.lit (.bool true)], args := [d1, d2] }
  | _ => none }
def fnExactBoxBitsRow : OpenClaim := { program := "ytpdigbmeehpmdaa", sum := "201c08b7a12ca476d491a26ac2b35167cf09e4f40e14848335713dedef5b3181", func := "loop.example/pinfold/laws.FnExactBoxBits", spec := "fnExactBoxBits", unfollowed := true, recurses := true, apart := false }
def FnExactBoxBitsSaid : Prop := fnExactBoxBitsRow.holds Try.pinned (OpenSpec.ofChange fnExactBoxBitsSpec)

/-- ITS FALSE NEIGHBOUR: 'it returns false'. Refute it at one input. -/
def fnExactBoxBitsWrong : ChangeSpec := { name := "fnExactBoxBits", fn := fun _ => fun
  | [d1, d2] => { results := [.lit (.bool false)], args := [d1, d2] }
  | _ => none }
def FnExactBoxBitsWrongFalsely : Prop := fnExactBoxBitsRow.holds Try.pinned (OpenSpec.ofChange fnExactBoxBitsWrong)

/-- 'laws.FnExactBoxIs': WHATEVER THE INPUT: true; the input reads as it did. -/
def fnExactBoxIsSpec : ChangeSpec := { name := "fnExactBoxIs", fn := fun _ => fun
  | [d1, d2] => { results := [.lit (.bool true)], args := [d1, d2] }
  | _ => none }
def fnExactBoxIsRow : OpenClaim := { program := "ytpdigbmeehpmdaa", sum := "201c08b7a12ca476d491a26ac2b35167cf09e4f40e14848335713dedef5b3181", func := "loop.example/pinfold/laws.FnExactBoxIs", spec := "fnExactBoxIs", unfollowed := true, recurses := true, apart := false }
def FnExactBoxIsSaid : Prop := fnExactBoxIsRow.holds Try.pinned (OpenSpec.ofChange fnExactBoxIsSpec)

/-- ITS FALSE NEIGHBOUR: 'it returns false'. Refute it at one input. -/
def fnExactBoxIsWrong : ChangeSpec := { name := "fnExactBoxIs", fn := fun _ => fun
  | [d1, d2] => { results := [.lit (.bool false)], args := [d1, d2] }
  | _ => none }
def FnExactBoxIsWrongFalsely : Prop := fnExactBoxIsRow.holds Try.pinned (OpenSpec.ofChange fnExactBoxIsWrong)

/-- 'laws.FnExactBoxMeet': WHATEVER THE INPUT: true; the input reads as it did. -/
def fnExactBoxMeetSpec : ChangeSpec := { name := "fnExactBoxMeet", fn := fun _ => fun
  | [d1, d2, d3] => { results := [.lit (.bool true)], args := [d1, d2, d3] }
  | _ => none }
def fnExactBoxMeetRow : OpenClaim := { program := "ytpdigbmeehpmdaa", sum := "201c08b7a12ca476d491a26ac2b35167cf09e4f40e14848335713dedef5b3181", func := "loop.example/pinfold/laws.FnExactBoxMeet", spec := "fnExactBoxMeet", unfollowed := true, recurses := true, apart := false }
def FnExactBoxMeetSaid : Prop := fnExactBoxMeetRow.holds Try.pinned (OpenSpec.ofChange fnExactBoxMeetSpec)

/-- ITS FALSE NEIGHBOUR: 'it returns false'. Refute it at one input. -/
def fnExactBoxMeetWrong : ChangeSpec := { name := "fnExactBoxMeet", fn := fun _ => fun
  | [d1, d2, d3] => { results := [.lit (.bool false)], args := [d1, d2, d3] }
  | _ => none }
def FnExactBoxMeetWrongFalsely : Prop := fnExactBoxMeetRow.holds Try.pinned (OpenSpec.ofChange fnExactBoxMeetWrong)

/-- 'laws.FnExactBoxFine': WHATEVER THE INPUT: true; the input reads as it did. -/
def fnExactBoxFineSpec : ChangeSpec := { name := "fnExactBoxFine", fn := fun _ => fun
  | [d1, d2, d3] => { results := [.lit (.bool true)], args := [d1, d2, d3] }
  | _ => none }
def fnExactBoxFineRow : OpenClaim := { program := "ytpdigbmeehpmdaa", sum := "201c08b7a12ca476d491a26ac2b35167cf09e4f40e14848335713dedef5b3181", func := "loop.example/pinfold/laws.FnExactBoxFine", spec := "fnExactBoxFine", unfollowed := true, recurses := true, apart := false }
def FnExactBoxFineSaid : Prop := fnExactBoxFineRow.holds Try.pinned (OpenSpec.ofChange fnExactBoxFineSpec)

/-- ITS FALSE NEIGHBOUR: 'it returns false'. Refute it at one input. -/
def fnExactBoxFineWrong : ChangeSpec := { name := "fnExactBoxFine", fn := fun _ => fun
  | [d1, d2, d3] => { results := [.lit (.bool false)], args := [d1, d2, d3] }
  | _ => none }
def FnExactBoxFineWrongFalsely : Prop := fnExactBoxFineRow.holds Try.pinned (OpenSpec.ofChange fnExactBoxFineWrong)

/-- 'laws.FnExactBoxWidest': WHATEVER THE INPUT: true; the input reads as it did. -/
def fnExactBoxWidestSpec : ChangeSpec := { name := "fnExactBoxWidest", fn := fun _ => fun
  | [d1, d2] => { results := [.lit (.bool true)], args := [d1, d2] }
  | _ => none }
def fnExactBoxWidestRow : OpenClaim := { program := "ytpdigbmeehpmdaa", sum := "201c08b7a12ca476d491a26ac2b35167cf09e4f40e14848335713dedef5b3181", func := "loop.example/pinfold/laws.FnExactBoxWidest", spec := "fnExactBoxWidest", unfollowed := true, recurses := true, apart := false }
def FnExactBoxWidestSaid : Prop := fnExactBoxWidestRow.holds Try.pinned (OpenSpec.ofChange fnExactBoxWidestSpec)

/-- ITS FALSE NEIGHBOUR: 'it returns false'. Refute it at one input. -/
def fnExactBoxWidestWrong : ChangeSpec := { name := "fnExactBoxWidest", fn := fun _ => fun
  | [d1, d2] => { results := [.lit (.bool false)], args := [d1, d2] }
  | _ => none }
def FnExactBoxWidestWrongFalsely : Prop := fnExactBoxWidestRow.holds Try.pinned (OpenSpec.ofChange fnExactBoxWidestWrong)

/-- 'laws.FnExactBoxHalved': WHATEVER THE INPUT: true; the input reads as it did. -/
def fnExactBoxHalvedSpec : ChangeSpec := { name := "fnExactBoxHalved", fn := fun _ => fun
  | [d1, d2, d3] => { results := [.lit (.bool true)], args := [d1, d2, d3] }
  | _ => none }
def fnExactBoxHalvedRow : OpenClaim := { program := "ytpdigbmeehpmdaa", sum := "201c08b7a12ca476d491a26ac2b35167cf09e4f40e14848335713dedef5b3181", func := "loop.example/pinfold/laws.FnExactBoxHalved", spec := "fnExactBoxHalved", unfollowed := true, recurses := true, apart := false }
def FnExactBoxHalvedSaid : Prop := fnExactBoxHalvedRow.holds Try.pinned (OpenSpec.ofChange fnExactBoxHalvedSpec)

/-- ITS FALSE NEIGHBOUR: 'it returns false'. Refute it at one input. -/
def fnExactBoxHalvedWrong : ChangeSpec := { name := "fnExactBoxHalved", fn := fun _ => fun
  | [d1, d2, d3] => { results := [.lit (.bool false)], args := [d1, d2, d3] }
  | _ => none }
def FnExactBoxHalvedWrongFalsely : Prop := fnExactBoxHalvedRow.holds Try.pinned (OpenSpec.ofChange fnExactBoxHalvedWrong)

/-- 'laws.FnExactBoxSplit': WHATEVER THE INPUT: true; the input reads as it did. -/
def fnExactBoxSplitSpec : ChangeSpec := { name := "fnExactBoxSplit", fn := fun _ => fun
  | [d1, d2, d3] => { results := [.lit (.bool true)], args := [d1, d2, d3] }
  | _ => none }
def fnExactBoxSplitRow : OpenClaim := { program := "ytpdigbmeehpmdaa", sum := "201c08b7a12ca476d491a26ac2b35167cf09e4f40e14848335713dedef5b3181", func := "loop.example/pinfold/laws.FnExactBoxSplit", spec := "fnExactBoxSplit", unfollowed := true, recurses := true, apart := false }
def FnExactBoxSplitSaid : Prop := fnExactBoxSplitRow.holds Try.pinned (OpenSpec.ofChange fnExactBoxSplitSpec)

/-- ITS FALSE NEIGHBOUR: 'it returns false'. Refute it at one input. -/
def fnExactBoxSplitWrong : ChangeSpec := { name := "fnExactBoxSplit", fn := fun _ => fun
  | [d1, d2, d3] => { results := [.lit (.bool false)], args := [d1, d2, d3] }
  | _ => none }
def FnExactBoxSplitWrongFalsely : Prop := fnExactBoxSplitRow.holds Try.pinned (OpenSpec.ofChange fnExactBoxSplitWrong)

/-- 'laws.FnExactBoxCut': WHATEVER THE INPUT: true; the input reads as it did. -/
def fnExactBoxCutSpec : ChangeSpec := { name := "fnExactBoxCut", fn := fun _ => fun
  | [d1, d2, d3, d4] => { results := [.lit (.bool true)], args := [d1, d2, d3, d4] }
  | _ => none }
def fnExactBoxCutRow : OpenClaim := { program := "ytpdigbmeehpmdaa", sum := "201c08b7a12ca476d491a26ac2b35167cf09e4f40e14848335713dedef5b3181", func := "loop.example/pinfold/laws.FnExactBoxCut", spec := "fnExactBoxCut", unfollowed := true, recurses := true, apart := false }
def FnExactBoxCutSaid : Prop := fnExactBoxCutRow.holds Try.pinned (OpenSpec.ofChange fnExactBoxCutSpec)

/-- ITS FALSE NEIGHBOUR: 'it returns false'. Refute it at one input. -/
def fnExactBoxCutWrong : ChangeSpec := { name := "fnExactBoxCut", fn := fun _ => fun
  | [d1, d2, d3, d4] => { results := [.lit (.bool false)], args := [d1, d2, d3, d4] }
  | _ => none }
def FnExactBoxCutWrongFalsely : Prop := fnExactBoxCutRow.holds Try.pinned (OpenSpec.ofChange fnExactBoxCutWrong)

/-- 'laws.FnExactBoxUnits': WHATEVER THE INPUT: true; the input reads as it did. -/
def fnExactBoxUnitsSpec : ChangeSpec := { name := "fnExactBoxUnits", fn := fun _ => fun
  | [d1, d2] => { results := [.lit (.bool true)], args := [d1, d2] }
  | _ => none }
def fnExactBoxUnitsRow : OpenClaim := { program := "ytpdigbmeehpmdaa", sum := "201c08b7a12ca476d491a26ac2b35167cf09e4f40e14848335713dedef5b3181", func := "loop.example/pinfold/laws.FnExactBoxUnits", spec := "fnExactBoxUnits", unfollowed := true, recurses := true, apart := false }
def FnExactBoxUnitsSaid : Prop := fnExactBoxUnitsRow.holds Try.pinned (OpenSpec.ofChange fnExactBoxUnitsSpec)

/-- ITS FALSE NEIGHBOUR: 'it returns false'. Refute it at one input. -/
def fnExactBoxUnitsWrong : ChangeSpec := { name := "fnExactBoxUnits", fn := fun _ => fun
  | [d1, d2] => { results := [.lit (.bool false)], args := [d1, d2] }
  | _ => none }
def FnExactBoxUnitsWrongFalsely : Prop := fnExactBoxUnitsRow.holds Try.pinned (OpenSpec.ofChange fnExactBoxUnitsWrong)

/-- 'laws.FnExactBoxPath': WHATEVER THE INPUT: true; the input reads as it did. -/
def fnExactBoxPathSpec : ChangeSpec := { name := "fnExactBoxPath", fn := fun _ => fun
  | [d1, d2] => { results := [.lit (.bool true)], args := [d1, d2] }
  | _ => none }
def fnExactBoxPathRow : OpenClaim := { program := "ytpdigbmeehpmdaa", sum := "201c08b7a12ca476d491a26ac2b35167cf09e4f40e14848335713dedef5b3181", func := "loop.example/pinfold/laws.FnExactBoxPath", spec := "fnExactBoxPath", unfollowed := true, recurses := true, apart := false }
def FnExactBoxPathSaid : Prop := fnExactBoxPathRow.holds Try.pinned (OpenSpec.ofChange fnExactBoxPathSpec)

/-- ITS FALSE NEIGHBOUR: 'it returns false'. Refute it at one input. -/
def fnExactBoxPathWrong : ChangeSpec := { name := "fnExactBoxPath", fn := fun _ => fun
  | [d1, d2] => { results := [.lit (.bool false)], args := [d1, d2] }
  | _ => none }
def FnExactBoxPathWrongFalsely : Prop := fnExactBoxPathRow.holds Try.pinned (OpenSpec.ofChange fnExactBoxPathWrong)

/-- 'laws.FnExactBoxLess': WHATEVER THE INPUT: true; the input reads as it did. -/
def fnExactBoxLessSpec : ChangeSpec := { name := "fnExactBoxLess", fn := fun _ => fun
  | [d] => { results := [.lit (.bool true)], args := [d] }
  | _ => none }
def fnExactBoxLessRow : OpenClaim := { program := "ytpdigbmeehpmdaa", sum := "201c08b7a12ca476d491a26ac2b35167cf09e4f40e14848335713dedef5b3181", func := "loop.example/pinfold/laws.FnExactBoxLess", spec := "fnExactBoxLess", inPlace := ["math.Float32frombits", "math.Float64bits", "math.Float64frombits", "math.Float32bits"], unfollowed := true, recurses := true, apart := false }
def FnExactBoxLessSaid : Prop := fnExactBoxLessRow.holds Try.pinned (OpenSpec.ofChange fnExactBoxLessSpec)

/-- ITS FALSE NEIGHBOUR: 'it returns false'. Refute it at one input. -/
def fnExactBoxLessWrong : ChangeSpec := { name := "fnExactBoxLess", fn := fun _ => fun
  | [d] => { results := [.lit (.bool false)], args := [d] }
  | _ => none }
def FnExactBoxLessWrongFalsely : Prop := fnExactBoxLessRow.holds Try.pinned (OpenSpec.ofChange fnExactBoxLessWrong)

/-- 'laws.FnExactBoxMore': WHATEVER THE INPUT: true; the input reads as it did. -/
def fnExactBoxMoreSpec : ChangeSpec := { name := "fnExactBoxMore", fn := fun _ => fun
  | [d] => { results := [.lit (.bool true)], args := [d] }
  | _ => none }
def fnExactBoxMoreRow : OpenClaim := { program := "ytpdigbmeehpmdaa", sum := "201c08b7a12ca476d491a26ac2b35167cf09e4f40e14848335713dedef5b3181", func := "loop.example/pinfold/laws.FnExactBoxMore", spec := "fnExactBoxMore", inPlace := ["math.Float32frombits", "math.Float64bits"], unfollowed := true, recurses := true, apart := false }
def FnExactBoxMoreSaid : Prop := fnExactBoxMoreRow.holds Try.pinned (OpenSpec.ofChange fnExactBoxMoreSpec)

/-- ITS FALSE NEIGHBOUR: 'it returns false'. Refute it at one input. -/
def fnExactBoxMoreWrong : ChangeSpec := { name := "fnExactBoxMore", fn := fun _ => fun
  | [d] => { results := [.lit (.bool false)], args := [d] }
  | _ => none }
def FnExactBoxMoreWrongFalsely : Prop := fnExactBoxMoreRow.holds Try.pinned (OpenSpec.ofChange fnExactBoxMoreWrong)

/- THE SECOND FORM. 'bulk': how many values and letters a reading holds, each counted each time it is reached (what is shared counts as often as it is met; a slice's spare places count too). A statement '..UptoSaid' is the law's where the arguments, and the package variables that the reading takes, are together of bulk at most 1048576: NARROWER than '..Said'. Prove '..Said' where nothing that the law and all that it calls make is longer than what came in: it says more and counts as full. Else prove '..UptoSaid'. A law counts once. -/
mutual
def uptoBulk {H : Type} : DataW H → Nat
  | .lit (.string bytes) => bytes.length + 1
  | .lit _ => 1
  | .nil => 1
  | .ptr d => uptoBulk d + 1
  | .slice elems spare => uptoBulkAll elems + uptoBulkAll spare + 1
  | .agg parts => uptoBulkAll parts + 1
  | .iface _ d => uptoBulk d + 1
  | .map entries => uptoBulkEntries entries + 1
  | .held _ => 1
def uptoBulkAll {H : Type} : List (DataW H) → Nat
  | [] => 0
  | d :: r => uptoBulk d + uptoBulkAll r
def uptoBulkEntries {H : Type} : List (Lit × DataW H) → Nat
  | [] => 0
  | x :: r => uptoBulkEntry x + uptoBulkEntries r
def uptoBulkEntry {H : Type} : Lit × DataW H → Nat
  | (.string bytes, d) => bytes.length + uptoBulk d + 1
  | (_, d) => uptoBulk d + 1
 end
def uptoSmall : (H : Type) → List (DataW H) → Bool := fun _ ds => decide (uptoBulkAll ds ≤ 1048576)
def OpenSpec.upto (s : _root_.Go.ChangeSpec) : _root_.Go.OpenSpec := { _root_.Go.OpenSpec.ofChange s with cond := some uptoSmall }

/-- 'laws.FnBitTop', WHERE WHAT IT READS IS OF BULK AT MOST 1048576: true; the input reads as it did. -/
def fnBitTopUptoRow : OpenClaim := { program := "ytpdigbmeehpmdaa", sum := "201c08b7a12ca476d491a26ac2b35167cf09e4f40e14848335713dedef5b3181", func := "loop.example/pinfold/laws.FnBitTop", spec := "fnBitTop", unfollowed := true, recurses := true, apart := false, narrowed := true }
def FnBitTopUptoSaid : Prop := fnBitTopUptoRow.holds Try.pinned (OpenSpec.upto fnBitTopSpec)

/-- 'laws.FnPairSplit', WHERE WHAT IT READS IS OF BULK AT MOST 1048576: true; the input reads as it did. -/
def fnPairSplitUptoRow : OpenClaim := { program := "ytpdigbmeehpmdaa", sum := "201c08b7a12ca476d491a26ac2b35167cf09e4f40e14848335713dedef5b3181", func := "loop.example/pinfold/laws.FnPairSplit", spec := "fnPairSplit", unfollowed := true, recurses := true, apart := false, narrowed := true }
def FnPairSplitUptoSaid : Prop := fnPairSplitUptoRow.holds Try.pinned (OpenSpec.upto fnPairSplitSpec)

/-- 'laws.FnPairCut', WHERE WHAT IT READS IS OF BULK AT MOST 1048576: true; the input reads as it did. -/
def fnPairCutUptoRow : OpenClaim := { program := "ytpdigbmeehpmdaa", sum := "201c08b7a12ca476d491a26ac2b35167cf09e4f40e14848335713dedef5b3181", func := "loop.example/pinfold/laws.FnPairCut", spec := "fnPairCut", unfollowed := true, recurses := true, apart := false, narrowed := true }
def FnPairCutUptoSaid : Prop := fnPairCutUptoRow.holds Try.pinned (OpenSpec.upto fnPairCutSpec)

/-- 'laws.FnPairMeet', WHERE WHAT IT READS IS OF BULK AT MOST 1048576: true; the input reads as it did. -/
def fnPairMeetUptoRow : OpenClaim := { program := "ytpdigbmeehpmdaa", sum := "201c08b7a12ca476d491a26ac2b35167cf09e4f40e14848335713dedef5b3181", func := "loop.example/pinfold/laws.FnPairMeet", spec := "fnPairMeet", unfollowed := true, recurses := true, apart := false, narrowed := true }
def FnPairMeetUptoSaid : Prop := fnPairMeetUptoRow.holds Try.pinned (OpenSpec.upto fnPairMeetSpec)

/-- 'laws.FnBoxUnits', WHERE WHAT IT READS IS OF BULK AT MOST 1048576: true; the input reads as it did. -/
def fnBoxUnitsUptoRow : OpenClaim := { program := "ytpdigbmeehpmdaa", sum := "201c08b7a12ca476d491a26ac2b35167cf09e4f40e14848335713dedef5b3181", func := "loop.example/pinfold/laws.FnBoxUnits", spec := "fnBoxUnits", unfollowed := true, recurses := true, apart := false, narrowed := true }
def FnBoxUnitsUptoSaid : Prop := fnBoxUnitsUptoRow.holds Try.pinned (OpenSpec.upto fnBoxUnitsSpec)

/-- 'laws.FnBoxWithin', WHERE WHAT IT READS IS OF BULK AT MOST 1048576: true; the input reads as it did. -/
def fnBoxWithinUptoRow : OpenClaim := { program := "ytpdigbmeehpmdaa", sum := "201c08b7a12ca476d491a26ac2b35167cf09e4f40e14848335713dedef5b3181", func := "loop.example/pinfold/laws.FnBoxWithin", spec := "fnBoxWithin", unfollowed := true, recurses := true, apart := false, narrowed := true }
def FnBoxWithinUptoSaid : Prop := fnBoxWithinUptoRow.holds Try.pinned (OpenSpec.upto fnBoxWithinSpec)

/-- 'laws.FnBoxNarrow', WHERE WHAT IT READS IS OF BULK AT MOST 1048576: true; the input reads as it did. -/
def fnBoxNarrowUptoRow : OpenClaim := { program := "ytpdigbmeehpmdaa", sum := "201c08b7a12ca476d491a26ac2b35167cf09e4f40e14848335713dedef5b3181", func := "loop.example/pinfold/laws.FnBoxNarrow", spec := "fnBoxNarrow", inPlace := ["math.Float32frombits", "math.Float64bits", "math.Float64frombits", "math.Float32bits"], unfollowed := true, recurses := true, apart := false, narrowed := true }
def FnBoxNarrowUptoSaid : Prop := fnBoxNarrowUptoRow.holds Try.pinned (OpenSpec.upto fnBoxNarrowSpec)

/-- 'laws.FnExactPairOk', WHERE WHAT IT READS IS OF BULK AT MOST 1048576: true; the input reads as it did. -/
def fnExactPairOkUptoRow : OpenClaim := { program := "ytpdigbmeehpmdaa", sum := "201c08b7a12ca476d491a26ac2b35167cf09e4f40e14848335713dedef5b3181", func := "loop.example/pinfold/laws.FnExactPairOk", spec := "fnExactPairOk", unfollowed := true, recurses := true, apart := false, narrowed := true }
def FnExactPairOkUptoSaid : Prop := fnExactPairOkUptoRow.holds Try.pinned (OpenSpec.upto fnExactPairOkSpec)

/-- 'laws.FnExactPairIs', WHERE WHAT IT READS IS OF BULK AT MOST 1048576: true; the input reads as it did. -/
def fnExactPairIsUptoRow : OpenClaim := { program := "ytpdigbmeehpmdaa", sum := "201c08b7a12ca476d491a26ac2b35167cf09e4f40e14848335713dedef5b3181", func := "loop.example/pinfold/laws.FnExactPairIs", spec := "fnExactPairIs", apart := false, narrowed := true }
def FnExactPairIsUptoSaid : Prop := fnExactPairIsUptoRow.holds Try.pinned (OpenSpec.upto fnExactPairIsSpec)

/-- 'laws.FnExactPairMeet', WHERE WHAT IT READS IS OF BULK AT MOST 1048576: true; the input reads as it did. -/
def fnExactPairMeetUptoRow : OpenClaim := { program := "ytpdigbmeehpmdaa", sum := "201c08b7a12ca476d491a26ac2b35167cf09e4f40e14848335713dedef5b3181", func := "loop.example/pinfold/laws.FnExactPairMeet", spec := "fnExactPairMeet", unfollowed := true, recurses := true, apart := false, narrowed := true }
def FnExactPairMeetUptoSaid : Prop := fnExactPairMeetUptoRow.holds Try.pinned (OpenSpec.upto fnExactPairMeetSpec)

/-- 'laws.FnExactPairHull', WHERE WHAT IT READS IS OF BULK AT MOST 1048576: true; the input reads as it did. -/
def fnExactPairHullUptoRow : OpenClaim := { program := "ytpdigbmeehpmdaa", sum := "201c08b7a12ca476d491a26ac2b35167cf09e4f40e14848335713dedef5b3181", func := "loop.example/pinfold/laws.FnExactPairHull", spec := "fnExactPairHull", unfollowed := true, recurses := true, apart := false, narrowed := true }
def FnExactPairHullUptoSaid : Prop := fnExactPairHullUptoRow.holds Try.pinned (OpenSpec.upto fnExactPairHullSpec)

/-- 'laws.FnExactPairSplit', WHERE WHAT IT READS IS OF BULK AT MOST 1048576: true; the input reads as it did. -/
def fnExactPairSplitUptoRow : OpenClaim := { program := "ytpdigbmeehpmdaa", sum := "201c08b7a12ca476d491a26ac2b35167cf09e4f40e14848335713dedef5b3181", func := "loop.example/pinfold/laws.FnExactPairSplit", spec := "fnExactPairSplit", unfollowed := true, recurses := true, apart := false, narrowed := true }
def FnExactPairSplitUptoSaid : Prop := fnExactPairSplitUptoRow.holds Try.pinned (OpenSpec.upto fnExactPairSplitSpec)

/-- 'laws.FnExactPairCut', WHERE WHAT IT READS IS OF BULK AT MOST 1048576: true; the input reads as it did. -/
def fnExactPairCutUptoRow : OpenClaim := { program := "ytpdigbmeehpmdaa", sum := "201c08b7a12ca476d491a26ac2b35167cf09e4f40e14848335713dedef5b3181", func := "loop.example/pinfold/laws.FnExactPairCut", spec := "fnExactPairCut", unfollowed := true, recurses := true, apart := false, narrowed := true }
def FnExactPairCutUptoSaid : Prop := fnExactPairCutUptoRow.holds Try.pinned (OpenSpec.upto fnExactPairCutSpec)

/-- 'laws.FnExactPairLess', WHERE WHAT IT READS IS OF BULK AT MOST 1048576: true; the input reads as it did. -/
def fnExactPairLessUptoRow : OpenClaim := { program := "ytpdigbmeehpmdaa", sum := "201c08b7a12ca476d491a26ac2b35167cf09e4f40e14848335713dedef5b3181", func := "loop.example/pinfold/laws.FnExactPairLess", spec := "fnExactPairLess", inPlace := ["math.Float32frombits", "math.Float64bits", "math.Float64frombits", "math.Float32bits"], unfollowed := true, recurses := true, apart := false, narrowed := true }
def FnExactPairLessUptoSaid : Prop := fnExactPairLessUptoRow.holds Try.pinned (OpenSpec.upto fnExactPairLessSpec)

/-- 'laws.FnExactPairMore', WHERE WHAT IT READS IS OF BULK AT MOST 1048576: true; the input reads as it did. -/
def fnExactPairMoreUptoRow : OpenClaim := { program := "ytpdigbmeehpmdaa", sum := "201c08b7a12ca476d491a26ac2b35167cf09e4f40e14848335713dedef5b3181", func := "loop.example/pinfold/laws.FnExactPairMore", spec := "fnExactPairMore", inPlace := ["math.Float32frombits", "math.Float64bits"], unfollowed := true, recurses := true, apart := false, narrowed := true }
def FnExactPairMoreUptoSaid : Prop := fnExactPairMoreUptoRow.holds Try.pinned (OpenSpec.upto fnExactPairMoreSpec)

/-- 'laws.FnExactBoxOk', WHERE WHAT IT READS IS OF BULK AT MOST 1048576: true; the input reads as it did. -/
def fnExactBoxOkUptoRow : OpenClaim := { program := "ytpdigbmeehpmdaa", sum := "201c08b7a12ca476d491a26ac2b35167cf09e4f40e14848335713dedef5b3181", func := "loop.example/pinfold/laws.FnExactBoxOk", spec := "fnExactBoxOk", unfollowed := true, recurses := true, apart := false, narrowed := true }
def FnExactBoxOkUptoSaid : Prop := fnExactBoxOkUptoRow.holds Try.pinned (OpenSpec.upto fnExactBoxOkSpec)

/-- 'laws.FnExactBoxBits', WHERE WHAT IT READS IS OF BULK AT MOST 1048576: true; the input reads as it did. -/
def fnExactBoxBitsUptoRow : OpenClaim := { program := "ytpdigbmeehpmdaa", sum := "201c08b7a12ca476d491a26ac2b35167cf09e4f40e14848335713dedef5b3181", func := "loop.example/pinfold/laws.FnExactBoxBits", spec := "fnExactBoxBits", unfollowed := true, recurses := true, apart := false, narrowed := true }
def FnExactBoxBitsUptoSaid : Prop := fnExactBoxBitsUptoRow.holds Try.pinned (OpenSpec.upto fnExactBoxBitsSpec)

/-- 'laws.FnExactBoxIs', WHERE WHAT IT READS IS OF BULK AT MOST 1048576: true; the input reads as it did. -/
def fnExactBoxIsUptoRow : OpenClaim := { program := "ytpdigbmeehpmdaa", sum := "201c08b7a12ca476d491a26ac2b35167cf09e4f40e14848335713dedef5b3181", func := "loop.example/pinfold/laws.FnExactBoxIs", spec := "fnExactBoxIs", unfollowed := true, recurses := true, apart := false, narrowed := true }
def FnExactBoxIsUptoSaid : Prop := fnExactBoxIsUptoRow.holds Try.pinned (OpenSpec.upto fnExactBoxIsSpec)

/-- 'laws.FnExactBoxMeet', WHERE WHAT IT READS IS OF BULK AT MOST 1048576: true; the input reads as it did. -/
def fnExactBoxMeetUptoRow : OpenClaim := { program := "ytpdigbmeehpmdaa", sum := "201c08b7a12ca476d491a26ac2b35167cf09e4f40e14848335713dedef5b3181", func := "loop.example/pinfold/laws.FnExactBoxMeet", spec := "fnExactBoxMeet", unfollowed := true, recurses := true, apart := false, narrowed := true }
def FnExactBoxMeetUptoSaid : Prop := fnExactBoxMeetUptoRow.holds Try.pinned (OpenSpec.upto fnExactBoxMeetSpec)

/-- 'laws.FnExactBoxFine', WHERE WHAT IT READS IS OF BULK AT MOST 1048576: true; the input reads as it did. -/
def fnExactBoxFineUptoRow : OpenClaim := { program := "ytpdigbmeehpmdaa", sum := "201c08b7a12ca476d491a26ac2b35167cf09e4f40e14848335713dedef5b3181", func := "loop.example/pinfold/laws.FnExactBoxFine", spec := "fnExactBoxFine", unfollowed := true, recurses := true, apart := false, narrowed := true }
def FnExactBoxFineUptoSaid : Prop := fnExactBoxFineUptoRow.holds Try.pinned (OpenSpec.upto fnExactBoxFineSpec)

/-- 'laws.FnExactBoxWidest', WHERE WHAT IT READS IS OF BULK AT MOST 1048576: true; the input reads as it did. -/
def fnExactBoxWidestUptoRow : OpenClaim := { program := "ytpdigbmeehpmdaa", sum := "201c08b7a12ca476d491a26ac2b35167cf09e4f40e14848335713dedef5b3181", func := "loop.example/pinfold/laws.FnExactBoxWidest", spec := "fnExactBoxWidest", unfollowed := true, recurses := true, apart := false, narrowed := true }
def FnExactBoxWidestUptoSaid : Prop := fnExactBoxWidestUptoRow.holds Try.pinned (OpenSpec.upto fnExactBoxWidestSpec)

/-- 'laws.FnExactBoxHalved', WHERE WHAT IT READS IS OF BULK AT MOST 1048576: true; the input reads as it did. -/
def fnExactBoxHalvedUptoRow : OpenClaim := { program := "ytpdigbmeehpmdaa", sum := "201c08b7a12ca476d491a26ac2b35167cf09e4f40e14848335713dedef5b3181", func := "loop.example/pinfold/laws.FnExactBoxHalved", spec := "fnExactBoxHalved", unfollowed := true, recurses := true, apart := false, narrowed := true }
def FnExactBoxHalvedUptoSaid : Prop := fnExactBoxHalvedUptoRow.holds Try.pinned (OpenSpec.upto fnExactBoxHalvedSpec)

/-- 'laws.FnExactBoxSplit', WHERE WHAT IT READS IS OF BULK AT MOST 1048576: true; the input reads as it did. -/
def fnExactBoxSplitUptoRow : OpenClaim := { program := "ytpdigbmeehpmdaa", sum := "201c08b7a12ca476d491a26ac2b35167cf09e4f40e14848335713dedef5b3181", func := "loop.example/pinfold/laws.FnExactBoxSplit", spec := "fnExactBoxSplit", unfollowed := true, recurses := true, apart := false, narrowed := true }
def FnExactBoxSplitUptoSaid : Prop := fnExactBoxSplitUptoRow.holds Try.pinned (OpenSpec.upto fnExactBoxSplitSpec)

/-- 'laws.FnExactBoxCut', WHERE WHAT IT READS IS OF BULK AT MOST 1048576: true; the input reads as it did. -/
def fnExactBoxCutUptoRow : OpenClaim := { program := "ytpdigbmeehpmdaa", sum := "201c08b7a12ca476d491a26ac2b35167cf09e4f40e14848335713dedef5b3181", func := "loop.example/pinfold/laws.FnExactBoxCut", spec := "fnExactBoxCut", unfollowed := true, recurses := true, apart := false, narrowed := true }
def FnExactBoxCutUptoSaid : Prop := fnExactBoxCutUptoRow.holds Try.pinned (OpenSpec.upto fnExactBoxCutSpec)

/-- 'laws.FnExactBoxUnits', WHERE WHAT IT READS IS OF BULK AT MOST 1048576: true; the input reads as it did. -/
def fnExactBoxUnitsUptoRow : OpenClaim := { program := "ytpdigbmeehpmdaa", sum := "201c08b7a12ca476d491a26ac2b35167cf09e4f40e14848335713dedef5b3181", func := "loop.example/pinfold/laws.FnExactBoxUnits", spec := "fnExactBoxUnits", unfollowed := true, recurses := true, apart := false, narrowed := true }
def FnExactBoxUnitsUptoSaid : Prop := fnExactBoxUnitsUptoRow.holds Try.pinned (OpenSpec.upto fnExactBoxUnitsSpec)

/-- 'laws.FnExactBoxPath', WHERE WHAT IT READS IS OF BULK AT MOST 1048576: true; the input reads as it did. -/
def fnExactBoxPathUptoRow : OpenClaim := { program := "ytpdigbmeehpmdaa", sum := "201c08b7a12ca476d491a26ac2b35167cf09e4f40e14848335713dedef5b3181", func := "loop.example/pinfold/laws.FnExactBoxPath", spec := "fnExactBoxPath", unfollowed := true, recurses := true, apart := false, narrowed := true }
def FnExactBoxPathUptoSaid : Prop := fnExactBoxPathUptoRow.holds Try.pinned (OpenSpec.upto fnExactBoxPathSpec)

/-- 'laws.FnExactBoxLess', WHERE WHAT IT READS IS OF BULK AT MOST 1048576: true; the input reads as it did. -/
def fnExactBoxLessUptoRow : OpenClaim := { program := "ytpdigbmeehpmdaa", sum := "201c08b7a12ca476d491a26ac2b35167cf09e4f40e14848335713dedef5b3181", func := "loop.example/pinfold/laws.FnExactBoxLess", spec := "fnExactBoxLess", inPlace := ["math.Float32frombits", "math.Float64bits", "math.Float64frombits", "math.Float32bits"], unfollowed := true, recurses := true, apart := false, narrowed := true }
def FnExactBoxLessUptoSaid : Prop := fnExactBoxLessUptoRow.holds Try.pinned (OpenSpec.upto fnExactBoxLessSpec)

/-- 'laws.FnExactBoxMore', WHERE WHAT IT READS IS OF BULK AT MOST 1048576: true; the input reads as it did. -/
def fnExactBoxMoreUptoRow : OpenClaim := { program := "ytpdigbmeehpmdaa", sum := "201c08b7a12ca476d491a26ac2b35167cf09e4f40e14848335713dedef5b3181", func := "loop.example/pinfold/laws.FnExactBoxMore", spec := "fnExactBoxMore", inPlace := ["math.Float32frombits", "math.Float64bits"], unfollowed := true, recurses := true, apart := false, narrowed := true }
def FnExactBoxMoreUptoSaid : Prop := fnExactBoxMoreUptoRow.holds Try.pinned (OpenSpec.upto fnExactBoxMoreSpec)

end Rows
end Go.Proofs.Ytpdigbmeehpmdaa
