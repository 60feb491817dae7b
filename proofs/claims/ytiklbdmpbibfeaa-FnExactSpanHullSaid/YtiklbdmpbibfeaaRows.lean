/-
  No cell of these rows narrows 'for every input' (looked for: loops, veiled, ifaces, maps, wideKeys, modest, calm, conditions, laid).
  DERIVED. THE GIVEN ROWS OF THIS SEAT. 4 by the template 'for every input the law returns true; each argument reads behind the call as it read before'; 0 by the template 'total and deterministic' (their statements: YtiklbdmpbibfeaaTotals.lean).
  GIVEN WITH THE SEED: the statements are not yours to turn. If you find one false, say at which input.
  Laid BY PROGRAM, IN A SANDBOX (cutbox-rows.mjs): the forced cells as the released guide's own fill.sh prints them over the translation 18948d187fe3d447… (all of the seat's roots in one cut). By AI agents, Wed Nov 11 2026. No macro, syntax, notation, axiom, sorry.
-/
import Derived.Test.YtiklbdmpbibfeaaChecked
import GoSem.Claim
import GoSem.ClaimJoined
import GoSem.ClaimMapViews
import Derived.JoinedTies
import Derived.KernelRfl
namespace Go.Proofs.Ytiklbdmpbibfeaa
/- THE CELL 'sum', in the pinned program and in every row, IS THE sha256 OF THE DUMP (.gsa) THAT YtiklbdmpbibfeaaProg.lean LOADS. Nothing in Lean hashes anything: it is a label: what it is worth is what the hold of that sum in a sandbox is worth. -/
noncomputable def Try.pinned : Pinned := { name := "ytiklbdmpbibfeaa", sum := "18948d187fe3d447fa1832a387ba87f98fc021a737220bafb6467272eef4cd60", checked := Try.checked }
namespace Rows
def none {H : Type} : Left H := { results := [], args := [] }

/-- 'laws.FnExactSpanOk': WHATEVER THE INPUT: true; the input reads as it did. -/
def fnExactSpanOkSpec : ChangeSpec := { name := "fnExactSpanOk", fn := fun _ => fun
  | [d1, d2] => { results := [.lit (.bool true)], args := [d1, d2] }
  | _ => none }
def fnExactSpanOkRow : OpenClaim := { program := "ytiklbdmpbibfeaa", sum := "18948d187fe3d447fa1832a387ba87f98fc021a737220bafb6467272eef4cd60", func := "loop.example/pinfold/laws.FnExactSpanOk", spec := "fnExactSpanOk", unfollowed := true, recurses := true, apart := false }
def FnExactSpanOkSaid : Prop := fnExactSpanOkRow.holds Try.pinned (OpenSpec.ofChange fnExactSpanOkSpec)

/-- ITS FALSE NEIGHBOUR: 'it returns false'. Refute it at one input. -/
def fnExactSpanOkWrong : ChangeSpec := { name := "fnExactSpanOk", fn := fun _ => fun
  | [d1, d2] => { results := [.lit (.bool false)], args := [d1, d2] }
  | _ => none }
def FnExactSpanOkWrongFalsely : Prop := fnExactSpanOkRow.holds Try.pinned (OpenSpec.ofChange fnExactSpanOkWrong)

/-- 'laws.FnExactSpanAll': WHATEVER THE INPUT: true; the input reads as it did. -/
def fnExactSpanAllSpec : ChangeSpec := { name := "fnExactSpanAll", fn := fun _ => fun
  | [d] => { results := [.lit (.bool true)], args := [d] }
  | _ => none }
def fnExactSpanAllRow : OpenClaim := { program := "ytiklbdmpbibfeaa", sum := "18948d187fe3d447fa1832a387ba87f98fc021a737220bafb6467272eef4cd60", func := "loop.example/pinfold/laws.FnExactSpanAll", spec := "fnExactSpanAll", unfollowed := true, recurses := true, apart := false }
def FnExactSpanAllSaid : Prop := fnExactSpanAllRow.holds Try.pinned (OpenSpec.ofChange fnExactSpanAllSpec)

/-- ITS FALSE NEIGHBOUR: 'it returns false'. Refute it at one input. -/
def fnExactSpanAllWrong : ChangeSpec := { name := "fnExactSpanAll", fn := fun _ => fun
  | [d] => { results := [.lit (.bool false)], args := [d] }
  | _ => none }
def FnExactSpanAllWrongFalsely : Prop := fnExactSpanAllRow.holds Try.pinned (OpenSpec.ofChange fnExactSpanAllWrong)

/-- 'laws.FnExactSpanHull': WHATEVER THE INPUT: true; the input reads as it did. -/
def fnExactSpanHullSpec : ChangeSpec := { name := "fnExactSpanHull", fn := fun _ => fun
  | [d1, d2, d3] => { results := [.lit (.bool true)], args := [d1, d2, d3] }
  | _ => none }
def fnExactSpanHullRow : OpenClaim := { program := "ytiklbdmpbibfeaa", sum := "18948d187fe3d447fa1832a387ba87f98fc021a737220bafb6467272eef4cd60", func := "loop.example/pinfold/laws.FnExactSpanHull", spec := "fnExactSpanHull", unfollowed := true, recurses := true, apart := false }
def FnExactSpanHullSaid : Prop := fnExactSpanHullRow.holds Try.pinned (OpenSpec.ofChange fnExactSpanHullSpec)

/-- ITS FALSE NEIGHBOUR: 'it returns false'. Refute it at one input. -/
def fnExactSpanHullWrong : ChangeSpec := { name := "fnExactSpanHull", fn := fun _ => fun
  | [d1, d2, d3] => { results := [.lit (.bool false)], args := [d1, d2, d3] }
  | _ => none }
def FnExactSpanHullWrongFalsely : Prop := fnExactSpanHullRow.holds Try.pinned (OpenSpec.ofChange fnExactSpanHullWrong)

/-- 'laws.FnExactDecOk': WHATEVER THE INPUT: true; the input reads as it did. -/
def fnExactDecOkSpec : ChangeSpec := { name := "fnExactDecOk", fn := fun _ => fun
  | [d] => { results := [.lit (.bool true)], args := [d] }
  | _ => none }
def fnExactDecOkRow : OpenClaim := { program := "ytiklbdmpbibfeaa", sum := "18948d187fe3d447fa1832a387ba87f98fc021a737220bafb6467272eef4cd60", func := "loop.example/pinfold/laws.FnExactDecOk", spec := "fnExactDecOk", unfollowed := true, recurses := true, apart := false }
def FnExactDecOkSaid : Prop := fnExactDecOkRow.holds Try.pinned (OpenSpec.ofChange fnExactDecOkSpec)

/-- ITS FALSE NEIGHBOUR: 'it returns false'. Refute it at one input. -/
def fnExactDecOkWrong : ChangeSpec := { name := "fnExactDecOk", fn := fun _ => fun
  | [d] => { results := [.lit (.bool false)], args := [d] }
  | _ => none }
def FnExactDecOkWrongFalsely : Prop := fnExactDecOkRow.holds Try.pinned (OpenSpec.ofChange fnExactDecOkWrong)

/- THE SECOND FORM. 'bulk': how many values and letters a reading holds, each counted each time it is reached (what is shared counts as often as it is met; a slice's spare places count too). A statement '..UptoSaid' is the law's where the arguments, and the package variables that the reading takes, are together of bulk at most 1048576: NARROWER than '..Said'. Prove '..Said' where nothing that the law and all that it calls make is longer than what came in: it says more and counts as full. Else prove '..UptoSaid'. A law counts once. -/
mutual
def uptoBulk {H : Type} : DataW H → Nat
  | .lit (.string bytes) => bytes.length + 1
  | .lit _ => 1
  | .nil => 1
  | .ptr d => uptoBulk d + 1
  | .slice elems spare => uptoBulkAll elems + uptoBulkAll spare + 1
  | .agg parts => uptoBulkAll parts + 1
  | .iface _ d => uptoBulk d + 1
  | .map entries => uptoBulkEntries entries + 1
  | .held _ => 1
def uptoBulkAll {H : Type} : List (DataW H) → Nat
  | [] => 0
  | d :: r => uptoBulk d + uptoBulkAll r
def uptoBulkEntries {H : Type} : List (Lit × DataW H) → Nat
  | [] => 0
  | x :: r => uptoBulkEntry x + uptoBulkEntries r
def uptoBulkEntry {H : Type} : Lit × DataW H → Nat
  | (.string bytes, d) => bytes.length + uptoBulk d + 1
  | (_, d) => uptoBulk d + 1
 end
def uptoSmall : (H : Type) → List (DataW H) → Bool := fun _ ds => decide (uptoBulkAll ds ≤ 1048576)
def OpenSpec.upto (s : _root_.Go.ChangeSpec) : _root_.Go.OpenSpec := { _root_.Go.OpenSpec.ofChange s with cond := some uptoSmall }

/-- 'laws.FnExactSpanOk', WHERE WHAT IT READS IS OF BULK AT MOST 1048576: true; the input reads as it did. -/
def fnExactSpanOkUptoRow : OpenClaim := { program := "ytiklbdmpbibfeaa", sum := "18948d187fe3d447fa1832a387ba87f98fc021a737220bafb6467272eef4cd60", func := "loop.example/pinfold/laws.FnExactSpanOk", spec := "fnExactSpanOk", unfollowed := true, recurses := true, apart := false, narrowed := true }
def FnExactSpanOkUptoSaid : Prop := fnExactSpanOkUptoRow.holds Try.pinned (OpenSpec.upto fnExactSpanOkSpec)

/-- 'laws.FnExactSpanAll', WHERE WHAT IT READS IS OF BULK AT MOST 1048576: true; the input reads as it did. -/
def fnExactSpanAllUptoRow : OpenClaim := { program := "ytiklbdmpbibfeaa", sum := "18948d187fe3d447fa1832a387ba87f98fc021a737220bafb6467272eef4cd60", func := "loop.example/pinfold/laws.FnExactSpanAll", spec := "fnExactSpanAll", unfollowed := true, recurses := true, apart := false, narrowed := true }
def FnExactSpanAllUptoSaid : Prop := fnExactSpanAllUptoRow.holds Try.pinned (OpenSpec.upto fnExactSpanAllSpec)

/-- 'laws.FnExactSpanHull', WHERE WHAT IT READS IS OF BULK AT MOST 1048576: true; the input reads as it did. -/
def fnExactSpanHullUptoRow : OpenClaim := { program := "ytiklbdmpbibfeaa", sum := "18948d187fe3d447fa1832a387ba87f98fc021a737220bafb6467272eef4cd60", func := "loop.example/pinfold/laws.FnExactSpanHull", spec := "fnExactSpanHull", unfollowed := true, recurses := true, apart := false, narrowed := true }
def FnExactSpanHullUptoSaid : Prop := fnExactSpanHullUptoRow.holds Try.pinned (OpenSpec.upto fnExactSpanHullSpec)

/-- 'laws.FnExactDecOk', WHERE WHAT IT READS IS OF BULK AT MOST 1048576: true; the input reads as it did. -/
def fnExactDecOkUptoRow : OpenClaim := { program := "ytiklbdmpbibfeaa", sum := "18948d187fe3d447fa1832a387ba87f98fc021a737220bafb6467272eef4cd60", func := "loop.example/pinfold/laws.FnExactDecOk", spec := "fnExactDecOk", unfollowed := true, recurses := true, apart := false, narrowed := true }
def FnExactDecOkUptoSaid : Prop := fnExactDecOkUptoRow.holds Try.pinned (OpenSpec.upto fnExactDecOkSpec)

end Rows
end Go.Proofs.Ytiklbdmpbibfeaa
