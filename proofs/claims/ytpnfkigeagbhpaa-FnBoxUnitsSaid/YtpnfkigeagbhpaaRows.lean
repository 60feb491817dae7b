/-
  No cell of these rows narrows 'for every input' (looked for: loops, veiled, ifaces, maps, wideKeys, modest, calm, conditions, laid).
  DERIVED. THE GIVEN ROWS OF THIS SEAT. 3 by the template 'for every input the law returns true; each argument reads behind the call as it read before'; 0 by the template 'total and deterministic' (their statements: YtpnfkigeagbhpaaTotals.lean).
  GIVEN WITH THE SEED: the statements are not yours to turn. If you find one false, say at which input.
  Laid BY PROGRAM, IN A SANDBOX (cutbox-rows.mjs): the forced cells as the released guide's own fill.sh prints them over the translation bf1779056008e894… (all of the seat's roots in one cut). By AI agents, Wed Nov 11 2026. No macro, syntax, notation, axiom, sorry.
-/
import Derived.Test.YtpnfkigeagbhpaaChecked
import GoSem.Claim
import GoSem.ClaimJoined
import GoSem.ClaimMapViews
import Derived.JoinedTies
import Derived.KernelRfl
namespace Go.Proofs.Ytpnfkigeagbhpaa
/- THE CELL 'sum', in the pinned program and in every row, IS THE sha256 OF THE DUMP (.gsa) THAT YtpnfkigeagbhpaaProg.lean LOADS. Nothing in Lean hashes anything: it is a label: what it is worth is what the hold of that sum in a sandbox is worth. -/
noncomputable def Try.pinned : Pinned := { name := "ytpnfkigeagbhpaa", sum := "bf1779056008e8947ed64d5b3cb0de35d7a98abd419bd3bb1c6f360689f70a23", checked := Try.checked }
namespace Rows
def none {H : Type} : Left H := { results := [], args := [] }

/-- 'laws.FnBoxNarrow': WHATEVER THE INPUT: true; the input reads as it did. -/
def fnBoxNarrowSpec : ChangeSpec := { name := "fnBoxNarrow", fn := fun _ => fun
  | [d] => { results := [.lit (.bool true)], args := [d] }
  | _ => none }
def fnBoxNarrowRow : OpenClaim := { program := "ytpnfkigeagbhpaa", sum := "bf1779056008e8947ed64d5b3cb0de35d7a98abd419bd3bb1c6f360689f70a23", func := "loop.example/pinfold/laws.FnBoxNarrow", spec := "fnBoxNarrow", inPlace := ["math.Float32frombits", "math.Float64bits", "math.Float64frombits", "math.Float32bits"], unfollowed := true, recurses := true, apart := false }
def FnBoxNarrowSaid : Prop := fnBoxNarrowRow.holds Try.pinned (OpenSpec.ofChange fnBoxNarrowSpec)

/-- ITS FALSE NEIGHBOUR: 'it returns false'. Refute it at one input. -/
def fnBoxNarrowWrong : ChangeSpec := { name := "fnBoxNarrow", fn := fun _ => fun
  | [d] => { results := [.lit (.bool false)], args := [d] }
  | _ => none }
def FnBoxNarrowWrongFalsely : Prop := fnBoxNarrowRow.holds Try.pinned (OpenSpec.ofChange fnBoxNarrowWrong)

/-- 'laws.FnBoxWithin': WHATEVER THE INPUT: true; the input reads as it did. -/
def fnBoxWithinSpec : ChangeSpec := { name := "fnBoxWithin", fn := fun _ => fun
  | [d] => { results := [.lit (.bool true)], args := [d] }
  | _ => none }
def fnBoxWithinRow : OpenClaim := { program := "ytpnfkigeagbhpaa", sum := "bf1779056008e8947ed64d5b3cb0de35d7a98abd419bd3bb1c6f360689f70a23", func := "loop.example/pinfold/laws.FnBoxWithin", spec := "fnBoxWithin", unfollowed := true, recurses := true, apart := false }
def FnBoxWithinSaid : Prop := fnBoxWithinRow.holds Try.pinned (OpenSpec.ofChange fnBoxWithinSpec)

/-- ITS FALSE NEIGHBOUR: 'it returns false'. Refute it at one input. -/
def fnBoxWithinWrong : ChangeSpec := { name := "fnBoxWithin", fn := fun _ => fun
  | [d] => { results := [.lit (.bool false)], args := [d] }
  | _ => none }
def FnBoxWithinWrongFalsely : Prop := fnBoxWithinRow.holds Try.pinned (OpenSpec.ofChange fnBoxWithinWrong)

/-- 'laws.FnBoxUnits': WHATEVER THE INPUT: true; the input reads as it did. -/
def fnBoxUnitsSpec : ChangeSpec := { name := "fnBoxUnits", fn := fun _ => fun
  | [d1, d2] => { results := [.lit (.bool true)], args := [d1, d2] }
  | _ => none }
def fnBoxUnitsRow : OpenClaim := { program := "ytpnfkigeagbhpaa", sum := "bf1779056008e8947ed64d5b3cb0de35d7a98abd419bd3bb1c6f360689f70a23", func := "loop.example/pinfold/laws.FnBoxUnits", spec := "fnBoxUnits", unfollowed := true, recurses := true, apart := false }
def FnBoxUnitsSaid : Prop := fnBoxUnitsRow.holds Try.pinned (OpenSpec.ofChange fnBoxUnitsSpec)

/-- ITS FALSE NEIGHBOUR: 'it returns false'. Refute it at one input. -/
def fnBoxUnitsWrong : ChangeSpec := { name := "fnBoxUnits", fn := fun _ => fun
  | [d1, d2] => { results := [.lit (.bool false)], args := [d1, d2] }
  | _ => none }
def FnBoxUnitsWrongFalsely : Prop := fnBoxUnitsRow.holds Try.pinned (OpenSpec.ofChange fnBoxUnitsWrong)

/- THE SECOND FORM. 'bulk': how many values and letters a reading holds, each counted each time it is reached (what is shared counts as often as it is met; a slice's spare places count too). A statement '..UptoSaid' is the law's where the arguments, and the package variables that the reading takes, are together of bulk at most 1048576: NARROWER than '..Said'. Prove '..Said' where nothing that the law and all that it calls make is longer than what came in: it says more and counts as full. Else prove '..UptoSaid'. A law counts once. -/
mutual
def uptoBulk {H : Type} : DataW H → Nat
  | .lit (.string bytes) => bytes.length + 1
  | .lit _ => 1
  | .nil => 1
  | .ptr d => uptoBulk d + 1
  | .slice elems spare => uptoBulkAll elems + uptoBulkAll spare + 1
  | .agg parts => uptoBulkAll parts + 1
  | .iface _ d => uptoBulk d + 1
  | .map entries => uptoBulkEntries entries + 1
  | .held _ => 1
def uptoBulkAll {H : Type} : List (DataW H) → Nat
  | [] => 0
  | d :: r => uptoBulk d + uptoBulkAll r
def uptoBulkEntries {H : Type} : List (Lit × DataW H) → Nat
  | [] => 0
  | x :: r => uptoBulkEntry x + uptoBulkEntries r
def uptoBulkEntry {H : Type} : Lit × DataW H → Nat
  | (.string bytes, d) => bytes.length + uptoBulk d + 1
  | (_, d) => uptoBulk d + 1
 end
def uptoSmall : (H : Type) → List (DataW H) → Bool := fun _ ds => decide (uptoBulkAll ds ≤ 1048576)
def OpenSpec.upto (s : _root_.Go.ChangeSpec) : _root_.Go.OpenSpec := { _root_.Go.OpenSpec.ofChange s with cond := some uptoSmall }

/-- 'laws.FnBoxNarrow', WHERE WHAT IT READS IS OF BULK AT MOST 1048576: true; the input reads as it did. -/
def fnBoxNarrowUptoRow : OpenClaim := { program := "ytpnfkigeagbhpaa", sum := "bf1779056008e8947ed64d5b3cb0de35d7a98abd419bd3bb1c6f360689f70a23", func := "loop.example/pinfold/laws.FnBoxNarrow", spec := "fnBoxNarrow", inPlace := ["math.Float32frombits", "math.Float64bits", "math.Float64frombits", "math.Float32bits"], unfollowed := true, recurses := true, apart := false, narrowed := true }
def FnBoxNarrowUptoSaid : Prop := fnBoxNarrowUptoRow.holds Try.pinned (OpenSpec.upto fnBoxNarrowSpec)

/-- 'laws.FnBoxWithin', WHERE WHAT IT READS IS OF BULK AT MOST 1048576: true; the input reads as it did. -/
def fnBoxWithinUptoRow : OpenClaim := { program := "ytpnfkigeagbhpaa", sum := "bf1779056008e8947ed64d5b3cb0de35d7a98abd419bd3bb1c6f360689f70a23", func := "loop.example/pinfold/laws.FnBoxWithin", spec := "fnBoxWithin", unfollowed := true, recurses := true, apart := false, narrowed := true }
def FnBoxWithinUptoSaid : Prop := fnBoxWithinUptoRow.holds Try.pinned (OpenSpec.upto fnBoxWithinSpec)

/-- 'laws.FnBoxUnits', WHERE WHAT IT READS IS OF BULK AT MOST 1048576: true; the input reads as it did. -/
def fnBoxUnitsUptoRow : OpenClaim := { program := "ytpnfkigeagbhpaa", sum := "bf1779056008e8947ed64d5b3cb0de35d7a98abd419bd3bb1c6f360689f70a23", func := "loop.example/pinfold/laws.FnBoxUnits", spec := "fnBoxUnits", unfollowed := true, recurses := true, apart := false, narrowed := true }
def FnBoxUnitsUptoSaid : Prop := fnBoxUnitsUptoRow.holds Try.pinned (OpenSpec.upto fnBoxUnitsSpec)

end Rows
end Go.Proofs.Ytpnfkigeagbhpaa
