/-
  No cell of these rows narrows 'for every input' (looked for: loops, veiled, ifaces, maps, wideKeys, modest, calm, conditions, laid).
  DERIVED. THE GIVEN ROWS OF THIS SEAT. 9 by the template 'for every input the law returns true; each argument reads behind the call as it read before'; 0 by the template 'total and deterministic' (their statements: YtpjagplloljefaaGreatTotals.lean).
  GIVEN WITH THE SEED: the statements are not yours to turn. If you find one false, say at which input.
  Laid BY PROGRAM, IN A SANDBOX (cutbox-rows.mjs): the forced cells as the released guide's own fill.sh prints them over the translation 10b76c90fe4672c0… (all of the seat's roots in one cut). By AI agents, Wed Nov 11 2026. No macro, syntax, notation, axiom, sorry.
-/
import Derived.Test.YtpjagplloljefaaGreatChecked
import GoSem.Claim
import GoSem.ClaimJoined
import GoSem.ClaimMapViews
import Derived.JoinedTies
import Derived.KernelRfl
namespace Go.Proofs.YtpjagplloljefaaGreat
/- THE CELL 'sum', in the pinned program and in every row, IS THE sha256 OF THE DUMP (.gsa) THAT YtpjagplloljefaaGreatProg.lean LOADS. Nothing in Lean hashes anything: it is a label: what it is worth is what the hold of that sum in a sandbox is worth. -/
noncomputable def Tryz.pinned : Pinned := { name := "ytpjagplloljefaagreat", sum := "10b76c90fe4672c0f48d8ac9ea8a6c2664d23e6835d9551b8e394f1ed9e2c699", checked := Tryz.checked }
namespace Rows
def none {H : Type} : Left H := { results := [], args := [] }

/-- 'laws.FnExactRelMeet': WHATEVER THE INPUT: true; the input reads as it did. -/
def fnExactRelMeetSpec : ChangeSpec := { name := "fnExactRelMeet", fn := fun _ => fun
  | [d1, d2, d3, d4] => { results := [.lit (.bool true)], args := [d1, d2, d3, d4] }
  | _ => none }
def fnExactRelMeetRow : OpenClaim := { program := "ytpjagplloljefaagreat", sum := "10b76c90fe4672c0f48d8ac9ea8a6c2664d23e6835d9551b8e394f1ed9e2c699", func := "loop.example/pinfold/laws.FnExactRelMeet", spec := "fnExactRelMeet", unfollowed := true, recurses := true, apart := false }
def FnExactRelMeetSaid : Prop := fnExactRelMeetRow.holds Tryz.pinned (OpenSpec.ofChange fnExactRelMeetSpec)

/-- ITS FALSE NEIGHBOUR: 'it returns false'. Refute it at one input. -/
def fnExactRelMeetWrong : ChangeSpec := { name := "fnExactRelMeet", fn := fun _ => fun
  | [d1, d2, d3, d4] => { results := [.lit (.bool false)], args := [d1, d2, d3, d4] }
  | _ => none }
def FnExactRelMeetWrongFalsely : Prop := fnExactRelMeetRow.holds Tryz.pinned (OpenSpec.ofChange fnExactRelMeetWrong)

/-- 'laws.FnExactBackAbs': WHATEVER THE INPUT: true; the input reads as it did. -/
def fnExactBackAbsSpec : ChangeSpec := { name := "fnExactBackAbs", fn := fun _ => fun
  | [d1, d2, d3] => { results := [.lit (.bool true)], args := [d1, d2, d3] }
  | _ => none }
def fnExactBackAbsRow : OpenClaim := { program := "ytpjagplloljefaagreat", sum := "10b76c90fe4672c0f48d8ac9ea8a6c2664d23e6835d9551b8e394f1ed9e2c699", func := "loop.example/pinfold/laws.FnExactBackAbs", spec := "fnExactBackAbs", unfollowed := true, recurses := true, apart := false }
def FnExactBackAbsSaid : Prop := fnExactBackAbsRow.holds Tryz.pinned (OpenSpec.ofChange fnExactBackAbsSpec)

/-- ITS FALSE NEIGHBOUR: 'it returns false'. Refute it at one input. -/
def fnExactBackAbsWrong : ChangeSpec := { name := "fnExactBackAbs", fn := fun _ => fun
  | [d1, d2, d3] => { results := [.lit (.bool false)], args := [d1, d2, d3] }
  | _ => none }
def FnExactBackAbsWrongFalsely : Prop := fnExactBackAbsRow.holds Tryz.pinned (OpenSpec.ofChange fnExactBackAbsWrong)

/-- 'laws.FnExactBackMin': WHATEVER THE INPUT: true; the input reads as it did. -/
def fnExactBackMinSpec : ChangeSpec := { name := "fnExactBackMin", fn := fun _ => fun
  | [d1, d2, d3, d4] => { results := [.lit (.bool true)], args := [d1, d2, d3, d4] }
  | _ => none }
def fnExactBackMinRow : OpenClaim := { program := "ytpjagplloljefaagreat", sum := "10b76c90fe4672c0f48d8ac9ea8a6c2664d23e6835d9551b8e394f1ed9e2c699", func := "loop.example/pinfold/laws.FnExactBackMin", spec := "fnExactBackMin", unfollowed := true, recurses := true, apart := false }
def FnExactBackMinSaid : Prop := fnExactBackMinRow.holds Tryz.pinned (OpenSpec.ofChange fnExactBackMinSpec)

/-- ITS FALSE NEIGHBOUR: 'it returns false'. Refute it at one input. -/
def fnExactBackMinWrong : ChangeSpec := { name := "fnExactBackMin", fn := fun _ => fun
  | [d1, d2, d3, d4] => { results := [.lit (.bool false)], args := [d1, d2, d3, d4] }
  | _ => none }
def FnExactBackMinWrongFalsely : Prop := fnExactBackMinRow.holds Tryz.pinned (OpenSpec.ofChange fnExactBackMinWrong)

/-- 'laws.FnExactBackMax': WHATEVER THE INPUT: true; the input reads as it did. -/
def fnExactBackMaxSpec : ChangeSpec := { name := "fnExactBackMax", fn := fun _ => fun
  | [d1, d2, d3, d4] => { results := [.lit (.bool true)], args := [d1, d2, d3, d4] }
  | _ => none }
def fnExactBackMaxRow : OpenClaim := { program := "ytpjagplloljefaagreat", sum := "10b76c90fe4672c0f48d8ac9ea8a6c2664d23e6835d9551b8e394f1ed9e2c699", func := "loop.example/pinfold/laws.FnExactBackMax", spec := "fnExactBackMax", unfollowed := true, recurses := true, apart := false }
def FnExactBackMaxSaid : Prop := fnExactBackMaxRow.holds Tryz.pinned (OpenSpec.ofChange fnExactBackMaxSpec)

/-- ITS FALSE NEIGHBOUR: 'it returns false'. Refute it at one input. -/
def fnExactBackMaxWrong : ChangeSpec := { name := "fnExactBackMax", fn := fun _ => fun
  | [d1, d2, d3, d4] => { results := [.lit (.bool false)], args := [d1, d2, d3, d4] }
  | _ => none }
def FnExactBackMaxWrongFalsely : Prop := fnExactBackMaxRow.holds Tryz.pinned (OpenSpec.ofChange fnExactBackMaxWrong)

/-- 'laws.FnExactSpanMeet': WHATEVER THE INPUT: true; the input reads as it did. -/
def fnExactSpanMeetSpec : ChangeSpec := { name := "fnExactSpanMeet", fn := fun _ => fun
  | [d1, d2, d3] => { results := [.lit (.bool true)], args := [d1, d2, d3] }
  | _ => none }
def fnExactSpanMeetRow : OpenClaim := { program := "ytpjagplloljefaagreat", sum := "10b76c90fe4672c0f48d8ac9ea8a6c2664d23e6835d9551b8e394f1ed9e2c699", func := "loop.example/pinfold/laws.FnExactSpanMeet", spec := "fnExactSpanMeet", unfollowed := true, recurses := true, apart := false }
def FnExactSpanMeetSaid : Prop := fnExactSpanMeetRow.holds Tryz.pinned (OpenSpec.ofChange fnExactSpanMeetSpec)

/-- ITS FALSE NEIGHBOUR: 'it returns false'. Refute it at one input. -/
def fnExactSpanMeetWrong : ChangeSpec := { name := "fnExactSpanMeet", fn := fun _ => fun
  | [d1, d2, d3] => { results := [.lit (.bool false)], args := [d1, d2, d3] }
  | _ => none }
def FnExactSpanMeetWrongFalsely : Prop := fnExactSpanMeetRow.holds Tryz.pinned (OpenSpec.ofChange fnExactSpanMeetWrong)

/-- 'laws.FnExactSpanNeg': WHATEVER THE INPUT: true; the input reads as it did. -/
def fnExactSpanNegSpec : ChangeSpec := { name := "fnExactSpanNeg", fn := fun _ => fun
  | [d1, d2] => { results := [.lit (.bool true)], args := [d1, d2] }
  | _ => none }
def fnExactSpanNegRow : OpenClaim := { program := "ytpjagplloljefaagreat", sum := "10b76c90fe4672c0f48d8ac9ea8a6c2664d23e6835d9551b8e394f1ed9e2c699", func := "loop.example/pinfold/laws.FnExactSpanNeg", spec := "fnExactSpanNeg", unfollowed := true, recurses := true, apart := false }
def FnExactSpanNegSaid : Prop := fnExactSpanNegRow.holds Tryz.pinned (OpenSpec.ofChange fnExactSpanNegSpec)

/-- ITS FALSE NEIGHBOUR: 'it returns false'. Refute it at one input. -/
def fnExactSpanNegWrong : ChangeSpec := { name := "fnExactSpanNeg", fn := fun _ => fun
  | [d1, d2] => { results := [.lit (.bool false)], args := [d1, d2] }
  | _ => none }
def FnExactSpanNegWrongFalsely : Prop := fnExactSpanNegRow.holds Tryz.pinned (OpenSpec.ofChange fnExactSpanNegWrong)

/-- 'laws.FnExactSpanAbs': WHATEVER THE INPUT: true; the input reads as it did. -/
def fnExactSpanAbsSpec : ChangeSpec := { name := "fnExactSpanAbs", fn := fun _ => fun
  | [d1, d2] => { results := [.lit (.bool true)], args := [d1, d2] }
  | _ => none }
def fnExactSpanAbsRow : OpenClaim := { program := "ytpjagplloljefaagreat", sum := "10b76c90fe4672c0f48d8ac9ea8a6c2664d23e6835d9551b8e394f1ed9e2c699", func := "loop.example/pinfold/laws.FnExactSpanAbs", spec := "fnExactSpanAbs", unfollowed := true, recurses := true, apart := false }
def FnExactSpanAbsSaid : Prop := fnExactSpanAbsRow.holds Tryz.pinned (OpenSpec.ofChange fnExactSpanAbsSpec)

/-- ITS FALSE NEIGHBOUR: 'it returns false'. Refute it at one input. -/
def fnExactSpanAbsWrong : ChangeSpec := { name := "fnExactSpanAbs", fn := fun _ => fun
  | [d1, d2] => { results := [.lit (.bool false)], args := [d1, d2] }
  | _ => none }
def FnExactSpanAbsWrongFalsely : Prop := fnExactSpanAbsRow.holds Tryz.pinned (OpenSpec.ofChange fnExactSpanAbsWrong)

/-- 'laws.FnExactSpanMin': WHATEVER THE INPUT: true; the input reads as it did. -/
def fnExactSpanMinSpec : ChangeSpec := { name := "fnExactSpanMin", fn := fun _ => fun
  | [d1, d2, d3] => { results := [.lit (.bool true)], args := [d1, d2, d3] }
  | _ => none }
def fnExactSpanMinRow : OpenClaim := { program := "ytpjagplloljefaagreat", sum := "10b76c90fe4672c0f48d8ac9ea8a6c2664d23e6835d9551b8e394f1ed9e2c699", func := "loop.example/pinfold/laws.FnExactSpanMin", spec := "fnExactSpanMin", unfollowed := true, recurses := true, apart := false }
def FnExactSpanMinSaid : Prop := fnExactSpanMinRow.holds Tryz.pinned (OpenSpec.ofChange fnExactSpanMinSpec)

/-- ITS FALSE NEIGHBOUR: 'it returns false'. Refute it at one input. -/
def fnExactSpanMinWrong : ChangeSpec := { name := "fnExactSpanMin", fn := fun _ => fun
  | [d1, d2, d3] => { results := [.lit (.bool false)], args := [d1, d2, d3] }
  | _ => none }
def FnExactSpanMinWrongFalsely : Prop := fnExactSpanMinRow.holds Tryz.pinned (OpenSpec.ofChange fnExactSpanMinWrong)

/-- 'laws.FnExactSpanMax': WHATEVER THE INPUT: true; the input reads as it did. -/
def fnExactSpanMaxSpec : ChangeSpec := { name := "fnExactSpanMax", fn := fun _ => fun
  | [d1, d2, d3] => { results := [.lit (.bool true)], args := [d1, d2, d3] }
  | _ => none }
def fnExactSpanMaxRow : OpenClaim := { program := "ytpjagplloljefaagreat", sum := "10b76c90fe4672c0f48d8ac9ea8a6c2664d23e6835d9551b8e394f1ed9e2c699", func := "loop.example/pinfold/laws.FnExactSpanMax", spec := "fnExactSpanMax", unfollowed := true, recurses := true, apart := false }
def FnExactSpanMaxSaid : Prop := fnExactSpanMaxRow.holds Tryz.pinned (OpenSpec.ofChange fnExactSpanMaxSpec)

/-- ITS FALSE NEIGHBOUR: 'it returns false'. Refute it at one input. -/
def fnExactSpanMaxWrong : ChangeSpec := { name := "fnExactSpanMax", fn := fun _ => fun
  | [d1, d2, d3] => { results := [.lit (.bool false)], args := [d1, d2, d3] }
  | _ => none }
def FnExactSpanMaxWrongFalsely : Prop := fnExactSpanMaxRow.holds Tryz.pinned (OpenSpec.ofChange fnExactSpanMaxWrong)

/- THE SECOND FORM. 'bulk': how many values and letters a reading holds, each counted each time it is reached (what is shared counts as often as it is met; a slice's spare places count too). A statement '..UptoSaid' is the law's where the arguments, and the package variables that the reading takes, are together of bulk at most 1048576: NARROWER than '..Said'. Prove '..Said' where nothing that the law and all that it calls make is longer than what came in: it says more and counts as full. Else prove '..UptoSaid'. A law counts once. -/
mutual
def uptoBulk {H : Type} : DataW H → Nat
  | .lit (.string bytes) => bytes.length + 1
  | .lit _ => 1
  | .nil => 1
  | .ptr d => uptoBulk d + 1
  | .slice elems spare => uptoBulkAll elems + uptoBulkAll spare + 1
  | .agg parts => uptoBulkAll parts + 1
  | .iface _ d => uptoBulk d + 1
  | .map entries => uptoBulkEntries entries + 1
  | .held _ => 1
def uptoBulkAll {H : Type} : List (DataW H) → Nat
  | [] => 0
  | d :: r => uptoBulk d + uptoBulkAll r
def uptoBulkEntries {H : Type} : List (Lit × DataW H) → Nat
  | [] => 0
  | x :: r => uptoBulkEntry x + uptoBulkEntries r
def uptoBulkEntry {H : Type} : Lit × DataW H → Nat
  | (.string bytes, d) => bytes.length + uptoBulk d + 1
  | (_, d) => uptoBulk d + 1
 end
def uptoSmall : (H : Type) → List (DataW H) → Bool := fun _ ds => decide (uptoBulkAll ds ≤ 1048576)
def OpenSpec.upto (s : _root_.Go.ChangeSpec) : _root_.Go.OpenSpec := { _root_.Go.OpenSpec.ofChange s with cond := some uptoSmall }

/-- 'laws.FnExactRelMeet', WHERE WHAT IT READS IS OF BULK AT MOST 1048576: true; the input reads as it did. -/
def fnExactRelMeetUptoRow : OpenClaim := { program := "ytpjagplloljefaagreat", sum := "10b76c90fe4672c0f48d8ac9ea8a6c2664d23e6835d9551b8e394f1ed9e2c699", func := "loop.example/pinfold/laws.FnExactRelMeet", spec := "fnExactRelMeet", unfollowed := true, recurses := true, apart := false, narrowed := true }
def FnExactRelMeetUptoSaid : Prop := fnExactRelMeetUptoRow.holds Tryz.pinned (OpenSpec.upto fnExactRelMeetSpec)

/-- 'laws.FnExactBackAbs', WHERE WHAT IT READS IS OF BULK AT MOST 1048576: true; the input reads as it did. -/
def fnExactBackAbsUptoRow : OpenClaim := { program := "ytpjagplloljefaagreat", sum := "10b76c90fe4672c0f48d8ac9ea8a6c2664d23e6835d9551b8e394f1ed9e2c699", func := "loop.example/pinfold/laws.FnExactBackAbs", spec := "fnExactBackAbs", unfollowed := true, recurses := true, apart := false, narrowed := true }
def FnExactBackAbsUptoSaid : Prop := fnExactBackAbsUptoRow.holds Tryz.pinned (OpenSpec.upto fnExactBackAbsSpec)

/-- 'laws.FnExactBackMin', WHERE WHAT IT READS IS OF BULK AT MOST 1048576: true; the input reads as it did. -/
def fnExactBackMinUptoRow : OpenClaim := { program := "ytpjagplloljefaagreat", sum := "10b76c90fe4672c0f48d8ac9ea8a6c2664d23e6835d9551b8e394f1ed9e2c699", func := "loop.example/pinfold/laws.FnExactBackMin", spec := "fnExactBackMin", unfollowed := true, recurses := true, apart := false, narrowed := true }
def FnExactBackMinUptoSaid : Prop := fnExactBackMinUptoRow.holds Tryz.pinned (OpenSpec.upto fnExactBackMinSpec)

/-- 'laws.FnExactBackMax', WHERE WHAT IT READS IS OF BULK AT MOST 1048576: true; the input reads as it did. -/
def fnExactBackMaxUptoRow : OpenClaim := { program := "ytpjagplloljefaagreat", sum := "10b76c90fe4672c0f48d8ac9ea8a6c2664d23e6835d9551b8e394f1ed9e2c699", func := "loop.example/pinfold/laws.FnExactBackMax", spec := "fnExactBackMax", unfollowed := true, recurses := true, apart := false, narrowed := true }
def FnExactBackMaxUptoSaid : Prop := fnExactBackMaxUptoRow.holds Tryz.pinned (OpenSpec.upto fnExactBackMaxSpec)

/-- 'laws.FnExactSpanMeet', WHERE WHAT IT READS IS OF BULK AT MOST 1048576: true; the input reads as it did. -/
def fnExactSpanMeetUptoRow : OpenClaim := { program := "ytpjagplloljefaagreat", sum := "10b76c90fe4672c0f48d8ac9ea8a6c2664d23e6835d9551b8e394f1ed9e2c699", func := "loop.example/pinfold/laws.FnExactSpanMeet", spec := "fnExactSpanMeet", unfollowed := true, recurses := true, apart := false, narrowed := true }
def FnExactSpanMeetUptoSaid : Prop := fnExactSpanMeetUptoRow.holds Tryz.pinned (OpenSpec.upto fnExactSpanMeetSpec)

/-- 'laws.FnExactSpanNeg', WHERE WHAT IT READS IS OF BULK AT MOST 1048576: true; the input reads as it did. -/
def fnExactSpanNegUptoRow : OpenClaim := { program := "ytpjagplloljefaagreat", sum := "10b76c90fe4672c0f48d8ac9ea8a6c2664d23e6835d9551b8e394f1ed9e2c699", func := "loop.example/pinfold/laws.FnExactSpanNeg", spec := "fnExactSpanNeg", unfollowed := true, recurses := true, apart := false, narrowed := true }
def FnExactSpanNegUptoSaid : Prop := fnExactSpanNegUptoRow.holds Tryz.pinned (OpenSpec.upto fnExactSpanNegSpec)

/-- 'laws.FnExactSpanAbs', WHERE WHAT IT READS IS OF BULK AT MOST 1048576: true; the input reads as it did. -/
def fnExactSpanAbsUptoRow : OpenClaim := { program := "ytpjagplloljefaagreat", sum := "10b76c90fe4672c0f48d8ac9ea8a6c2664d23e6835d9551b8e394f1ed9e2c699", func := "loop.example/pinfold/laws.FnExactSpanAbs", spec := "fnExactSpanAbs", unfollowed := true, recurses := true, apart := false, narrowed := true }
def FnExactSpanAbsUptoSaid : Prop := fnExactSpanAbsUptoRow.holds Tryz.pinned (OpenSpec.upto fnExactSpanAbsSpec)

/-- 'laws.FnExactSpanMin', WHERE WHAT IT READS IS OF BULK AT MOST 1048576: true; the input reads as it did. -/
def fnExactSpanMinUptoRow : OpenClaim := { program := "ytpjagplloljefaagreat", sum := "10b76c90fe4672c0f48d8ac9ea8a6c2664d23e6835d9551b8e394f1ed9e2c699", func := "loop.example/pinfold/laws.FnExactSpanMin", spec := "fnExactSpanMin", unfollowed := true, recurses := true, apart := false, narrowed := true }
def FnExactSpanMinUptoSaid : Prop := fnExactSpanMinUptoRow.holds Tryz.pinned (OpenSpec.upto fnExactSpanMinSpec)

/-- 'laws.FnExactSpanMax', WHERE WHAT IT READS IS OF BULK AT MOST 1048576: true; the input reads as it did. -/
def fnExactSpanMaxUptoRow : OpenClaim := { program := "ytpjagplloljefaagreat", sum := "10b76c90fe4672c0f48d8ac9ea8a6c2664d23e6835d9551b8e394f1ed9e2c699", func := "loop.example/pinfold/laws.FnExactSpanMax", spec := "fnExactSpanMax", unfollowed := true, recurses := true, apart := false, narrowed := true }
def FnExactSpanMaxUptoSaid : Prop := fnExactSpanMaxUptoRow.holds Tryz.pinned (OpenSpec.upto fnExactSpanMaxSpec)

end Rows
end Go.Proofs.YtpjagplloljefaaGreat
