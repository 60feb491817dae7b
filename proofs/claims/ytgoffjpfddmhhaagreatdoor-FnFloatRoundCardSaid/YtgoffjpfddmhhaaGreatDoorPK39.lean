/- What an argument of this seat's laws gives when it is opened: a pair of numbers; a box, whose pairs lie in memory that was there. No condition. -/
import Derived.Test.YtgoffjpfddmhhaaGreatDoorPK21
import Derived.Test.YtgoffjpfddmhhaaGreatDoorRows
import Derived.WalkKit
import Derived.ProofKit
import Derived.OpenShut
import Derived.Lib.SmallJoins
import Derived.Deep.SlicePairs
namespace Go.Proofs.YtgoffjpfddmhhaaGreatDoor
open Go.ChangeShapes Go.WideShapes Go.ChangeAt Go.RowKit

/-- pairs that came in: the numbers fit, and their cells lie in old memory -/
def InRow (w : World) (a : Option Addr) (len cap : Nat) (ps : List (Int × Int)) : Prop :=
  ps.length = len ∧ len ≤ cap ∧ cap ≤ maxLen ∧ (∀ p ∈ ps, (-9223372036854775808 ≤ p.1 ∧ p.1 ≤ 9223372036854775807) ∧ -9223372036854775808 ≤ p.2 ∧ p.2 ≤ 9223372036854775807) ∧
  (len = 0 ∨ ∃ b off : Nat, a = some ⟨b, off, none⟩ ∧ b < w.heap.size ∧ ∀ i, i < len → w.cell? ⟨b, off + i * 2, none⟩ = some (.int .i64 (ps.getD i (0, 0)).1) ∧ w.cell? ⟨b, off + (i * 2 + 1), none⟩ = some (.int .i64 (ps.getD i (0, 0)).2))
theorem InRow.old {w w' : World} {a : Option Addr} {len cap : Nat} {ps : List (Int × Int)} (h : InRow w a len cap ps) (b : Below w.heap.size w w') : InRow w' a len cap ps := by
  obtain ⟨h1, h2, h3, h4, h5⟩ := h
  refine ⟨h1, h2, h3, h4, ?_⟩
  rcases h5 with h5 | ⟨bb, off, q1, q2, q3⟩
  · exact .inl h5
  · refine .inr ⟨bb, off, q1, Nat.lt_of_lt_of_le q2 b.size, fun i hi => ?_⟩
    exact ⟨(b.cell (p := ⟨bb, off + i * 2, none⟩) q2).trans (q3 i hi).1, (b.cell (p := ⟨bb, off + (i * 2 + 1), none⟩) q2).trans (q3 i hi).2⟩

section
variable {H : Type} {enc : TypeId × Value → H} {w : World} {base : Nat}

end
end Go.Proofs.YtgoffjpfddmhhaaGreatDoor
