/- Three cells of a block that was made, carried over calls. -/
import Derived.Test.YtljmmaaaeojbpaaG3
import Derived.Test.YtljmmaaaeojbpaaD4
namespace Go.Proofs.Ytljmmaaaeojbpaa
open Go.RowKit

def Three (w : World) (b : Nat) (c0 c1 c2 : Value) : Prop := w.cell? ⟨b, 0, none⟩ = some c0 ∧ w.cell? ⟨b, 1, none⟩ = some c1 ∧ w.cell? ⟨b, 2, none⟩ = some c2 ∧ b < w.heap.size
theorem Three.new (w : World) (c0 c1 c2 : Value) (t : TypeId) : Three (w.alloc (.cells #[c0, c1, c2] t)) w.heap.size c0 c1 c2 := ⟨by simp, by simp, by simp, by simp⟩
theorem Three.old {w w' : World} {b : Nat} {c0 c1 c2 : Value} (h : Three w b c0 c1 c2) (k : Below w.heap.size w w') : Three w' b c0 c1 c2 :=
  ⟨(k.cell (p := ⟨b, 0, none⟩) h.2.2.2).trans h.1, (k.cell (p := ⟨b, 1, none⟩) h.2.2.2).trans h.2.1, (k.cell (p := ⟨b, 2, none⟩) h.2.2.2).trans h.2.2.1, Nat.lt_of_lt_of_le h.2.2.2 k.size⟩
end Go.Proofs.Ytljmmaaaeojbpaa
