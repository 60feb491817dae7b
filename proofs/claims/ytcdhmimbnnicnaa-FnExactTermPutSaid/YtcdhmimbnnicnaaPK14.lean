/- Iterators that keep memory of their own between two rounds: what one promises, and the law of a range over one. The caller says which blocks are its own (C); the iterator leaves them alone, and the rounds write nothing else. No condition. -/
import Derived.RangeFuncWrites
import Derived.RangeFuncBound
import Derived.RangeFuncNested
import Derived.Shelf.Abstract
import Derived.WalkKit
import Derived.Below
namespace Go.Proofs.Ytcdhmimbnnicnaa
open Go.RowKit Go.Shelf
set_option linter.unusedVariables false
set_option maxRecDepth 100000

/-- nothing that was there is written but what C names -/
structure Out (C : Nat → Prop) (A B : World) : Prop where
  os : B.os = A.os
  tape : B.tape = A.tape
  output : B.output = A.output
  size : A.heap.size ≤ B.heap.size
  same : ∀ k, k < A.heap.size → ¬ C k → B.heap[k]? = A.heap[k]?
theorem Out.refl (C : Nat → Prop) (A : World) : Out C A A := ⟨rfl, rfl, rfl, Nat.le_refl _, fun _ _ _ => rfl⟩
theorem Out.trans {C C' : Nat → Prop} {A B D : World} (h : Out C A B) (k : Out C' B D) (s : ∀ i, C' i → C i ∨ A.heap.size ≤ i) : Out C A D :=
  ⟨k.os.trans h.os, k.tape.trans h.tape, k.output.trans h.output, Nat.le_trans h.size k.size, fun i hi hn => (k.same i (Nat.lt_of_lt_of_le hi h.size) (fun g => (s i g).elim hn (fun e => by omega))).trans (h.same i hi hn)⟩
theorem Out.below {C : Nat → Prop} {A B : World} {n : Nat} (h : Out C A B) (hn : n ≤ A.heap.size) (s : ∀ i, C i → n ≤ i) : Below n A B :=
  ⟨h.os, h.tape, h.output, h.size, fun i hi => h.same i (by omega) (fun g => by have := s i g; omega)⟩
/-- the new footprint is the old one and what is new -/
def Grew (C C' : Nat → Prop) (n : Nat) : Prop := ∀ k, C' k → C k ∨ n ≤ k
theorem Grew.refl (C : Nat → Prop) (n : Nat) : Grew C C n := fun _ h => .inl h
theorem Grew.trans {C C' C'' : Nat → Prop} {n m : Nat} (h : Grew C C' n) (k : Grew C' C'' m) (hm : n ≤ m) : Grew C C'' n := fun i hi => (k i hi).elim (h i) (fun e => .inr (Nat.le_trans hm e))

variable {F : Fence} {n : Nat} {P : Program}
end Go.Proofs.Ytcdhmimbnnicnaa
