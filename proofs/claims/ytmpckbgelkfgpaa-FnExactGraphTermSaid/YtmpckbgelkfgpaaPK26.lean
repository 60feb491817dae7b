/- The iterator over places and digits, the highest ahead: it hands them out till a round says no. No condition but that the digits are there, and that the rounds leave them. -/
import Derived.Test.YtmpckbgelkfgpaaPK02
import Derived.RangeFuncNested
import Derived.RangeFuncBound
import Derived.RangeFuncCalls
import Derived.RangeFuncLeaves
import Derived.Shelf.Abstract
import Derived.Shelf.RegionOpen
import Derived.OwnWalkIn
import Derived.TacticsInMore
import Derived.LoopNIn
import Derived.LoopIn
namespace Go.Proofs.Ytmpckbgelkfgpaa
open Go.RowKit Go.Shelf
attribute [local go_sem] Oper.semAt_some
set_option linter.unusedVariables false
set_option maxRecDepth 100000

theorem KeepsOthers.of_below {n : Nat} {w w' : World} (h : Below n w w') (hn : w.heap.size ≤ n) : KeepsOthers w w' :=
  KeepsOthers.of_grownBy (row := none) ⟨h.1, h.2, h.3, h.4, fun k hk _ => h.5 k (Nat.lt_of_lt_of_le hk hn)⟩ (by simp)
/-- what P names is as it was -/
def Same (P : Nat → Prop) (A B : World) : Prop := A.heap.size ≤ B.heap.size ∧ ∀ k, P k → k < A.heap.size → B.heap[k]? = A.heap[k]?
theorem Same.refl (P : Nat → Prop) (A : World) : Same P A A := ⟨Nat.le_refl _, fun _ _ _ => rfl⟩
theorem Same.trans {P : Nat → Prop} {A B C : World} (h : Same P A B) (k : Same P B C) : Same P A C := ⟨Nat.le_trans h.1 k.1, fun i hi hl => (k.2 i hi (Nat.lt_of_lt_of_le hl h.1)).trans (h.2 i hi hl)⟩
theorem Same.of_below {P : Nat → Prop} {n : Nat} {A B : World} (hP : ∀ k, P k → k < n) (h : Below n A B) : Same P A B := ⟨h.size, fun k hk _ => h.5 k (hP k hk)⟩
theorem Same.setCell {P : Nat → Prop} {A B : World} (h : Same P A B) (p : Addr) (v : Value) (hp : ¬ P p.block) : Same P A (B.setCell p v) :=
  ⟨by simpa [World.setCell] using h.1, fun k hk hl => (Below.heap_setCell _ _ _ _ (by intro e; subst e; exact hp hk)).trans (h.2 k hk hl)⟩
end Go.Proofs.Ytmpckbgelkfgpaa
