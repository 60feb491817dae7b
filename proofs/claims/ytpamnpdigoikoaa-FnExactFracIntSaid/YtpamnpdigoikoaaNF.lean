/- The iterator over places and digits, the highest ahead: it hands them out till a round says no. No condition but that the digits are there, and that the rounds leave them. -/
import Derived.Test.YtpamnpdigoikoaaBA
import Derived.RangeFuncNested
import Derived.RangeFuncBound
import Derived.RangeFuncCalls
import Derived.RangeFuncLeaves
import Derived.Shelf.Abstract
import Derived.Shelf.RegionOpen
import Derived.OwnWalkIn
import Derived.TacticsInMore
import Derived.LoopNIn
import Derived.LoopIn
namespace Go.Proofs.Ytpamnpdigoikoaa
open Go.RowKit Go.Shelf
attribute [local go_sem] Oper.semAt_some
set_option linter.unusedVariables false

theorem KeepsOthers.of_below {n : Nat} {w w' : World} (h : Below n w w') (hn : w.heap.size ≤ n) : KeepsOthers w w' :=
  KeepsOthers.of_grownBy (row := none) ⟨h.1, h.2, h.3, h.4, fun k hk _ => h.5 k (Nat.lt_of_lt_of_le hk hn)⟩ (by simp)
/-- what P names is as it was -/
def Same (P : Nat → Prop) (A B : World) : Prop := A.heap.size ≤ B.heap.size ∧ ∀ k, P k → k < A.heap.size → B.heap[k]? = A.heap[k]?
theorem Same.refl (P : Nat → Prop) (A : World) : Same P A A := ⟨Nat.le_refl _, fun _ _ _ => rfl⟩
theorem Same.trans {P : Nat → Prop} {A B C : World} (h : Same P A B) (k : Same P B C) : Same P A C := ⟨Nat.le_trans h.1 k.1, fun i hi hl => (k.2 i hi (Nat.lt_of_lt_of_le hl h.1)).trans (h.2 i hi hl)⟩
theorem Same.of_below {P : Nat → Prop} {n : Nat} {A B : World} (hP : ∀ k, P k → k < n) (h : Below n A B) : Same P A B := ⟨h.size, fun k hk _ => h.5 k (hP k hk)⟩
theorem Same.setCell {P : Nat → Prop} {A B : World} (h : Same P A B) (p : Addr) (v : Value) (hp : ¬ P p.block) : Same P A (B.setCell p v) :=
  ⟨by simpa [World.setCell] using h.1, fun k hk hl => (Below.heap_setCell _ _ _ _ (by intro e; subst e; exact hp hk)).trans (h.2 k hk hl)⟩
theorem InI.under {w w' : World} {P : Nat → Prop} {a : Option Addr} {len cap : Nat} {xs : List Int} (h : InI w a len cap xs) (b : Same P w w') (hn : 0 < len → ∀ q, a = some q → P q.block) : InI w' a len cap xs := by
  obtain ⟨h1, h2, h3, h4, h5⟩ := h
  refine ⟨h1, h2, h3, h4, ?_⟩
  by_cases h0 : len = 0
  · exact .inl h0
  rcases h5 with h5 | ⟨bb, off, q1, q2, q3⟩
  · exact .inl h5
  · have hb := hn (by omega) _ q1
    exact .inr ⟨bb, off, q1, Nat.lt_of_lt_of_le q2 b.1, fun i hi => (World.cell?_of_block (a := ⟨bb, off + i, none⟩) (b.2 bb hb q2)).trans (q3 i hi)⟩
/-- the first k places from the top -/
def downR (len k : Nat) : List Nat := (List.range k).map (fun i => len - 1 - i)
theorem downR_succ (len k : Nat) : downR len (k + 1) = downR len k ++ [len - 1 - k] := by simp [downR, List.range_succ]

theorem same_b {P : Nat → Prop} {n : Nat} {w : World} (hP : ∀ k, P k → k < n) (h : n ≤ w.heap.size) : ∀ (W : World) (l : Nat) (o o' : Obj), w.heap.size ≤ l → W.heap[l]? = some o → o.isCells = false → o.isWalk = false → Same P W (W.putObj l o') :=
  fun W l o o' h1 h2 h3 h4 => Same.of_below hP (belowK_b (w := w) h W l o o' h1 h2 h3 h4)
/-- the blocks that an iterator over a list wants kept -/
def KeepP (Bs : Nat) (a : Option Addr) (len : Nat) (k : Nat) : Prop := k = Bs ∨ (0 < len ∧ ∃ q, a = some q ∧ q.block = k)
theorem keepP_at {Bs : Nat} {a : Option Addr} {len : Nat} : 0 < len → ∀ q, a = some q → KeepP Bs a len q.block := fun h q e => .inr ⟨h, q, e, rfl⟩
theorem keepP_lt {Bs n : Nat} {a : Option Addr} {len : Nat} (h1 : Bs < n) (h2 : 0 < len → ∀ q, a = some q → q.block < n) : ∀ k, KeepP Bs a len k → k < n := by
  rintro k (rfl | ⟨h, q, e, rfl⟩)
  · exact h1
  · exact h2 h q e
end Go.Proofs.Ytpamnpdigoikoaa
