/- One cell of a variable, wherever it lies. -/
import Derived.Test.YtafpjgojmpjajaaN0
namespace Go.Proofs.Ytafpjgojmpjajaa
open Go.RowKit
set_option linter.unusedVariables false
set_option maxRecDepth 100000

def Cl1 (w : World) (b : Nat) (x : Value) : Prop := w.cell? ⟨b, 0, none⟩ = some x ∧ w.frozen? ⟨b, 0, none⟩ = false ∧ b < w.heap.size
theorem Cl1.later {w w1 : World} {b : Nat} {x : Value} (h : Cl1 w b x) (k : Below w.heap.size w w1) : Cl1 w1 b x :=
  ⟨(k.cell (p := ⟨b, 0, none⟩) h.2.2).trans h.1, (k.frozen (p := ⟨b, 0, none⟩) h.2.2).trans h.2.1, Nat.lt_of_lt_of_le h.2.2 k.size⟩
theorem Cl1.alloc {w : World} {b : Nat} {x : Value} (h : Cl1 w b x) (o : Obj) : Cl1 (w.alloc o) b x := h.later ((Below.refl _ _).alloc (Nat.le_refl _) o)
theorem Cl1.made (w : World) (b : Nat) (hb : b = w.heap.size) (x : Value) (t : TypeId) : Cl1 (w.alloc (.cells #[x] t)) b x := by subst hb; exact ⟨by simp, by simp, by simp⟩
theorem Cl1.drew {w : World} {b : Nat} {x : Value} (h : Cl1 w b x) : Cl1 w.drew b x := h
theorem Cl1.kept {w w' : World} {c : Nat} {v : Value} {row : Option Nat} (h : Cl1 w c v) (g : w.grownBy w' row) (hne : some c ≠ row) : Cl1 w' c v :=
  ⟨(World.cell?_of_block (a := ⟨c, 0, none⟩) (g.block c h.2.2 hne)).trans h.1, (World.frozen?_of_block (a := ⟨c, 0, none⟩) (g.block c h.2.2 hne)).trans h.2.1, Nat.lt_of_lt_of_le h.2.2 g.size⟩
end Go.Proofs.Ytafpjgojmpjajaa
