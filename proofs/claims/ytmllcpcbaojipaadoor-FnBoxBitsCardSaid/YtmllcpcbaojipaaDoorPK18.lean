/- Boxes that the walks of the laws hold: what is theirs, and what abides a mark set elsewhere. No condition. -/
import Derived.Test.YtmllcpcbaojipaaDoorPK16
import Derived.Test.YtmllcpcbaojipaaDoorPK17
import Derived.Deep.RegionHeld3
namespace Go.Proofs.YtmllcpcbaojipaaDoor
open Go.RowKit
set_option linter.unusedVariables false
set_option maxRecDepth 100000

/-- a box in memory of its own, at or beyond base; or an empty one -/
def OB (w : World) (base : Nat) (av : Option Addr) (cv : Nat) (ps : List (Int × Int)) : Prop :=
  Fits ps ∧ ps.length ≤ cv ∧ cv ≤ maxLen ∧ ((av = none ∧ ps = []) ∨ ∃ g, av = some ⟨g, 0, none⟩ ∧ base ≤ g ∧ Row w g ps)
section
variable {w w' : World} {base cv : Nat} {av : Option Addr} {ps : List (Int × Int)}
theorem OB.inRow (h : OB w base av cv ps) : InRow w av ps.length cv ps := by
  obtain ⟨h1, h2, h3, ⟨rfl, rfl⟩ | ⟨g, rfl, h4, h5⟩⟩ := h
  · exact ⟨rfl, h2, h3, h1, .inl rfl⟩
  · exact h5.inRow h1 h2 h3
theorem OB.later (h : OB w base av cv ps) (k : Below w.heap.size w w') : OB w' base av cv ps := by
  obtain ⟨h1, h2, h3, h4 | ⟨g, h4, h5, h6⟩⟩ := h
  · exact ⟨h1, h2, h3, .inl h4⟩
  · exact ⟨h1, h2, h3, .inr ⟨g, h4, h5, h6.old k⟩⟩
theorem OB.alloc (h : OB w base av cv ps) (o : Obj) : OB (w.alloc o) base av cv ps := h.later ((Below.refl _ _).alloc (Nat.le_refl _) o)
theorem OB.drew (h : OB w base av cv ps) : OB w.drew base av cv ps := h
theorem OB.kept {row : Option Nat} (h : OB w base av cv ps) (g : w.grownBy w' row) (hne : ∀ q, av = some q → some q.block ≠ row) : OB w' base av cv ps := by
  obtain ⟨h1, h2, h3, h4 | ⟨c, h4, h5, h6⟩⟩ := h
  · exact ⟨h1, h2, h3, .inl h4⟩
  · exact ⟨h1, h2, h3, .inr ⟨c, h4, h5, h6.kept g (hne _ h4)⟩⟩
theorem OB.lt (h : OB w base av cv ps) : ∀ q, av = some q → q.block < w.heap.size := by
  intro q e
  obtain ⟨h1, h2, h3, ⟨rfl, _⟩ | ⟨c, rfl, h5, h6⟩⟩ := h
  · cases e
  · cases e; exact h6.1
theorem OB.ge (h : OB w base av cv ps) : ∀ q, av = some q → base ≤ q.block := by
  intro q e
  obtain ⟨h1, h2, h3, ⟨rfl, _⟩ | ⟨c, rfl, h5, h6⟩⟩ := h
  · cases e
  · cases e; exact h5
theorem InRow.far {a : Option Addr} {len cap : Nat} (h : InRow w a len cap ps) : 0 < len → ∀ q, a = some q → q.block < w.heap.size := by
  intro h0 q e
  rcases h.2.2.2.2 with h5 | ⟨b, off, q1, q2, -⟩
  · omega
  · rw [q1] at e; cases e; exact q2
theorem InRow.kept' {a : Option Addr} {len cap : Nat} {row : Option Nat} (h : InRow w a len cap ps) (g : w.grownBy w' row) (hne : 0 < len → ∀ q, a = some q → some q.block ≠ row) : InRow w' a len cap ps := by
  by_cases h0 : 0 < len
  · exact h.kept g (hne h0)
  · exact ⟨h.1, h.2.1, h.2.2.1, h.2.2.2.1, .inl (by omega)⟩
end
theorem fits_nil : Fits [] := fun p hp => absurd hp (by simp)
def resL (r : Bool) (ps : List (Int × Int)) : List (Int × Int) := if r then ps else []
theorem BoxRes.ob {n0 : Nat} {w' : World} {e : Ending} {r : Bool} {ps : List (Int × Int)} (h : BoxRes n0 w' e r ps) (hf : r = true → Fits ps) : ∃ av cv, e = .returned (.tuple #[.agg #[.slice av (resL r ps).length cv], .bool r]) ∧ OB w' n0 av cv (resL r ps) := by
  rcases h with ⟨rfl, g, cap, he, h1, h2, h3, h4⟩ | ⟨rfl, he⟩
  · exact ⟨_, _, he, hf rfl, h2, h3, .inr ⟨g, rfl, h1, h4⟩⟩
  · exact ⟨none, 0, he, fits_nil, Nat.le_refl _, Nat.zero_le _, .inl ⟨rfl, rfl⟩⟩
end Go.Proofs.YtmllcpcbaojipaaDoor

/- What two boxes have in common: the specification's loop, the program's box of each place. Conditions: 2^20 pairs at most. -/
namespace Go.Proofs.YtmllcpcbaojipaaDoor
open Go.RowKit
set_option linter.unusedVariables false
set_option maxRecDepth 100000

theorem cell_al' {w : World} {p : Addr} {v : Value} (c : w.cell? p = some v) (o : Obj) : (w.alloc o).cell? p = some v := (World.grownBy_alloc w o none).cell c (by simp)
end Go.Proofs.YtmllcpcbaojipaaDoor
