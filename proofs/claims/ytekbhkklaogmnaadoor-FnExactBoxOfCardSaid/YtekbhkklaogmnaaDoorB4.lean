/- What the laws over boxes carry from call to call. No condition. -/
import Derived.Test.YtekbhkklaogmnaaDoorB3
namespace Go.Proofs.YtekbhkklaogmnaaDoor
open Go.RowKit
set_option linter.unusedVariables false
set_option maxRecDepth 100000

theorem Cel1.drew {w : World} {b : Nat} {x : Value} (h : Cel1 w b x) : Cel1 w.drew b x := h
theorem InRow.drew {w : World} {a : Option Addr} {len cap : Nat} {ps : List (Int × Int)} (h : InRow w a len cap ps) : InRow w.drew a len cap ps := h
theorem InRow.alloc {w : World} {a : Option Addr} {len cap : Nat} {ps : List (Int × Int)} (h : InRow w a len cap ps) (o : Obj) : InRow (w.alloc o) a len cap ps := h.old ((Below.refl _ _).alloc (Nat.le_refl _) o)
theorem InRow.set {w : World} {a : Option Addr} {len cap : Nat} {ps : List (Int × Int)} (h : InRow w a len cap ps) (p : Addr) (v : Value) (hne : ∀ q, a = some q → q.block ≠ p.block) : InRow (w.setCell p v) a len cap ps := by
  obtain ⟨h1, h2, h3, h4, h5⟩ := h
  refine ⟨h1, h2, h3, h4, ?_⟩
  rcases h5 with h5 | ⟨b, off, q1, q2, q3⟩
  · exact .inl h5
  · refine .inr ⟨b, off, q1, by simpa [World.setCell] using q2, fun i hi => ?_⟩
    have hn := hne _ q1
    rw [World.cell?_setCell_other _ _ _ _ (by intro e; subst e; exact hn rfl), World.cell?_setCell_other _ _ _ _ (by intro e; subst e; exact hn rfl)]
    exact q3 i hi

end Go.Proofs.YtekbhkklaogmnaaDoor
