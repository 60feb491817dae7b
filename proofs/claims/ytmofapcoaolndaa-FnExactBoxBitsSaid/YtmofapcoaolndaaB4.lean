/- What the laws over boxes carry from call to call. No condition. -/
import Derived.Test.YtmofapcoaolndaaB3
namespace Go.Proofs.Ytmofapcoaolndaa
open Go.RowKit
set_option linter.unusedVariables false

theorem Cel1.drew {w : World} {b : Nat} {x : Value} (h : Cel1 w b x) : Cel1 w.drew b x := h
theorem InRow.drew {w : World} {a : Option Addr} {len cap : Nat} {ps : List (Int × Int)} (h : InRow w a len cap ps) : InRow w.drew a len cap ps := h
theorem InRow.alloc {w : World} {a : Option Addr} {len cap : Nat} {ps : List (Int × Int)} (h : InRow w a len cap ps) (o : Obj) : InRow (w.alloc o) a len cap ps := h.old ((Below.refl _ _).alloc (Nat.le_refl _) o)
theorem InRow.set {w : World} {a : Option Addr} {len cap : Nat} {ps : List (Int × Int)} (h : InRow w a len cap ps) (p : Addr) (v : Value) (hne : ∀ q, a = some q → q.block ≠ p.block) : InRow (w.setCell p v) a len cap ps := by
  obtain ⟨h1, h2, h3, h4, h5⟩ := h
  refine ⟨h1, h2, h3, h4, ?_⟩
  rcases h5 with h5 | ⟨b, off, q1, q2, q3⟩
  · exact .inl h5
  · refine .inr ⟨b, off, q1, by simpa [World.setCell] using q2, fun i hi => ?_⟩
    have hn := hne _ q1
    rw [World.cell?_setCell_other _ _ _ _ (by intro e; subst e; exact hn rfl), World.cell?_setCell_other _ _ _ _ (by intro e; subst e; exact hn rfl)]
    exact q3 i hi

theorem toBoxI (a : Option Addr) (cap : Nat) (ps : List (Int × Int)) (w : World) (hR : InRow w a ps.length cap ps) (hl : ps.length ≤ 1048576) :
    Calls Try.prog 8 #[.agg #[.slice a ps.length cap]] w fun e w' => (∃ b, e = .returned (.agg #[.slice (some ⟨b, 0, none⟩) ps.length ps.length]) ∧ w.heap.size ≤ b ∧ InRow w' (some ⟨b, 0, none⟩) ps.length ps.length ps) ∧ Below w.heap.size w w' := by
  refine (lToBox a ps.length cap ps w hR hl).mono ?_
  rintro e w' ⟨⟨b, he, hb, hr⟩, h⟩
  exact ⟨⟨b, he, hb, hr.inRow hR.2.2.2.1 (Nat.le_refl _) (Nat.le_trans hR.2.1 hR.2.2.1)⟩, h⟩
end Go.Proofs.Ytmofapcoaolndaa
