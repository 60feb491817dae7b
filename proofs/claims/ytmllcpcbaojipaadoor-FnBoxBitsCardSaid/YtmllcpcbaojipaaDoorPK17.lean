/- Two cells of a block behind a store into it, and behind a store into another block; what the walks of this seat's laws take from the library besides. -/
import Derived.Deep.DeepCutAuto
import Derived.Test.YtmllcpcbaojipaaDoorPK09
namespace Go.Proofs.YtmllcpcbaojipaaDoor
open Go.RowKit

theorem Cel2.stored {w : World} {b : Nat} {u v : Value} (h : Cel2 w b u v) (x y : Value) : Cel2 ((w.setCell ⟨b, 0, none⟩ x).setCell ⟨b, 1, none⟩ y) b x y := by
  obtain ⟨h1, h2, h3, h4, h5⟩ := h
  have e2 : (w.setCell ⟨b, 0, none⟩ x).cell? ⟨b, 1, none⟩ = some v := by
    rw [World.cell?_setCell_other _ _ _ _ (by intro h; injection h with _ h2; exact absurd h2 (by decide))]; exact h2
  refine ⟨?_, World.cell?_setCell_same _ _ _ e2, by simpa using h3, by simpa using h4, by simpa [World.setCell] using h5⟩
  rw [World.cell?_setCell_other _ _ _ _ (by intro h; injection h with _ h2; exact absurd h2 (by decide))]
  exact World.cell?_setCell_same _ _ _ h1
theorem Cel2.other {w : World} {b : Nat} {u v : Value} (h : Cel2 w b u v) (b' i : Nat) (hne : b ≠ b') (x : Value) : Cel2 (w.setCell ⟨b', i, none⟩ x) b u v := by
  obtain ⟨h1, h2, h3, h4, h5⟩ := h
  refine ⟨?_, ?_, by simpa using h3, by simpa using h4, by simpa [World.setCell] using h5⟩
  · rw [World.cell?_setCell_other _ _ _ _ (by intro h; injection h with h _; exact hne h.symm)]; exact h1
  · rw [World.cell?_setCell_other _ _ _ _ (by intro h; injection h with h _; exact hne h.symm)]; exact h2
theorem Cel2.others {w : World} {b : Nat} {u v : Value} (h : Cel2 w b u v) (b' : Nat) (hne : b ≠ b') (x y : Value) : Cel2 ((w.setCell ⟨b', 0, none⟩ x).setCell ⟨b', 1, none⟩ y) b u v := (h.other b' 0 hne x).other b' 1 hne y
end Go.Proofs.YtmllcpcbaojipaaDoor
