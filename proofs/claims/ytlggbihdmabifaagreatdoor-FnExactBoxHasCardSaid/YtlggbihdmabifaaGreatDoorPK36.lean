/- PairMeet and PairHull of the program and of the specification, at all pairs; nothing that was there is written. -/
import Derived.Test.YtlggbihdmabifaaGreatDoorPK31
import Derived.Test.YtlggbihdmabifaaGreatDoorPK19
import Derived.Deep.RegionHeld3
import Derived.Test.YtlggbihdmabifaaGreatDoorPK01
namespace Go.Proofs.YtlggbihdmabifaaGreatDoor
open Go.RowKit

/-- two cells of a block of our own, that may be written -/
def Cel2 (w : World) (b : Nat) (x y : Value) : Prop := w.cell? ⟨b, 0, none⟩ = some x ∧ w.cell? ⟨b, 1, none⟩ = some y ∧ w.frozen? ⟨b, 0, none⟩ = false ∧ w.frozen? ⟨b, 1, none⟩ = false ∧ b < w.heap.size
theorem Cel2.later {w w1 : World} {b : Nat} {x y : Value} (h : Cel2 w b x y) (hb : Below w.heap.size w w1) : Cel2 w1 b x y := by
  obtain ⟨h1, h2, h3, h4, h5⟩ := h
  exact ⟨(hb.cell (p := ⟨b, 0, none⟩) h5).trans h1, (hb.cell (p := ⟨b, 1, none⟩) h5).trans h2, (hb.frozen (p := ⟨b, 0, none⟩) h5).trans h3, (hb.frozen (p := ⟨b, 1, none⟩) h5).trans h4, Nat.lt_of_lt_of_le h5 hb.size⟩
theorem Cel2.alloc {w : World} {b : Nat} {x y : Value} (h : Cel2 w b x y) (o : Obj) : Cel2 (w.alloc o) b x y := h.later ((Below.refl _ _).alloc (Nat.le_refl _) o)
theorem Cel2.drew {w : World} {b : Nat} {x y : Value} (h : Cel2 w b x y) : Cel2 w.drew b x y := h
theorem Cel2.made (w : World) (b : Nat) (hb : b = w.heap.size) (x y : Value) (t : TypeId) : Cel2 (w.alloc (.cells #[x, y] t)) b x y := by subst hb; exact ⟨by simp, by simp, by simp, by simp, by simp⟩

theorem lt3 {w w1 : World} {o1 o2 o3 : Obj} (hb : Below (((w.alloc o1).alloc o2).alloc o3).heap.size (((w.alloc o1).alloc o2).alloc o3) w1) : w.heap.size < w1.heap.size ∧ w.heap.size + 1 < w1.heap.size ∧ w.heap.size + 1 + 1 < w1.heap.size := by
  have := hb.size
  simp at this
  omega
theorem lt4 {w w1 : World} {o1 o2 o3 o4 : Obj} (hb : Below ((((w.alloc o1).alloc o2).alloc o3).alloc o4).heap.size ((((w.alloc o1).alloc o2).alloc o3).alloc o4) w1) : w.heap.size < w1.heap.size ∧ w.heap.size + 1 < w1.heap.size ∧ w.heap.size + 1 + 1 < w1.heap.size ∧ w.heap.size + 1 + 1 + 1 < w1.heap.size := by
  have := hb.size
  simp at this
  omega
end Go.Proofs.YtlggbihdmabifaaGreatDoor

/- PairCut of the program and of the specification, at all pairs: one closed form for both; nothing that was there is written. -/
namespace Go.Proofs.YtlggbihdmabifaaGreatDoor
open Go.RowKit

/-- three cells of a block of our own -/
def Cel3R (w : World) (b : Nat) (x y z : Value) : Prop := w.cell? ⟨b, 0, none⟩ = some x ∧ w.cell? ⟨b, 1, none⟩ = some y ∧ w.cell? ⟨b, 1 + 1, none⟩ = some z ∧ w.cell? ⟨b, 2, none⟩ = some z ∧ b < w.heap.size
theorem Cel3R.later {w w1 : World} {b : Nat} {x y z : Value} (h : Cel3R w b x y z) (hb : Below w.heap.size w w1) : Cel3R w1 b x y z := by
  obtain ⟨h1, h2, h3, h4, h5⟩ := h
  exact ⟨(hb.cell (p := ⟨b, 0, none⟩) h5).trans h1, (hb.cell (p := ⟨b, 1, none⟩) h5).trans h2, (hb.cell (p := ⟨b, 1 + 1, none⟩) h5).trans h3, (hb.cell (p := ⟨b, 2, none⟩) h5).trans h4, Nat.lt_of_lt_of_le h5 hb.size⟩
theorem Cel3R.alloc {w : World} {b : Nat} {x y z : Value} (h : Cel3R w b x y z) (o : Obj) : Cel3R (w.alloc o) b x y z := h.later ((Below.refl _ _).alloc (Nat.le_refl _) o)
theorem Cel3R.made (w : World) (b : Nat) (hb : b = w.heap.size) (x y z : Value) (t : TypeId) : Cel3R (w.alloc (.cells #[x, y, z] t)) b x y z := by subst hb; exact ⟨by simp, by simp, by simp, by simp, by simp⟩

end Go.Proofs.YtlggbihdmabifaaGreatDoor
