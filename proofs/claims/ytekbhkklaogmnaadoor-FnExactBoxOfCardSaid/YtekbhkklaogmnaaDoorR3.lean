/- PairMeet and PairHull of the program and of the specification, at all pairs; nothing that was there is written. -/
import Derived.Test.YtekbhkklaogmnaaDoorR2
import Derived.Test.YtekbhkklaogmnaaDoorF2
import Derived.Deep.RegionHeld3
namespace Go.Proofs.YtekbhkklaogmnaaDoor
open Go.RowKit

/-- two cells of a block of our own, that may be written -/
def Cel2 (w : World) (b : Nat) (x y : Value) : Prop := w.cell? ⟨b, 0, none⟩ = some x ∧ w.cell? ⟨b, 1, none⟩ = some y ∧ w.frozen? ⟨b, 0, none⟩ = false ∧ w.frozen? ⟨b, 1, none⟩ = false ∧ b < w.heap.size
theorem Cel2.later {w w1 : World} {b : Nat} {x y : Value} (h : Cel2 w b x y) (hb : Below w.heap.size w w1) : Cel2 w1 b x y := by
  obtain ⟨h1, h2, h3, h4, h5⟩ := h
  exact ⟨(hb.cell (p := ⟨b, 0, none⟩) h5).trans h1, (hb.cell (p := ⟨b, 1, none⟩) h5).trans h2, (hb.frozen (p := ⟨b, 0, none⟩) h5).trans h3, (hb.frozen (p := ⟨b, 1, none⟩) h5).trans h4, Nat.lt_of_lt_of_le h5 hb.size⟩
theorem Cel2.alloc {w : World} {b : Nat} {x y : Value} (h : Cel2 w b x y) (o : Obj) : Cel2 (w.alloc o) b x y := h.later ((Below.refl _ _).alloc (Nat.le_refl _) o)
theorem Cel2.drew {w : World} {b : Nat} {x y : Value} (h : Cel2 w b x y) : Cel2 w.drew b x y := h
theorem Cel2.made (w : World) (b : Nat) (hb : b = w.heap.size) (x y : Value) (t : TypeId) : Cel2 (w.alloc (.cells #[x, y] t)) b x y := by subst hb; exact ⟨by simp, by simp, by simp, by simp, by simp⟩

theorem lt3 {w w1 : World} {o1 o2 o3 : Obj} (hb : Below (((w.alloc o1).alloc o2).alloc o3).heap.size (((w.alloc o1).alloc o2).alloc o3) w1) : w.heap.size < w1.heap.size ∧ w.heap.size + 1 < w1.heap.size ∧ w.heap.size + 1 + 1 < w1.heap.size := by
  have := hb.size
  simp at this
  omega
theorem lt4 {w w1 : World} {o1 o2 o3 o4 : Obj} (hb : Below ((((w.alloc o1).alloc o2).alloc o3).alloc o4).heap.size ((((w.alloc o1).alloc o2).alloc o3).alloc o4) w1) : w.heap.size < w1.heap.size ∧ w.heap.size + 1 < w1.heap.size ∧ w.heap.size + 1 + 1 < w1.heap.size ∧ w.heap.size + 1 + 1 + 1 < w1.heap.size := by
  have := hb.size
  simp at this
  omega
theorem lts {a b c : Nat} {w w1 : World} {o : Obj} (hb : Below (w.alloc o).heap.size (w.alloc o) w1) (h : a < w.heap.size ∧ b < w.heap.size ∧ c < w.heap.size) : a < w1.heap.size ∧ b < w1.heap.size ∧ c < w1.heap.size ∧ w.heap.size < w1.heap.size := by
  have := hb.size
  simp at this
  omega
theorem ltn {a b c d : Nat} {w w1 : World} (hb : Below w.heap.size w w1) (h : a < w.heap.size ∧ b < w.heap.size ∧ c < w.heap.size ∧ d < w.heap.size) : a < w1.heap.size ∧ b < w1.heap.size ∧ c < w1.heap.size ∧ d < w1.heap.size := by
  have := hb.size
  omega

def meetB (wd a b c d : Int) : Bool := pokB wd a b && (pokB wd c d && decide (max a c ≤ min b d))
def hullB (wd a b c d : Int) : Bool := pokB wd a b && pokB wd c d
def pairV (r : Bool) (x y : Int) : Value := .tuple #[if r then .agg #[.int .i64 x, .int .i64 y] else .agg #[.int .i64 0, .int .i64 0], .bool r]

theorem pairV_no (x y : Int) {r : Bool} (h : r = false) : Ending.returned (.tuple #[.agg #[.int .i64 0, .int .i64 0], .bool false]) = .returned (pairV r x y) := by rw [h]; rfl
theorem pairV_yes (x y : Int) {r : Bool} (h : r = true) : Ending.returned (.tuple #[.agg #[.int .i64 x, .int .i64 y], .bool true]) = .returned (pairV r x y) := by rw [h]; rfl

end Go.Proofs.YtekbhkklaogmnaaDoor
