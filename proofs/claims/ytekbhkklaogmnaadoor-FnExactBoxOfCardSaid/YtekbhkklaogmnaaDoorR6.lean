/- PairCut of the program and of the specification, at all pairs: one closed form for both; nothing that was there is written. -/
import Derived.Test.YtekbhkklaogmnaaDoorR5
namespace Go.Proofs.YtekbhkklaogmnaaDoor
open Go.RowKit

def cutB (wd a b c d : Int) : Bool := pokB wd a b && (decide (c < d) && (pokB wd a c && pokB wd d b))
def cutV (wd a b c d : Int) : Value := if gapI d b < gapI a c then pair2V (cutB wd a b c d) d b a c else pair2V (cutB wd a b c d) a c d b
theorem cutV_hi {wd a b c d : Int} (h : gapI d b < gapI a c) : cutV wd a b c d = pair2V (cutB wd a b c d) d b a c := by unfold cutV; rw [if_pos h]
theorem cutV_lo {wd a b c d : Int} (h : ¬ gapI d b < gapI a c) : cutV wd a b c d = pair2V (cutB wd a b c d) a c d b := by unfold cutV; rw [if_neg h]
theorem cutV_no {wd a b c d : Int} (h : cutB wd a b c d = false) : Ending.returned (.tuple #[.agg #[.int .i64 0, .int .i64 0], .agg #[.int .i64 0, .int .i64 0], .bool false]) = .returned (cutV wd a b c d) := by
  unfold cutV; split <;> exact pair2V_no _ _ _ _ h
theorem cutV_yes1 {wd a b c d : Int} (h : cutB wd a b c d = true) (g : gapI d b < gapI a c) : Ending.returned (.tuple #[.agg #[.int .i64 d, .int .i64 b], .agg #[.int .i64 a, .int .i64 c], .bool true]) = .returned (cutV wd a b c d) := by
  rw [cutV_hi g]; exact pair2V_yes _ _ _ _ h
theorem cutV_yes2 {wd a b c d : Int} (h : cutB wd a b c d = true) (g : ¬ gapI d b < gapI a c) : Ending.returned (.tuple #[.agg #[.int .i64 a, .int .i64 c], .agg #[.int .i64 d, .int .i64 b], .bool true]) = .returned (cutV wd a b c d) := by
  rw [cutV_lo g]; exact pair2V_yes _ _ _ _ h
/-- three cells of a block of our own -/
def Cel3 (w : World) (b : Nat) (x y z : Value) : Prop := w.cell? ⟨b, 0, none⟩ = some x ∧ w.cell? ⟨b, 1, none⟩ = some y ∧ w.cell? ⟨b, 1 + 1, none⟩ = some z ∧ w.cell? ⟨b, 2, none⟩ = some z ∧ b < w.heap.size
theorem Cel3.later {w w1 : World} {b : Nat} {x y z : Value} (h : Cel3 w b x y z) (hb : Below w.heap.size w w1) : Cel3 w1 b x y z := by
  obtain ⟨h1, h2, h3, h4, h5⟩ := h
  exact ⟨(hb.cell (p := ⟨b, 0, none⟩) h5).trans h1, (hb.cell (p := ⟨b, 1, none⟩) h5).trans h2, (hb.cell (p := ⟨b, 1 + 1, none⟩) h5).trans h3, (hb.cell (p := ⟨b, 2, none⟩) h5).trans h4, Nat.lt_of_lt_of_le h5 hb.size⟩
theorem Cel3.alloc {w : World} {b : Nat} {x y z : Value} (h : Cel3 w b x y z) (o : Obj) : Cel3 (w.alloc o) b x y z := h.later ((Below.refl _ _).alloc (Nat.le_refl _) o)
theorem Cel3.made (w : World) (b : Nat) (hb : b = w.heap.size) (x y z : Value) (t : TypeId) : Cel3 (w.alloc (.cells #[x, y, z] t)) b x y z := by subst hb; exact ⟨by simp, by simp, by simp, by simp, by simp⟩

end Go.Proofs.YtekbhkklaogmnaaDoor
