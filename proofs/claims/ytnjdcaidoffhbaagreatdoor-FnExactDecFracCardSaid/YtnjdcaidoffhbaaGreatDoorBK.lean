/- Fractions in memory: a law's own size, copy and comparison of them. Conditions: lists of 2^20 numbers at most. -/
import Derived.Test.YtnjdcaidoffhbaaGreatDoorBC
import Derived.Deep.RegionHeld3
import Derived.Test.YtnjdcaidoffhbaaGreatDoorBI
import Derived.Test.YtnjdcaidoffhbaaGreatDoorFA
namespace Go.Proofs.YtnjdcaidoffhbaaGreatDoor
open Go.RowKit
set_option linter.unusedVariables false
set_option maxRecDepth 100000

/-- a block of three values -/
def Cel3 (w : World) (b : Nat) (v0 v1 v2 : Value) : Prop := b < w.heap.size ∧ (w.cell? ⟨b, 0, none⟩ = some v0 ∧ w.cell? ⟨b, 1, none⟩ = some v1 ∧ w.cell? ⟨b, 2, none⟩ = some v2) ∧ w.frozen? ⟨b, 0, none⟩ = false ∧ w.frozen? ⟨b, 1, none⟩ = false ∧ w.frozen? ⟨b, 2, none⟩ = false
theorem Cel3.old {w w' : World} {b : Nat} {v0 v1 v2 : Value} (h : Cel3 w b v0 v1 v2) (g : Below w.heap.size w w') : Cel3 w' b v0 v1 v2 := by
  obtain ⟨h1, ⟨a, b', c⟩, e, f, g'⟩ := h
  exact ⟨Nat.lt_of_lt_of_le h1 g.size, ⟨(g.cell (p := ⟨b, 0, none⟩) h1).trans a, (g.cell (p := ⟨b, 1, none⟩) h1).trans b', (g.cell (p := ⟨b, 2, none⟩) h1).trans c⟩, (g.frozen (p := ⟨b, 0, none⟩) h1).trans e, (g.frozen (p := ⟨b, 1, none⟩) h1).trans f, (g.frozen (p := ⟨b, 2, none⟩) h1).trans g'⟩
theorem Cel3.new (w : World) (v0 v1 v2 : Value) (t : TypeId) : Cel3 (w.alloc (.cells #[v0, v1, v2] t)) w.heap.size v0 v1 v2 := by
  refine ⟨by simp, ⟨?_, ?_, ?_⟩, ?_, ?_, ?_⟩ <;> simp [go_sem]
theorem Cel3.kept {w w' : World} {b : Nat} {v0 v1 v2 : Value} {row : Option Nat} (h : Cel3 w b v0 v1 v2) (g : w.grownBy w' row) (hne : some b ≠ row) : Cel3 w' b v0 v1 v2 := by
  obtain ⟨h1, ⟨a, b', c⟩, e, f, g'⟩ := h
  have k := g.block b h1 hne
  exact ⟨Nat.lt_of_lt_of_le h1 g.size, ⟨(World.cell?_of_block (a := ⟨b, 0, none⟩) k).trans a, (World.cell?_of_block (a := ⟨b, 1, none⟩) k).trans b', (World.cell?_of_block (a := ⟨b, 2, none⟩) k).trans c⟩, (World.frozen?_of_block (a := ⟨b, 0, none⟩) k).trans e, (World.frozen?_of_block (a := ⟨b, 1, none⟩) k).trans f, (World.frozen?_of_block (a := ⟨b, 2, none⟩) k).trans g'⟩
theorem Cel3.far {W : World} {b c i : Nat} {v0 v1 v2 v : Value} (h : Cel3 W b v0 v1 v2) (hn : b ≠ c) : Cel3 (W.setCell ⟨c, i, none⟩ v) b v0 v1 v2 := by
  obtain ⟨h1, ⟨a0, a1, a2⟩, f0, f1, f2⟩ := h
  have o : ∀ (j : Nat), (W.setCell ⟨c, i, none⟩ v).cell? ⟨b, j, none⟩ = W.cell? ⟨b, j, none⟩ := fun j => World.cell?_setCell_other _ _ _ _ (by intro h; injection h with h2 _; omega)
  exact ⟨by simpa [World.setCell] using h1, ⟨(o 0).trans a0, (o 1).trans a1, (o 2).trans a2⟩, by simpa using f0, by simpa using f1, by simpa using f2⟩
theorem setO (W : World) (b i j : Nat) (v : Value) (hn : i ≠ j) : (W.setCell ⟨b, j, none⟩ v).cell? ⟨b, i, none⟩ = W.cell? ⟨b, i, none⟩ := World.cell?_setCell_other _ _ _ _ (by intro h; injection h with _ h2; omega)
theorem Cel3.set1 {W : World} {b : Nat} {v0 v1 v2 : Value} (h : Cel3 W b v0 v1 v2) (v : Value) : Cel3 (W.setCell ⟨b, 1, none⟩ v) b v0 v v2 := by
  obtain ⟨h1, ⟨a0, a1, a2⟩, f0, f1, f2⟩ := h
  exact ⟨by simpa [World.setCell] using h1, ⟨(setO _ _ _ _ _ (by omega)).trans a0, World.cell?_setCell_same _ _ _ a1, (setO _ _ _ _ _ (by omega)).trans a2⟩, by simpa using f0, by simpa using f1, by simpa using f2⟩
theorem Cel3.set2 {W : World} {b : Nat} {v0 v1 v2 : Value} (h : Cel3 W b v0 v1 v2) (v : Value) : Cel3 (W.setCell ⟨b, 2, none⟩ v) b v0 v1 v := by
  obtain ⟨h1, ⟨a0, a1, a2⟩, f0, f1, f2⟩ := h
  exact ⟨by simpa [World.setCell] using h1, ⟨(setO _ _ _ _ _ (by omega)).trans a0, (setO _ _ _ _ _ (by omega)).trans a1, World.cell?_setCell_same _ _ _ a2⟩, by simpa using f0, by simpa using f1, by simpa using f2⟩
theorem Cel3.set0 {W : World} {b : Nat} {v0 v1 v2 : Value} (h : Cel3 W b v0 v1 v2) (v : Value) : Cel3 (W.setCell ⟨b, 0, none⟩ v) b v v1 v2 := by
  obtain ⟨h1, ⟨a0, a1, a2⟩, f0, f1, f2⟩ := h
  exact ⟨by simpa [World.setCell] using h1, ⟨World.cell?_setCell_same _ _ _ a0, (setO _ _ _ _ _ (by omega)).trans a1, (setO _ _ _ _ _ (by omega)).trans a2⟩, by simpa using f0, by simpa using f1, by simpa using f2⟩
theorem below_set {n : Nat} {a W : World} (h : Below n a W) {b i : Nat} (hb : n ≤ b) (v : Value) : Below n a (W.setCell ⟨b, i, none⟩ v) := h.setCell (p := ⟨b, i, none⟩) hb _

theorem grown_refl (w : World) (r : Option Nat) : w.grownBy w r := ⟨rfl, rfl, rfl, Nat.le_refl _, fun _ _ _ => rfl⟩
theorem oi_setFar {w : World} {base cv b i : Nat} {av : Option Addr} {xs : List Int} {v : Value} (h : OI w base av cv xs) (hb : b < base) : OI (w.setCell ⟨b, i, none⟩ v) base av cv xs :=
  h.kept (grown_set (grown_refl w (some b)) i v) (fun q e e2 => by have := h.ge q e; injection e2 with e2; omega)
theorem oi_set3 {w : World} {base cv b : Nat} {av : Option Addr} {xs : List Int} {v0 v1 v2 : Value} (h : OI w base av cv xs) (hb : b < base) : OI (((w.setCell ⟨b, 0, none⟩ v0).setCell ⟨b, 1, none⟩ v1).setCell ⟨b, 2, none⟩ v2) base av cv xs :=
  oi_setFar (oi_setFar (oi_setFar h hb) hb) hb
theorem setCell_size (w : World) (a : Addr) (v : Value) : (w.setCell a v).heap.size = w.heap.size := by simp [World.setCell]
theorem Cel3.setAll {W : World} {b : Nat} {u0 u1 u2 : Value} (h : Cel3 W b u0 u1 u2) (v0 v1 v2 : Value) : Cel3 (((W.setCell ⟨b, 0, none⟩ v0).setCell ⟨b, 1, none⟩ v1).setCell ⟨b, 2, none⟩ v2) b v0 v1 v2 := ((h.set0 v0).set1 v1).set2 v2
def szF (l1 l2 : Nat) (left : Int) : Int := if (l1 : Int) + l2 ≤ left then left - l1 - l2 else -1
end Go.Proofs.YtnjdcaidoffhbaaGreatDoor

/- Fractions on the way in: two numbers, whether they are a fraction; by the program. Conditions: the library's table and its handle of errors hold what their texts lay. -/
namespace Go.Proofs.YtnjdcaidoffhbaaGreatDoor
open Go.RowKit
set_option linter.unusedVariables false
set_option maxRecDepth 100000

theorem natL_one : natL 1 = [1] := by
  rw [natL, dif_neg (by omega)]
  simp [natL_zero]
set_option maxHeartbeats 1000000 in
theorem iOne (w : World) : Calls Tryz.prog 50 #[] w fun e w' => (∃ av cv, e = .returned (.slice av (natL 1).length cv) ∧ OI w' w.heap.size av cv (natL 1)) ∧ Below w.heap.size w w' := by
  rw [natL_one]
  have hr : IRow (w.alloc (.cells #[.int .i64 1] 3)) w.heap.size [1] := ⟨by simp, fun i hi => by
    obtain rfl : i = 0 := by simp at hi; omega
    simp⟩
  go_enter Tryz.func50, Tryz.ntmps50
  go_wp2
  go_ret
  exact ⟨⟨_, _, rfl, fun x hx => by simp at hx; subst hx; omega, Nat.le_refl _, by unfold maxLen; omega, .inr ⟨_, rfl, Nat.le_refl _, hr⟩⟩, (by repeat (first | exact Below.refl _ _ | refine Below.drew ?_ | refine old_alloc ?_ _ | refine old_trans ?_ (by assumption)))⟩
set_option maxHeartbeats 1000000 in
theorem iDivisor (a b : Option Addr) (la lb ca cb : Nat) (xs ys : List Int) (w : World) (hA : InI w a la ca xs) (hB : InI w b lb cb ys) (hx : digs xs) (hy : digs ys) (tx : topped xs) (ty : topped ys) (hla : la ≤ 1024) (hlb : lb ≤ 1024) (hT : Tab w) :
    Calls Tryz.prog 37 #[.agg #[.slice a la ca, .slice b lb cb]] w fun e w' => (∃ av cv, e = .returned (.slice av (natL (Nat.gcd (val xs) (val ys))).length cv) ∧ OI w' w.heap.size av cv (natL (Nat.gcd (val xs) (val ys)))) ∧ Below w.heap.size w w' := by
  have hb0 : Below w.heap.size w (w.alloc (.cells #[.slice a la ca, .slice b lb cb] 49)) := old_alloc (Below.refl _ _) _
  have C := hd (iCommon a b la lb ca cb xs ys _ (hA.old hb0) (hB.old hb0) hx hy tx ty hla hlb (hT.old hb0))
  have hs := hb0.size
  generalize natL (Nat.gcd (val xs) (val ys)) = gl at *
  go_enter Tryz.func37, Tryz.ntmps37
  go_wp2_with fail
  refine C.out.mono ?_
  rintro e w1 ⟨⟨av, cv, rfl, hO⟩, hb1⟩
  go_wp2
  go_ret
  exact ⟨⟨_, _, rfl, hO.mono hs⟩, old_trans hb0 hb1⟩
/-- a fault of fractions -/
def isFault (v : Value) : Prop := ∃ s : ByteArray, v = .iface 69 (.agg #[.string s])
end Go.Proofs.YtnjdcaidoffhbaaGreatDoor

/- Whether two numbers and a sign are a fraction in lowest terms; by the program. Conditions: the library's table and its handle of errors hold what their texts lay. -/
namespace Go.Proofs.YtnjdcaidoffhbaaGreatDoor
open Go.RowKit
set_option linter.unusedVariables false
set_option maxRecDepth 100000

def fracOk (bl : Bool) (xs ys : List Int) : Bool := natOk xs && (natOk ys && (decide (ys.length ≠ 0) && (decide (Nat.gcd (val xs) (val ys) = 1) && !(bl && decide (xs.length = 0)))))
theorem fracOk_in {bl : Bool} {xs ys : List Int} (h : fracOk bl xs ys = true) : natOk xs = true ∧ natOk ys = true ∧ ys.length ≠ 0 ∧ Nat.gcd (val xs) (val ys) = 1 ∧ ¬ (bl = true ∧ xs.length = 0) := by
  unfold fracOk at h
  simp only [Bool.and_eq_true, decide_eq_true_eq, Bool.not_eq_true', Bool.and_eq_false_imp, decide_eq_false_iff_not] at h
  exact ⟨h.1, h.2.1, h.2.2.1, h.2.2.2.1, fun k => h.2.2.2.2 k.1 k.2⟩
theorem fracOk_mk {bl : Bool} {xs ys : List Int} (h1 : natOk xs = true) (h2 : natOk ys = true) (h3 : ys.length ≠ 0) (h4 : Nat.gcd (val xs) (val ys) = 1) (h5 : ¬ (bl = true ∧ xs.length = 0)) : fracOk bl xs ys = true := by
  unfold fracOk
  simp only [Bool.and_eq_true, decide_eq_true_eq, Bool.not_eq_true', Bool.and_eq_false_imp, decide_eq_false_iff_not]
  exact ⟨h1, h2, h3, h4, fun k e => h5 ⟨k, e⟩⟩
theorem fracOk_no {bl : Bool} {xs ys : List Int} (h : ¬ (natOk xs = true ∧ natOk ys = true ∧ ys.length ≠ 0 ∧ Nat.gcd (val xs) (val ys) = 1 ∧ ¬ (bl = true ∧ xs.length = 0))) : fracOk bl xs ys = false := by
  cases e : fracOk bl xs ys
  · rfl
  · exact absurd (fracOk_in e) h
end Go.Proofs.YtnjdcaidoffhbaaGreatDoor
