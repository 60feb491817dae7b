/- Sums of two ratios, from nothing on: the program. Conditions: digits, 1024 at most; a ratio that is below 0 is not 0. -/
import Derived.Test.YtnjdcaidoffhbaaGreatDoorFT
import Derived.LoopN
namespace Go.Proofs.YtnjdcaidoffhbaaGreatDoor
open Go.RowKit
set_option linter.unusedVariables false
set_option maxRecDepth 100000

def sumS (bl bm : Bool) (x y : Nat) : Bool := if bl = bm then bl else if x < y then bm else bl
def sumN (bl bm : Bool) (x y : Nat) : Nat := if bl = bm then x + y else if x < y then y - x else x - y
theorem resWhole {W : World} {b : Nat} {v0 v1 v2 : Value} {tmps : Array Value} (h : Cel3 W b v0 v1 v2) (ht : tmps[4]? = some (.pointer (some ⟨b, 0, none⟩))) : (results Tryz.f35 tmps).run Tryz.prog W = .ok (.agg #[v0, v1, v2]) W := by
  obtain ⟨h1, ⟨a0, a1, a2⟩, -⟩ := h
  simp [results, Tryz.results35, go_sem, a0, a1, a2, ht]
set_option maxHeartbeats 2000000 in
theorem iWhole (s : Bool) (a : Option Addr) (l k : Nat) (w : World) : Calls Tryz.prog 35 #[.bool s, .slice a l k] w fun e w' => (∃ av cv, e = .returned (.agg #[.bool s, .slice a l k, .slice av (natL 1).length cv]) ∧ OI w' w.heap.size av cv (natL 1)) ∧ Below w.heap.size w w' := by
  have e0 : Below w.heap.size w (w.alloc (.cells #[.bool false, .slice none 0 0, .slice none 0 0] 51)) := (by repeat (first | exact Below.refl _ _ | refine Below.drew ?_ | refine old_alloc ?_ _ | refine old_trans ?_ (by assumption)))
  have K := Cel3.new w (.bool false) (.slice none 0 0) (.slice none 0 0) 51
  have O := hd iOne
  generalize natL 1 = ol at *
  go_enter Tryz.func35, Tryz.ntmps35
  go_wp2_with fail
  refine (O.out _).mono ?_
  rintro e w1 ⟨⟨av, cv, rfl, hO⟩, hb1⟩
  have hs0 := K.1
  replace K := K.old hb1
  have hB1 := old_trans e0 hb1
  obtain ⟨m1, ⟨m2, m3, m4⟩, m5, m6, m7⟩ := id K
  have o1 := (oi_set3 (v0 := .bool s) (v1 := .slice a l k) (v2 := .slice av ol.length cv) hO hs0).mono e0.size
  clear hO
  go_wp2
  exact bodyPost_ret (resWhole (K.setAll (.bool s) (.slice a l k) (.slice av ol.length cv)) rfl) rfl ⟨⟨_, _, rfl, o1⟩, below_set (below_set (below_set hB1 (by omega) _) (by omega) _) (by omega) _⟩
theorem ini_nil (w : World) : InI w none 0 0 [] := ⟨rfl, Nat.le_refl _, Nat.zero_le _, fun x hx => absurd hx (by simp), .inl rfl⟩
/-- six cells of a block -/
def Cel6 (w : World) (p : Nat) (v0 v1 v2 v3 v4 v5 : Value) : Prop := p < w.heap.size ∧ w.cell? ⟨p, 0, none⟩ = some v0 ∧ w.cell? ⟨p, 1, none⟩ = some v1 ∧ w.cell? ⟨p, 2, none⟩ = some v2 ∧ w.cell? ⟨p, 3, none⟩ = some v3 ∧ w.cell? ⟨p, 4, none⟩ = some v4 ∧ w.cell? ⟨p, 5, none⟩ = some v5
theorem Cel6.old {w w' : World} {p : Nat} {v0 v1 v2 v3 v4 v5 : Value} (h : Cel6 w p v0 v1 v2 v3 v4 v5) (g : Below w.heap.size w w') : Cel6 w' p v0 v1 v2 v3 v4 v5 := by
  obtain ⟨h0, a0, a1, a2, a3, a4, a5⟩ := h
  exact ⟨Nat.lt_of_lt_of_le h0 g.size, (g.cell (p := ⟨p, 0, none⟩) h0).trans a0, (g.cell (p := ⟨p, 1, none⟩) h0).trans a1, (g.cell (p := ⟨p, 2, none⟩) h0).trans a2, (g.cell (p := ⟨p, 3, none⟩) h0).trans a3, (g.cell (p := ⟨p, 4, none⟩) h0).trans a4, (g.cell (p := ⟨p, 5, none⟩) h0).trans a5⟩
end Go.Proofs.YtnjdcaidoffhbaaGreatDoor
