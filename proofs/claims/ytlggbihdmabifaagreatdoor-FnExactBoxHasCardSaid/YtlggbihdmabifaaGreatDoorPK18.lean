/- The fraction of a sign and two numbers: by the program and by the specification; a law's own marks of fractions. Conditions, of the program: the library's table and its handle of errors hold what their texts lay. -/
import Derived.Test.YtlggbihdmabifaaGreatDoorPK17
import Derived.Deep.DeepCutAuto
import Derived.LoopN
namespace Go.Proofs.YtlggbihdmabifaaGreatDoor
open Go.RowKit
set_option linter.unusedVariables false
set_option maxRecDepth 100000

theorem sl (a : Option Addr) (l c : Nat) : ∃ a' l' c', Value.slice a l c = .slice a' l' c' := ⟨a, l, c, rfl⟩
/-- an answer put into a variable -/
theorem FRes.put {w w' : World} {base n b : Nat} {ok s : Bool} {A B : Nat} {av av' : Option Addr} {cv cv' : Nat} (h1 : OI w n av cv (fT ok A B)) (h2 : OI w n av' cv' (fU ok A B)) (h3 : Sep av av') (hb : base ≤ n) (hn : b < n) :
    FRes (((w.setCell ⟨b, 0, none⟩ (.bool (fS ok s A))).setCell ⟨b, 1, none⟩ (.slice av (fT ok A B).length cv)).setCell ⟨b, 2, none⟩ (.slice av' (fU ok A B).length cv')) base (.returned (.tuple #[.agg #[.bool (fS ok s A), .slice av (fT ok A B).length cv, .slice av' (fU ok A B).length cv'], .bool ok])) ok s A B :=
  ⟨av, cv, av', cv', rfl, (oi_set3 h1 hn).mono hb, (oi_set3 h2 hn).mono hb, h3⟩
end Go.Proofs.YtlggbihdmabifaaGreatDoor

/- Fractions without their sign, and with the other one: the program. Conditions: the library's table and its handle of errors hold what their texts lay. -/
namespace Go.Proofs.YtlggbihdmabifaaGreatDoor
open Go.RowKit
set_option linter.unusedVariables false
set_option maxRecDepth 100000

theorem FRes.any {w : World} {base : Nat} {e : Ending} {s s' : Bool} {A B A' B' : Nat} (h : FRes w base e false s A B) : FRes w base e false s' A' B' := h
end Go.Proofs.YtlggbihdmabifaaGreatDoor

/- Fractions without their sign: the specification. No condition. -/
namespace Go.Proofs.YtlggbihdmabifaaGreatDoor
open Go.RowKit
set_option linter.unusedVariables false
set_option maxRecDepth 100000

theorem Cel3.c0 {w : World} {b : Nat} {v0 v1 v2 : Value} (h : Cel3 w b v0 v1 v2) : w.cell? ⟨b, 0, none⟩ = some v0 := h.2.1.1
theorem Cel3.c1 {w : World} {b : Nat} {v0 v1 v2 : Value} (h : Cel3 w b v0 v1 v2) : w.cell? ⟨b, 1, none⟩ = some v1 := h.2.1.2.1
theorem Cel3.c2 {w : World} {b : Nat} {v0 v1 v2 : Value} (h : Cel3 w b v0 v1 v2) : w.cell? ⟨b, 2, none⟩ = some v2 := h.2.1.2.2
theorem Cel3.f0 {w : World} {b : Nat} {v0 v1 v2 : Value} (h : Cel3 w b v0 v1 v2) : w.frozen? ⟨b, 0, none⟩ = false := h.2.2.1
theorem Cel3.f1 {w : World} {b : Nat} {v0 v1 v2 : Value} (h : Cel3 w b v0 v1 v2) : w.frozen? ⟨b, 1, none⟩ = false := h.2.2.2.1
theorem Cel3.f2 {w : World} {b : Nat} {v0 v1 v2 : Value} (h : Cel3 w b v0 v1 v2) : w.frozen? ⟨b, 2, none⟩ = false := h.2.2.2.2
theorem Cel3.drew {w : World} {b : Nat} {v0 v1 v2 : Value} (h : Cel3 w b v0 v1 v2) : Cel3 w.drew b v0 v1 v2 := h
end Go.Proofs.YtlggbihdmabifaaGreatDoor

/- Sums of two ratios, from nothing on: the program. Conditions: digits, 1024 at most; a ratio that is below 0 is not 0. -/
namespace Go.Proofs.YtlggbihdmabifaaGreatDoor
open Go.RowKit
set_option linter.unusedVariables false
set_option maxRecDepth 100000

/-- six cells of a block -/
def Cel6 (w : World) (p : Nat) (v0 v1 v2 v3 v4 v5 : Value) : Prop := p < w.heap.size ∧ w.cell? ⟨p, 0, none⟩ = some v0 ∧ w.cell? ⟨p, 1, none⟩ = some v1 ∧ w.cell? ⟨p, 2, none⟩ = some v2 ∧ w.cell? ⟨p, 3, none⟩ = some v3 ∧ w.cell? ⟨p, 4, none⟩ = some v4 ∧ w.cell? ⟨p, 5, none⟩ = some v5
theorem Cel6.old {w w' : World} {p : Nat} {v0 v1 v2 v3 v4 v5 : Value} (h : Cel6 w p v0 v1 v2 v3 v4 v5) (g : Below w.heap.size w w') : Cel6 w' p v0 v1 v2 v3 v4 v5 := by
  obtain ⟨h0, a0, a1, a2, a3, a4, a5⟩ := h
  exact ⟨Nat.lt_of_lt_of_le h0 g.size, (g.cell (p := ⟨p, 0, none⟩) h0).trans a0, (g.cell (p := ⟨p, 1, none⟩) h0).trans a1, (g.cell (p := ⟨p, 2, none⟩) h0).trans a2, (g.cell (p := ⟨p, 3, none⟩) h0).trans a3, (g.cell (p := ⟨p, 4, none⟩) h0).trans a4, (g.cell (p := ⟨p, 5, none⟩) h0).trans a5⟩
end Go.Proofs.YtlggbihdmabifaaGreatDoor
