/- Fractions without their sign: the specification. No condition. -/
import Derived.Test.YtnjdcaidoffhbaaGreatDoorFK
namespace Go.Proofs.YtnjdcaidoffhbaaGreatDoor
open Go.RowKit
set_option linter.unusedVariables false
set_option maxRecDepth 100000

theorem Cel3.c0 {w : World} {b : Nat} {v0 v1 v2 : Value} (h : Cel3 w b v0 v1 v2) : w.cell? ⟨b, 0, none⟩ = some v0 := h.2.1.1
theorem Cel3.c1 {w : World} {b : Nat} {v0 v1 v2 : Value} (h : Cel3 w b v0 v1 v2) : w.cell? ⟨b, 1, none⟩ = some v1 := h.2.1.2.1
theorem Cel3.c2 {w : World} {b : Nat} {v0 v1 v2 : Value} (h : Cel3 w b v0 v1 v2) : w.cell? ⟨b, 2, none⟩ = some v2 := h.2.1.2.2
theorem Cel3.f0 {w : World} {b : Nat} {v0 v1 v2 : Value} (h : Cel3 w b v0 v1 v2) : w.frozen? ⟨b, 0, none⟩ = false := h.2.2.1
theorem Cel3.f1 {w : World} {b : Nat} {v0 v1 v2 : Value} (h : Cel3 w b v0 v1 v2) : w.frozen? ⟨b, 1, none⟩ = false := h.2.2.2.1
theorem Cel3.f2 {w : World} {b : Nat} {v0 v1 v2 : Value} (h : Cel3 w b v0 v1 v2) : w.frozen? ⟨b, 2, none⟩ = false := h.2.2.2.2
theorem Cel3.drew {w : World} {b : Nat} {v0 v1 v2 : Value} (h : Cel3 w b v0 v1 v2) : Cel3 w.drew b v0 v1 v2 := h
theorem three_old {w' w'' : World} {B : Nat} {v0 v1 v2 : Value} (hS : w'.cell? ⟨B, 0, none⟩ = some v0 ∧ w'.cell? ⟨B, 1, none⟩ = some v1 ∧ w'.cell? ⟨B, 2, none⟩ = some v2) (k : Below w'.heap.size w' w'') : w''.cell? ⟨B, 0, none⟩ = some v0 ∧ w''.cell? ⟨B, 1, none⟩ = some v1 ∧ w''.cell? ⟨B, 2, none⟩ = some v2 := by
  have q1 : B < w'.heap.size := cell_lt hS.1
  exact ⟨(k.cell (p := ⟨B, 0, none⟩) q1).trans hS.1, (k.cell (p := ⟨B, 1, none⟩) q1).trans hS.2.1, (k.cell (p := ⟨B, 2, none⟩) q1).trans hS.2.2⟩
end Go.Proofs.YtnjdcaidoffhbaaGreatDoor
