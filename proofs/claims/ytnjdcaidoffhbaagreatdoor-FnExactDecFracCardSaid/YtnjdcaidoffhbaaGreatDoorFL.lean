/- A fraction that comes in: its sign and its two lists. -/
import Derived.Test.YtnjdcaidoffhbaaGreatDoorFE
namespace Go.Proofs.YtnjdcaidoffhbaaGreatDoor
open Go.ChangeShapes Go.WideShapes Go.ChangeAt Go.RowKit
set_option linter.unusedVariables false
set_option maxRecDepth 100000

theorem six_old {w' w'' : World} {B N : Nat} {v0 v1 v2 v3 v4 v5 : Value} (hS : w'.cell? ⟨B, 0, none⟩ = some v0 ∧ w'.cell? ⟨B, 1, none⟩ = some v1 ∧ w'.cell? ⟨B, 2, none⟩ = some v2 ∧ w'.cell? ⟨N, 0, none⟩ = some v3 ∧ w'.cell? ⟨N, 1, none⟩ = some v4 ∧ w'.cell? ⟨N, 2, none⟩ = some v5) (k : Below w'.heap.size w' w'') : w''.cell? ⟨B, 0, none⟩ = some v0 ∧ w''.cell? ⟨B, 1, none⟩ = some v1 ∧ w''.cell? ⟨B, 2, none⟩ = some v2 ∧ w''.cell? ⟨N, 0, none⟩ = some v3 ∧ w''.cell? ⟨N, 1, none⟩ = some v4 ∧ w''.cell? ⟨N, 2, none⟩ = some v5 := by
  have q1 : B < w'.heap.size := cell_lt hS.1
  have q2 : N < w'.heap.size := cell_lt hS.2.2.2.1
  exact ⟨(k.cell (p := ⟨B, 0, none⟩) q1).trans hS.1, (k.cell (p := ⟨B, 1, none⟩) q1).trans hS.2.1, (k.cell (p := ⟨B, 2, none⟩) q1).trans hS.2.2.1, (k.cell (p := ⟨N, 0, none⟩) q2).trans hS.2.2.2.1, (k.cell (p := ⟨N, 1, none⟩) q2).trans hS.2.2.2.2.1, (k.cell (p := ⟨N, 2, none⟩) q2).trans hS.2.2.2.2.2⟩
section
variable {H : Type} {enc : TypeId × Value → H} {w : World} {base : Nat}
set_option maxRecDepth 100000 in
theorem open_intC {fuel : Nat} {c : Value} {y : DataW H × List MemPlace} (hf : DataW.trod enc Tryz.prog w base (fun _ => true) true fuel 22 [c] = some y) :
    ∃ (a : Option Addr) (len cap : Nat) (xs : List Int), c = .slice a len cap ∧ InI w a len cap xs := by
  rcases open_ints Tryz.underlying22 Tryz.underlying3 (by kernel_rfl) hf with ⟨hcs, _⟩ | ⟨x, l, c_, zs, hcs, _, hl, hm, hz, _, hcell, hwz⟩
  · simp at hcs
    subst hcs
    exact ⟨none, 0, 0, [], rfl, rfl, Nat.le_refl _, Nat.zero_le _, fun x hx => absurd hx (by simp), .inl rfl⟩
  · simp at hcs
    subst hcs
    have hzl : zs.length = c_ := by simpa using hz
    refine ⟨some x, l, c_, zs.take l, rfl, by simp; omega, hl, hm, ?_, ?_⟩
    · intro z hzz
      exact bounds_i64 (hwz z (List.mem_of_mem_take hzz))
    by_cases h0 : l = 0
    · exact .inl h0
    obtain ⟨b, off, spot⟩ := x
    have hc := hcell 0 (by omega)
    have hspot : spot = none := by simpa [Addr.add] using World.cell?_spot hc
    subst hspot
    have hb := World.block_lt_of_cell? w _ hc
    refine .inr ⟨b, off, rfl, by simpa [Addr.add] using hb, fun i hi => ?_⟩
    have hci := hcell i (by omega)
    have e : (⟨b, off, none⟩ : Addr).add i = ⟨b, off + i, none⟩ := by
      by_cases h : i = 0
      · subst h; simp [Addr.add]
      · simp [Addr.add, h]
    rw [e] at hci
    have eg : (zs.take l).getD i 0 = zs.getD i 0 := by simp [List.getD_eq_getElem?_getD, hi]
    rw [eg]
    exact hci
end
end Go.Proofs.YtnjdcaidoffhbaaGreatDoor
