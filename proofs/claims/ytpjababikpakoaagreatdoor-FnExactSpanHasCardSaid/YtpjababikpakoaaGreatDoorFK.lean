/- Fractions without their sign, and with the other one: the program. Conditions: the library's table and its handle of errors hold what their texts lay. -/
import Derived.Test.YtpjababikpakoaaGreatDoorFJ
namespace Go.Proofs.YtpjababikpakoaaGreatDoor
open Go.RowKit
set_option linter.unusedVariables false
set_option maxRecDepth 100000

theorem FRes.any {w : World} {base : Nat} {e : Ending} {s s' : Bool} {A B A' B' : Nat} (h : FRes w base e false s A B) : FRes w base e false s' A' B' := h
theorem fracOk_low {bl : Bool} {xs ys : List Int} (h : fracOk bl xs ys = true) : lowB (val xs) (val ys) = true ∧ lowT (val xs) (val ys) = xs ∧ lowU (val xs) (val ys) = ys := by
  have q := fracOk_in h
  have eA := natOk_canon q.1
  have eB := natOk_canon q.2.1
  have h1 : lowT (val xs) (val ys) = xs := by unfold lowT; rw [q.2.2.2.1, Nat.div_one, eA]
  have h2 : lowU (val xs) (val ys) = ys := by unfold lowU; rw [q.2.2.2.1, Nat.div_one, eB]
  refine ⟨lowB_mk ?_ ?_ ?_, h1, h2⟩
  · intro e
    rw [e, natL_zero] at eB
    exact q.2.2.1 (by rw [← eB]; rfl)
  · rw [h1]; exact (natOk_in q.1).1
  · rw [h2]; exact (natOk_in q.2.1).1
theorem resNegated {W : World} {b : Nat} {v0 v1 v2 : Value} {tmps : Array Value} (h : Cel3 W b v0 v1 v2) (ht : tmps[2]? = some (.pointer (some ⟨b, 0, none⟩))) : (results Tryz.f173 tmps).run Tryz.prog W = .ok (.agg #[v0, v1, v2]) W := by
  obtain ⟨h1, ⟨a0, a1, a2⟩, -⟩ := h
  simp [results, Tryz.results173, go_sem, a0, a1, a2, ht]
set_option maxHeartbeats 1000000 in
theorem iNegated (bl : Bool) (a b : Option Addr) (la lb ca cb : Nat) (w : World) : Calls Tryz.prog 173 #[.agg #[.bool bl, .slice a la ca, .slice b lb cb]] w fun e w' => e = .returned (.agg #[.bool (!bl), .slice a la ca, .slice b lb cb]) ∧ Below w.heap.size w w' := by
  have K := Cel3.new (w.alloc (.cells #[.bool bl, .slice a la ca, .slice b lb cb] 82)) (.bool (!bl)) (.slice a la ca) (.slice b lb cb) 82
  simp only [World.size_alloc] at K
  go_enter Tryz.func173, Tryz.ntmps173
  go_wp2
  exact bodyPost_ret (resNegated K rfl) rfl ⟨rfl, (by repeat (first | exact Below.refl _ _ | refine Below.drew ?_ | refine old_alloc ?_ _ | refine old_trans ?_ (by assumption)))⟩
end Go.Proofs.YtpjababikpakoaaGreatDoor
