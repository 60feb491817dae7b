/- NatText of the specification and of the program: one text. Nothing that was there is written. Condition, for the program: the library's table of powers is there. -/
import Derived.Test.YtlfaiekcmflgnaaGreatDoorKD
namespace Go.Proofs.YtlfaiekcmflgnaaGreatDoor
open Go.RowKit Go.Lib Go.Shelf
set_option linter.unusedVariables false
set_option maxRecDepth 100000

set_option maxRecDepth 100000 in
set_option maxHeartbeats 1000000 in
theorem sNatText (a : Option Addr) (len cap : Nat) (xs : List Int) (w : World) (hR : InI w a len cap xs) :
    Calls Tryz.prog 52 #[.slice a len cap] w fun e w' => e = .returned (.string ⟨(ntB xs).toArray⟩) ∧ Below w.heap.size w w' := by
  have hp := hR.1
  have OK := hd (sNatOk a len cap xs w hR)
  cases hok : natOk xs
  · have e : ntB xs = [] := by unfold ntB; rw [hok]; rfl
    rw [e]
    rw [hok] at OK
    clear e hok
    go_enter Tryz.func52, Tryz.ntmps52
    go_wp2_with fail
    refine OK.out.mono ?_
    rintro ev w1 ⟨rfl, rfl⟩
    go_wp2
    go_ret
    exact ⟨rfl, Below.refl _ _⟩
  · have e : ntB xs = decDigits (val xs) := by unfold ntB; rw [hok]; rfl
    have hcn := natOk_canon hok
    rw [e]
    by_cases h0 : val xs = 0
    · have hx : xs = [] := by rw [← hcn, h0, natL_zero]
      subst hx
      obtain rfl : len = 0 := hp.symm
      rw [show decDigits (val []) = [48] by rw [show val [] = 0 from rfl, decDigits_one (by decide)]; rfl]
      rw [hok] at OK
      clear e hok hcn h0
      go_enter Tryz.func52, Tryz.ntmps52
      go_wp2_with fail
      refine OK.out.mono ?_
      rintro ev w1 ⟨rfl, rfl⟩
      go_wp2
      go_ret
      exact ⟨rfl, Below.refl _ _⟩
    · have h := sText a cap (val xs) w (by rw [hcn, hp]; exact hR) h0 (natOk_lt hok)
      rw [hcn, hp] at h
      exact h
end Go.Proofs.YtlfaiekcmflgnaaGreatDoor
