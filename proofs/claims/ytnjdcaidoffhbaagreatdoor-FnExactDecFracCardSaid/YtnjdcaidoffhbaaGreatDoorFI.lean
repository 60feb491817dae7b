/- Sizes of fractions that are answered; blocks apart. -/
import Derived.Test.YtnjdcaidoffhbaaGreatDoorFH
namespace Go.Proofs.YtnjdcaidoffhbaaGreatDoor
open Go.RowKit
set_option linter.unusedVariables false
set_option maxRecDepth 100000

theorem fT_len {ok : Bool} {A B : Nat} (h : ok = true → lowB A B = true) : (fT ok A B).length ≤ 1048576 := by
  unfold fT
  cases ok
  · simp
  · have := (lowB_in (h rfl)).2.1
    rw [if_pos rfl]
    omega
theorem fU_len {ok : Bool} {A B : Nat} (h : ok = true → lowB A B = true) : (fU ok A B).length ≤ 1048576 := by
  unfold fU
  cases ok
  · simp
  · have := (lowB_in (h rfl)).2.2
    rw [if_pos rfl]
    omega
theorem ofB_low {xs ys : List Int} (h : ofB xs ys = true) : lowB (val xs) (val ys) = true := by
  unfold ofB at h
  simp only [Bool.and_eq_true] at h
  exact h.2.2
theorem oi_ne_old {w : World} {base cv b : Nat} {av : Option Addr} {xs : List Int} (h : OI w base av cv xs) (hb : b < base) : some b ≠ ownB av := by
  cases av with
  | none => simp [ownB]
  | some q => simp only [ownB, Option.map_some]; intro e; injection e with e; have := h.ge q rfl; omega
theorem oi_ne_young {b : Nat} {av : Option Addr} (h : ∀ q, av = some q → q.block < b) : some b ≠ ownB av := by
  cases av with
  | none => simp [ownB]
  | some q => simp only [ownB, Option.map_some]; intro e; injection e with e; have := h q rfl; omega
end Go.Proofs.YtnjdcaidoffhbaaGreatDoor
