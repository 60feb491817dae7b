/- Fractions brought to lowest terms: by the program and by the specification; answers with and without a fault. Conditions: digits without needless noughts, 1024 at most; of the program: the library's table and its handle of errors hold what their texts lay. -/
import Derived.Test.YtlfaiekcmflgnaaGreatDoorFE
import Derived.Test.YtlfaiekcmflgnaaGreatDoorBG
namespace Go.Proofs.YtlfaiekcmflgnaaGreatDoor
open Go.RowKit
set_option linter.unusedVariables false
set_option maxRecDepth 100000

def lowT (A B : Nat) : List Int := natL (A / Nat.gcd A B)
def lowU (A B : Nat) : List Int := natL (B / Nat.gcd A B)
def lowB (A B : Nat) : Bool := decide (B ≠ 0) && (decide ((lowT A B).length ≤ 256) && decide ((lowU A B).length ≤ 256))
theorem lowB_in {A B : Nat} (h : lowB A B = true) : B ≠ 0 ∧ (lowT A B).length ≤ 256 ∧ (lowU A B).length ≤ 256 := by
  unfold lowB at h
  simp only [Bool.and_eq_true, decide_eq_true_eq] at h
  exact h
theorem lowB_mk {A B : Nat} (h1 : B ≠ 0) (h2 : (lowT A B).length ≤ 256) (h3 : (lowU A B).length ≤ 256) : lowB A B = true := by
  unfold lowB
  simp only [Bool.and_eq_true, decide_eq_true_eq]
  exact ⟨h1, h2, h3⟩
theorem lowB_no {A B : Nat} (h : ¬ (B ≠ 0 ∧ (lowT A B).length ≤ 256 ∧ (lowU A B).length ≤ 256)) : lowB A B = false := by
  cases e : lowB A B
  · rfl
  · exact absurd (lowB_in e) h
theorem lowT_pos {A B : Nat} (h : A ≠ 0) : 0 < (lowT A B).length := by
  refine natL_length_pos ?_
  have hg : 0 < Nat.gcd A B := Nat.gcd_pos_of_pos_left _ (Nat.pos_of_ne_zero h)
  exact Nat.div_pos (Nat.le_of_dvd (Nat.pos_of_ne_zero h) (Nat.gcd_dvd_left _ _)) hg
theorem lowT_zero (B : Nat) : lowT 0 B = [] := by unfold lowT; rw [Nat.zero_div, natL_zero]
theorem lowU_zero {B : Nat} (h : B ≠ 0) : lowU 0 B = natL 1 := by unfold lowU; rw [Nat.gcd_zero_left, Nat.div_self (Nat.pos_of_ne_zero h)]
theorem retF {b c : Bool} {x y z : Value} (h : c = b) : Ending.returned (.tuple #[.agg #[.bool b, x, y], z]) = .returned (.tuple #[.agg #[.bool c, x, y], z]) := by rw [h]
end Go.Proofs.YtlfaiekcmflgnaaGreatDoor
