/- How the narrow floats below and above a wide one stand: plain mathematics of 'widI'. -/
import Derived.Test.YtljmmaaaeojbpaaB1
import Derived.Test.YtljmmaaaeojbpaaD7
namespace Go.Proofs.Ytljmmaaaeojbpaa
open Go.RowKit


theorem cross {n lo h2 : Int} (hl : IsBelow n lo) (hh : IsBelow (-n) h2) : ∃ hi, hi = -h2 ∧ -2139095040 ≤ hi ∧ hi ≤ 2139095040 ∧ widI lo ≤ n ∧ n ≤ widI hi ∧ (widI lo = n → lo = hi) ∧ lo ≤ hi ∧ hi ≤ lo + 1 := by
  obtain ⟨l1, l2, l3, l4⟩ := hl
  obtain ⟨k1, k2, k3, k4⟩ := hh
  refine ⟨-h2, rfl, by omega, by omega, l3, ?_, ?_, ?_, ?_⟩
  · rw [widI_neg]; omega
  · intro e
    by_cases c : lo < -h2
    · have x := k4 (by omega)
      have y := widI_neg (h2 + 1)
      have z := widI_le (a := lo) (b := -(h2 + 1)) (by omega) (by omega) (by omega)
      omega
    · by_cases c' : -h2 < lo
      · have x := widI_mono (a := -h2) (b := lo) c' (by omega) l2
        have y := widI_neg h2
        omega
      · omega
  · by_cases c' : -h2 < lo
    · have x := widI_mono (a := -h2) (b := lo) c' (by omega) l2
      have y := widI_neg h2
      omega
    · omega
  · by_cases c : lo + 1 < -h2
    · have x := k4 (by omega)
      have x2 := l4 (by omega)
      have y := widI_neg (h2 + 1)
      have z := widI_le (a := lo + 1) (b := -(h2 + 1)) (by omega) (by omega) (by omega)
      omega
    · omega
theorem back_below {s p : Int} (h1 : -2139095040 ≤ s) (h2 : s ≤ 2139095040) (h : IsBelow (widI s) p) : p = s :=
  h.one ⟨h1, h2, Int.le_refl _, fun hl => widI_mono (by omega) h1 (by omega)⟩
theorem back_above {s q : Int} (h1 : -2139095040 ≤ s) (h2 : s ≤ 2139095040) (h : IsBelow (-widI s) q) : -q = s := by
  rw [← widI_neg] at h
  have := back_below (by omega) (by omega) h
  omega
theorem widI_iff {s t : Int} (h1 : -2139095040 ≤ s) (h2 : s ≤ 2139095040) (h3 : -2139095040 ≤ t) (h4 : t ≤ 2139095040) : decide (widI s < widI t) = decide (s < t) := by
  by_cases c : s < t
  · rw [decide_eq_true c, decide_eq_true (widI_mono c h1 h4)]
  · have := widI_le (a := t) (b := s) (by omega) h3 h2
    rw [decide_eq_false c, decide_eq_false (Int.not_lt.2 this)]
end Go.Proofs.Ytljmmaaaeojbpaa
