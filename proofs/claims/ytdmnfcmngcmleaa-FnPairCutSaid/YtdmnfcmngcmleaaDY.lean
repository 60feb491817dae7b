/- The draws of a width and two pairs, as the laws ask for them. Nothing that was there is written. -/
import Derived.Test.YtdmnfcmngcmleaaDX
namespace Go.Proofs.Ytdmnfcmngcmleaa
open Go.RowKit
set_option linter.unusedVariables false

set_option maxHeartbeats 8000000 in
theorem drawCut (w : World) (cd : Option Addr) (len cap : Nat) (h : IsCode w cd len cap) :
    Calls Try.prog 11 #[.slice cd len cap] w fun e w' => (∃ wd a b c d : Int, ((-64 ≤ wd ∧ wd ≤ 64) ∧ ((-9223372036854775808 ≤ a ∧ a ≤ 9223372036854775807) ∧ (-9223372036854775808 ≤ b ∧ b ≤ 9223372036854775807)) ∧ (-9223372036854775808 ≤ c ∧ c ≤ 9223372036854775807) ∧ (-9223372036854775808 ≤ d ∧ d ≤ 9223372036854775807)) ∧ e = .returned (.tuple #[.int .i64 wd, .agg #[.int .i64 c, .int .i64 d], .agg #[.int .i64 a, .int .i64 b]])) ∧ Below w.heap.size w w' := by
  have hBw : Below w.heap.size w ((w.alloc (.cells #[.int .i64 0, .int .i64 0] 24)).alloc (.cells #[.int .i64 0, .int .i64 0] 24)) := (by repeat (first | exact Below.refl _ _ | refine Below.drew ?_ | refine old_alloc ?_ _ | refine old_trans ?_ (by assumption)))
  have T1 : Cel2 ((w.alloc (.cells #[.int .i64 0, .int .i64 0] 24)).alloc (.cells #[.int .i64 0, .int .i64 0] 24)) w.heap.size (.int .i64 0) (.int .i64 0) := (Cel2.made w _ rfl _ _ _).alloc _
  have T2 : Cel2 ((w.alloc (.cells #[.int .i64 0, .int .i64 0] 24)).alloc (.cells #[.int .i64 0, .int .i64 0] 24)) (w.heap.size + 1) (.int .i64 0) (.int .i64 0) := Cel2.made _ _ (by simp) _ _ _
  have hs0 : w.heap.size + 1 < (((w.alloc (.cells #[.int .i64 0, .int .i64 0] 24)).alloc (.cells #[.int .i64 0, .int .i64 0] 24))).heap.size := by simp
  replace h := h.old hBw
  go_enter Try.func11, Try.ntmps11
  go_wp2_with fail
  generalize ((w.alloc (.cells #[.int .i64 0, .int .i64 0] 24)).alloc (.cells #[.int .i64 0, .int .i64 0] 24)) = wz at *
  refine (pairs_k wz cd len cap h).mono ?_
  rintro e w1 ⟨⟨wd, a, b, c, d, hall, rfl⟩, hb1⟩
  replace T1 := T1.later hb1
  replace T2 := T2.later hb1
  replace hBw := old_trans hBw hb1
  have hz := hb1.size
  have X : Cel2 ((w1.alloc (.cells #[.int .i64 a, .int .i64 b] 24)).alloc (.cells #[.int .i64 c, .int .i64 d] 24)) w1.heap.size (.int .i64 a) (.int .i64 b) := (Cel2.made _ _ rfl _ _ _).alloc _
  have Y : Cel2 ((w1.alloc (.cells #[.int .i64 a, .int .i64 b] 24)).alloc (.cells #[.int .i64 c, .int .i64 d] 24)) (w1.heap.size + 1) (.int .i64 c) (.int .i64 d) := Cel2.made _ _ (by simp) _ _ _
  replace T1 := (T1.alloc (.cells #[.int .i64 a, .int .i64 b] 24)).alloc (.cells #[.int .i64 c, .int .i64 d] 24)
  replace T2 := (T2.alloc (.cells #[.int .i64 a, .int .i64 b] 24)).alloc (.cells #[.int .i64 c, .int .i64 d] 24)
  replace hBw : Below w.heap.size w ((w1.alloc (.cells #[.int .i64 a, .int .i64 b] 24)).alloc (.cells #[.int .i64 c, .int .i64 d] 24)) := old_alloc (old_alloc hBw _) _
  have t10 := T1.1
  have t11 := T1.2.1
  have t12 := T1.2.2.1
  have t13 := T1.2.2.2.1
  have t20 := T2.1
  have t21 := T2.2.1
  have t22 := T2.2.2.1
  have t23 := T2.2.2.2.1
  have x0 := X.1
  have x1 := X.2.1
  have y0 := Y.1
  have y1 := Y.2.1
  have e1 : w.heap.size ≠ w1.heap.size := by omega
  have e2 : w.heap.size ≠ w1.heap.size + 1 := by omega
  have e3 : w.heap.size + 1 ≠ w1.heap.size := by omega
  have e5 : w1.heap.size ≠ w.heap.size := by omega
  have e6 : w1.heap.size + 1 ≠ w.heap.size := by omega
  have e7 : w1.heap.size ≠ w.heap.size + 1 := by omega
  go_wp2_with fail
  go_region
  all_goals
    go_wp2
    refine bodyPost_ret (v := .tuple #[.int .i64 wd, .agg #[.int .i64 c, .int .i64 d], .agg #[.int .i64 a, .int .i64 b]]) ?_ rfl ⟨⟨wd, a, b, c, d, hall, rfl⟩, ?_⟩
    · have X1 := (T1.stored (.int .i64 c) (.int .i64 d)).others (w.heap.size + 1) (by omega) (.int .i64 a) (.int .i64 b)
      have X2 := (T2.others w.heap.size (by omega) (.int .i64 c) (.int .i64 d)).stored (.int .i64 a) (.int .i64 b)
      simp [results, Try.results11, go_sem, X1.1, X1.2.1, X2.1, X2.2.1]
    · repeat (first | with_reducible exact hBw | with_reducible refine Below.drew ?_ | (refine Below.setCell ?_ ?_ _; rotate_left; (first | exact Nat.le_refl _ | exact Nat.le_add_right _ _ | omega)))
end Go.Proofs.Ytdmnfcmngcmleaa
