/- The draw of a width and two pairs. Nothing that was there is written. -/
import Derived.Test.YtdmnfcmngcmleaaDW
import Derived.Test.YtdmnfcmngcmleaaD6
namespace Go.Proofs.Ytdmnfcmngcmleaa
open Go.RowKit
set_option linter.unusedVariables false

theorem Rk.drewd {w : World} {rb k : Nat} (h : Rk w rb k) : Rk w.drew rb k := h.old (Below.drew (Below.refl _ _))
theorem old_but {w w1 w2 : World} {rb : Nat} (h : Below w.heap.size w w1) (k : But rb w1 w2) (hn : w.heap.size ≤ rb) : Below w.heap.size w w2 :=
  h.grown (row := some rb) ⟨k.os, k.tape, k.output, k.size, fun i hi hne => k.block i hi (fun e => hne (by rw [e]))⟩ h.size (fun i e => by cases e; exact hn)
set_option maxHeartbeats 8000000 in
theorem pairs_k (w : World) (cd : Option Addr) (len cap : Nat) (h : IsCode w cd len cap) :
    Calls Try.prog 23 #[.slice cd len cap] w fun e w' => (∃ wd a b c d : Int, ((-64 ≤ wd ∧ wd ≤ 64) ∧ ((-9223372036854775808 ≤ a ∧ a ≤ 9223372036854775807) ∧ (-9223372036854775808 ≤ b ∧ b ≤ 9223372036854775807)) ∧ (-9223372036854775808 ≤ c ∧ c ≤ 9223372036854775807) ∧ (-9223372036854775808 ≤ d ∧ d ≤ 9223372036854775807)) ∧ e = .returned (.tuple #[.int .i64 wd, .agg #[.int .i64 a, .int .i64 b], .agg #[.int .i64 c, .int .i64 d]])) ∧ Below w.heap.size w w' := by
  have hBw : Below w.heap.size w ((w.alloc (.cells #[.int .i64 0, .int .i64 0] 24)).alloc (.cells #[.int .i64 0, .int .i64 0] 24)) := (by repeat (first | exact Below.refl _ _ | refine Below.drew ?_ | refine old_alloc ?_ _ | refine old_trans ?_ (by assumption)))
  have T1 : Cel2 ((w.alloc (.cells #[.int .i64 0, .int .i64 0] 24)).alloc (.cells #[.int .i64 0, .int .i64 0] 24)) w.heap.size (.int .i64 0) (.int .i64 0) := (Cel2.made w _ rfl _ _ _).alloc _
  have T2 : Cel2 ((w.alloc (.cells #[.int .i64 0, .int .i64 0] 24)).alloc (.cells #[.int .i64 0, .int .i64 0] 24)) (w.heap.size + 1) (.int .i64 0) (.int .i64 0) := Cel2.made _ _ (by simp) _ _ _
  have hs0 : w.heap.size + 1 < (((w.alloc (.cells #[.int .i64 0, .int .i64 0] 24)).alloc (.cells #[.int .i64 0, .int .i64 0] 24))).heap.size := by simp
  replace h := h.old hBw
  go_enter Try.func23, Try.ntmps23
  go_wp2_with fail
  generalize ((w.alloc (.cells #[.int .i64 0, .int .i64 0] 24)).alloc (.cells #[.int .i64 0, .int .i64 0] 24)) = wz at *
  refine (open_k wz cd len cap h).mono ?_
  rintro e w1 ⟨rfl, o, rfl, hR⟩
  replace T1 := T1.alloc o
  replace T2 := T2.alloc o
  replace hBw := old_alloc hBw o
  clear h
  go_wp2_with fail
  refine (width_k wz.heap.size 998 _ hR).mono ?_
  rintro e w2 ⟨⟨wd, hwd, rfl⟩, hR2, hB2⟩
  replace T1 := T1.but hB2 (by omega)
  replace T2 := T2.but hB2 (by omega)
  replace hBw := old_but hBw hB2 (by omega)
  clear hR hB2
  go_wp2_with fail
  refine (goodT_k wz.heap.size 500 wd _ (hR2.mono (by omega))).mono ?_
  rintro e w3 ⟨⟨a, b, hab, rfl⟩, hR3, hB3⟩
  replace T1 := T1.but hB3 (by omega)
  replace T2 := T2.but hB3 (by omega)
  replace hBw := old_but hBw hB3 (by omega)
  have hz3 := hR3.lt
  clear hR2 hB3
  have P : Cel2 (w3.alloc (.cells #[.int .i64 a, .int .i64 b] 24)) w3.heap.size (.int .i64 a) (.int .i64 b) := Cel2.made _ _ rfl _ _ _
  replace T1 := T1.alloc (.cells #[.int .i64 a, .int .i64 b] 24)
  replace T2 := T2.alloc (.cells #[.int .i64 a, .int .i64 b] 24)
  replace hBw := old_alloc hBw (.cells #[.int .i64 a, .int .i64 b] 24)
  replace hR3 := hR3.alloc (.cells #[.int .i64 a, .int .i64 b] 24)
  go_wp2_with fail
  refine (pick_k wz.heap.size 499 _ _ hR3 (by decide)).mono ?_
  rintro e w4 ⟨⟨u, ⟨ua, ub⟩, rfl⟩, hR4, hB4⟩
  replace T1 := T1.but hB4 (by omega)
  replace T2 := T2.but hB4 (by omega)
  replace P := P.but hB4 (by omega)
  replace hBw := old_but hBw hB4 (by omega)
  clear hR3 hB4
  have t10 := T1.1
  have t11 := T1.2.1
  have t12 := T1.2.2.1
  have t13 := T1.2.2.2.1
  have t14 := T1.2.2.2.2
  have t20 := T2.1
  have t21 := T2.2.1
  have t22 := T2.2.2.1
  have t23 := T2.2.2.2.1
  have t24 := T2.2.2.2.2
  have p0 := P.1
  have p1 := P.2.1
  have hnT1 : w.heap.size ≠ wz.heap.size := by omega
  have hnT2 : w.heap.size + 1 ≠ wz.heap.size := by omega
  have hnP : w3.heap.size ≠ wz.heap.size := by omega
  have hnw : w.heap.size ≤ wz.heap.size := by omega
  by_cases u0 : u = 0
  · subst u0
    have hR5 : Rk w4 wz.heap.size (0 + 60) := hR4.mono (by omega)
    go_wp2_with fail
    go_region_with (go_at_call 31; refine (within_k _ 0 _ _ _ _ (by first | exact hR5 | exact Rk.drewd hR5) hab).mono ?_; rintro e wx ⟨⟨c, d, hcd, rfl⟩, hRx, hBx⟩; have T1 := (by with_reducible first | exact T1.but hBx hnT1 | exact T1.drew.but hBx hnT1 : Cel2 wx _ _ _); have T2 := (by with_reducible first | exact T2.but hBx hnT2 | exact T2.drew.but hBx hnT2 : Cel2 wx _ _ _); have P := (by with_reducible first | exact P.but hBx hnP | exact P.drew.but hBx hnP : Cel2 wx _ _ _); have t10 := T1.1; have t11 := T1.2.1; have t12 := T1.2.2.1; have t13 := T1.2.2.2.1; have t14 := T1.2.2.2.2; have t20 := T2.1; have t21 := T2.2.1; have t22 := T2.2.2.1; have t23 := T2.2.2.2.1; have t24 := T2.2.2.2.2; have p0 := P.1; have p1 := P.2.1; have hBw := (by with_reducible first | exact old_but hBw hBx hnw | exact old_but (Below.drew hBw) hBx hnw : Below w.heap.size w wx))
    all_goals
      go_wp2
      refine bodyPost_ret (v := .tuple #[.int .i64 wd, .agg #[.int .i64 c, .int .i64 d], .agg #[.int .i64 a, .int .i64 b]]) ?_ rfl ⟨⟨wd, c, d, a, b, ⟨hwd, by omega, by omega⟩, rfl⟩, ?_⟩
      · have X1 := (T1.stored (.int .i64 c) (.int .i64 d)).others (w.heap.size + 1) (by omega) (.int .i64 a) (.int .i64 b)
        have X2 := (T2.others w.heap.size (by omega) (.int .i64 c) (.int .i64 d)).stored (.int .i64 a) (.int .i64 b)
        simp [results, Try.results23, go_sem, X1.1, X1.2.1, X2.1, X2.2.1]
      · repeat (first | with_reducible exact hBw | with_reducible refine Below.drew ?_ | (refine Below.setCell ?_ ?_ _; rotate_left; (first | exact Nat.le_refl _ | exact Nat.le_add_right _ _ | omega)))
  · have uz : (u == 0) = false := by simp; omega
    have hR6 : Rk w4 wz.heap.size (0 + 174) := hR4.mono (by omega)
    go_wp2_with fail
    go_region_with (go_at_call 16; refine (goodT_k _ 0 _ _ (by first | exact hR6 | exact Rk.drewd hR6)).mono ?_; rintro e wx ⟨⟨c, d, hcd, rfl⟩, hRx, hBx⟩; have T1 := (by with_reducible first | exact T1.but hBx hnT1 | exact T1.drew.but hBx hnT1 : Cel2 wx _ _ _); have T2 := (by with_reducible first | exact T2.but hBx hnT2 | exact T2.drew.but hBx hnT2 : Cel2 wx _ _ _); have P := (by with_reducible first | exact P.but hBx hnP | exact P.drew.but hBx hnP : Cel2 wx _ _ _); have t10 := T1.1; have t11 := T1.2.1; have t12 := T1.2.2.1; have t13 := T1.2.2.2.1; have t14 := T1.2.2.2.2; have t20 := T2.1; have t21 := T2.2.1; have t22 := T2.2.2.1; have t23 := T2.2.2.2.1; have t24 := T2.2.2.2.2; have p0 := P.1; have p1 := P.2.1; have hBw := (by with_reducible first | exact old_but hBw hBx hnw | exact old_but (Below.drew hBw) hBx hnw : Below w.heap.size w wx))
    all_goals
      go_wp2
      refine bodyPost_ret (v := .tuple #[.int .i64 wd, .agg #[.int .i64 a, .int .i64 b], .agg #[.int .i64 c, .int .i64 d]]) ?_ rfl ⟨⟨wd, a, b, c, d, ⟨hwd, by omega, by omega⟩, rfl⟩, ?_⟩
      · have X1 := (T1.stored (.int .i64 a) (.int .i64 b)).others (w.heap.size + 1) (by omega) (.int .i64 c) (.int .i64 d)
        have X2 := (T2.others w.heap.size (by omega) (.int .i64 a) (.int .i64 b)).stored (.int .i64 c) (.int .i64 d)
        simp [results, Try.results23, go_sem, X1.1, X1.2.1, X2.1, X2.2.1]
      · repeat (first | with_reducible exact hBw | with_reducible refine Below.drew ?_ | (refine Below.setCell ?_ ?_ _; rotate_left; (first | exact Nat.le_refl _ | exact Nat.le_add_right _ _ | omega)))
end Go.Proofs.Ytdmnfcmngcmleaa
