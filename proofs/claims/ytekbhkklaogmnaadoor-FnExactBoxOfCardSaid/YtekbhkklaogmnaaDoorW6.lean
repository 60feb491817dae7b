/- Contracts of BitUp and BitDown, of the program and of the specification: both answer the same; nothing that was there is written. -/
import Derived.Test.YtekbhkklaogmnaaDoorW2
import Derived.Test.YtekbhkklaogmnaaDoorF
namespace Go.Proofs.YtekbhkklaogmnaaDoor
open Go.RowKit


set_option maxHeartbeats 800000 in
theorem iBitOk_32 (n : Int) (h1 : -2139095040 ≤ n) (h2 : n ≤ 2139095040) (w : World) :
    Calls Tryd.prog 41 #[.int .i64 32, .int .i64 n] w fun e w' => e = .returned (.bool true) ∧ Below w.heap.size w w' := by
  go_enter Tryd.func41, Tryd.ntmps41
  go_wp2_with (go_at_call 43; refine (formWith_32 _ _ h1 h2).mono ?_; rintro e w1 ⟨rfl, hb1⟩)
  go_ret
  exact ⟨rfl, (by repeat (first | exact Below.refl _ _ | refine Below.drew ?_ | refine old_alloc ?_ _ | refine old_trans ?_ (by assumption)))⟩

set_option maxHeartbeats 800000 in
theorem iBitOk_32_out (n : Int) (h : ¬ (-2139095040 ≤ n ∧ n ≤ 2139095040)) (w : World) :
    Calls Tryd.prog 41 #[.int .i64 32, .int .i64 n] w fun e w' => e = .returned (.bool false) ∧ Below w.heap.size w w' := by
  go_enter Tryd.func41, Tryd.ntmps41
  go_wp2_with (go_at_call 43; refine (formWith_32_out _ _ h).mono ?_; rintro e w1 ⟨rfl, hb1⟩)
  go_ret
  exact ⟨rfl, (by repeat (first | exact Below.refl _ _ | refine Below.drew ?_ | refine old_alloc ?_ _ | refine old_trans ?_ (by assumption)))⟩

set_option maxHeartbeats 800000 in
theorem iBitOk_64 (n : Int) (h1 : -9218868437227405312 ≤ n) (h2 : n ≤ 9218868437227405312) (w : World) :
    Calls Tryd.prog 41 #[.int .i64 64, .int .i64 n] w fun e w' => e = .returned (.bool true) ∧ Below w.heap.size w w' := by
  go_enter Tryd.func41, Tryd.ntmps41
  go_wp2_with (go_at_call 43; refine (formWith_64 _ _ h1 h2).mono ?_; rintro e w1 ⟨rfl, hb1⟩)
  go_ret
  exact ⟨rfl, (by repeat (first | exact Below.refl _ _ | refine Below.drew ?_ | refine old_alloc ?_ _ | refine old_trans ?_ (by assumption)))⟩

set_option maxHeartbeats 800000 in
theorem iBitOk_64_out (n : Int) (h : ¬ (-9218868437227405312 ≤ n ∧ n ≤ 9218868437227405312)) (w : World) :
    Calls Tryd.prog 41 #[.int .i64 64, .int .i64 n] w fun e w' => e = .returned (.bool false) ∧ Below w.heap.size w w' := by
  go_enter Tryd.func41, Tryd.ntmps41
  go_wp2_with (go_at_call 43; refine (formWith_64_out _ _ h).mono ?_; rintro e w1 ⟨rfl, hb1⟩)
  go_ret
  exact ⟨rfl, (by repeat (first | exact Below.refl _ _ | refine Below.drew ?_ | refine old_alloc ?_ _ | refine old_trans ?_ (by assumption)))⟩

set_option maxHeartbeats 800000 in
theorem iBitOk_no (wd n : Int) (g1 : wd ≠ 32) (g2 : wd ≠ 64) (w : World) :
    Calls Tryd.prog 41 #[.int .i64 wd, .int .i64 n] w fun e w' => e = .returned (.bool false) ∧ Below w.heap.size w w' := by
  go_enter Tryd.func41, Tryd.ntmps41
  go_wp2_with (go_at_call 43; refine (formWith_no wd _ _ g1 g2).mono ?_; rintro e w1 ⟨rfl, hb1⟩)
  go_ret
  exact ⟨rfl, (by repeat (first | exact Below.refl _ _ | refine Below.drew ?_ | refine old_alloc ?_ _ | refine old_trans ?_ (by assumption)))⟩

end Go.Proofs.YtekbhkklaogmnaaDoor
