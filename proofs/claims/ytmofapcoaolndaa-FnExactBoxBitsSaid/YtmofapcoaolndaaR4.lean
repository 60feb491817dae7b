/- Steps and middles that leave the world as it was; counted and l3Gap; PairSplit of the program and of the specification. -/
import Derived.Test.YtmofapcoaolndaaR3
import Derived.Test.YtmofapcoaolndaaW7
namespace Go.Proofs.Ytmofapcoaolndaa
open Go.RowKit

theorem gapI_bd (lo hi : Int) (l1 : -9223372036854775808 ≤ lo) (k2 : hi ≤ 9223372036854775807) : 0 ≤ gapI lo hi ∧ gapI lo hi ≤ 18446744073709551615 := by unfold gapI; split <;> omega
set_option maxHeartbeats 800000 in
theorem iGapW (lo hi : Int) (l1 : -9223372036854775808 ≤ lo) (l2 : lo ≤ 9223372036854775807) (k1 : -9223372036854775808 ≤ hi) (k2 : hi ≤ 9223372036854775807) (w : World) :
    Calls Try.prog 57 #[.int .i64 lo, .int .i64 hi] w fun e w' => e = .returned (.int .u64 (gapI lo hi)) ∧ w' = w := by
  go_enter Try.func57, Try.ntmps57
  go_wp2
  all_goals
    go_ret
    refine ⟨ret_int ?_, rfl⟩
    try simp only [IntKind.wrap_u64]
    unfold gapI
    split <;> omega
set_option maxHeartbeats 800000 in
theorem sGapW (lo hi : Int) (l1 : -9223372036854775808 ≤ lo) (l2 : lo ≤ 9223372036854775807) (k1 : -9223372036854775808 ≤ hi) (k2 : hi ≤ 9223372036854775807) (w : World) :
    Calls Try.prog 54 #[.int .i64 lo, .int .i64 hi] w fun e w' => e = .returned (.int .u64 (gapI lo hi)) ∧ w' = w := by
  go_enter Try.func54, Try.ntmps54
  go_wp2
  all_goals
    go_ret
    refine ⟨ret_int ?_, rfl⟩
    try simp only [IntKind.wrap_u64]
    unfold gapI
    split <;> omega
set_option maxHeartbeats 800000 in
theorem sPGap (lo hi : Int) (l1 : -9223372036854775808 ≤ lo) (l2 : lo ≤ 9223372036854775807) (k1 : -9223372036854775808 ≤ hi) (k2 : hi ≤ 9223372036854775807) (w : World) :
    Calls Try.prog 41 #[.agg #[.int .i64 lo, .int .i64 hi]] w fun e w' => e = .returned (.int .u64 (gapI lo hi)) ∧ w' = w.alloc (.cells #[.int .i64 lo, .int .i64 hi] 38) := by
  have H := hd (sGapW lo hi l1 l2 k1 k2)
  generalize gapI lo hi = g at *
  go_enter Try.func41, Try.ntmps41
  go_wp2_with (go_at_call 54; refine (H.out _).mono ?_; rintro e w1 ⟨rfl, rfl⟩)
  go_ret
  exact ⟨rfl, rfl⟩
theorem sPGapB (lo hi : Int) (l1 : -9223372036854775808 ≤ lo) (l2 : lo ≤ 9223372036854775807) (k1 : -9223372036854775808 ≤ hi) (k2 : hi ≤ 9223372036854775807) (w : World) :
    Calls Try.prog 41 #[.agg #[.int .i64 lo, .int .i64 hi]] w fun e w' => e = .returned (.int .u64 (gapI lo hi)) ∧ Below w.heap.size w w' := by
  refine (sPGap lo hi l1 l2 k1 k2 w).mono ?_
  rintro e w1 ⟨rfl, rfl⟩
  exact ⟨rfl, (by repeat (first | exact Below.refl _ _ | refine Below.drew ?_ | refine old_alloc ?_ _ | refine old_trans ?_ (by assumption)))⟩
set_option maxHeartbeats 800000 in
theorem iCounted (lo hi : Int) (l1 : -9223372036854775808 ≤ lo) (l2 : lo ≤ 9223372036854775807) (k1 : -9223372036854775808 ≤ hi) (k2 : hi ≤ 9223372036854775807) (w : World) :
    Calls Try.prog 45 #[.agg #[.int .i64 lo, .int .i64 hi]] w fun e w' => e = .returned (.agg #[.int .u64 (gapI lo hi), .int .i64 lo, .int .i64 hi]) ∧ Below w.heap.size w w' := by
  have H := hd (iGapW lo hi l1 l2 k1 k2)
  generalize gapI lo hi = g at *
  go_enter Try.func45, Try.ntmps45
  go_wp2_with fail
  go_region_held3 (fun w' => w'.cell? ⟨w.heap.size, 0, none⟩ = some (.int .i64 lo) ∧ w'.cell? ⟨w.heap.size, 1, none⟩ = some (.int .i64 hi)) (go_keep) (first | (go_at_call 57; refine (H.out _).mono ?_; rintro e w1 ⟨rfl, rfl⟩))
  all_goals
    go_wp2
    refine bodyPost_ret (v := .agg #[.int .u64 g, .int .i64 lo, .int .i64 hi]) ?_ rfl ⟨rfl, (by repeat (first | exact Below.refl _ _ | refine Below.drew ?_ | refine Below.setCell ?_ (by first | (simp; done) | omega | (simp; omega)) _ | refine old_alloc ?_ _ | refine old_trans ?_ (by assumption)))⟩
    simp [results, Try.results45, go_sem]
theorem fld_count (g lo hi : Int) (w : World) : (Instr.field 67 (.agg #[.int .u64 g, .int .i64 lo, .int .i64 hi]) 0).run Try.prog w = .ok (.agg #[.int .u64 g]) w := by kernel_rfl
theorem fld_pair (g lo hi : Int) (w : World) : (Instr.field 67 (.agg #[.int .u64 g, .int .i64 lo, .int .i64 hi]) 1).run Try.prog w = .ok (.agg #[.int .i64 lo, .int .i64 hi]) w := by kernel_rfl
theorem fld_steps (g : Int) (w : World) : (Instr.field 65 (.agg #[.int .u64 g]) 0).run Try.prog w = .ok (.int .u64 g) w := by kernel_rfl
end Go.Proofs.Ytmofapcoaolndaa
