/- Spans compared as structures; which numbers are relations, by the program and by the specification; nothing that was there is written. -/
import Derived.Test.YtpjagplloljefaaS1
import Derived.Deep.RegionHeld3
namespace Go.Proofs.Ytpjagplloljefaa
open Go.RowKit
set_option linter.unusedVariables false

theorem eql_span (s : Bool) (a b : Int) (t : Bool) (c d : Int) (w : World) : (binOp .eql 25 (.agg #[.bool s, .int .i64 a, .int .i64 b]) (.agg #[.bool t, .int .i64 c, .int .i64 d])).run Try.prog w = .ok (.bool (s == t && (a == c && b == d))) w := by
  have hu : Try.prog.underlying 25 = some (.struct (Try.prog.fieldsOf 25)) := by kernel_rfl
  have hs : Try.prog.stoodInHeld 25 = false := by kernel_rfl
  rw [run_eql_struct, run_equalIn_agg w 9999 25 _ _ hu hs]
  simp [go_sem]
  split <;> (try split) <;> (try split) <;> simp [*]
theorem fld_some (s : Bool) (a b : Int) (w : World) : (Instr.field 25 (.agg #[.bool s, .int .i64 a, .int .i64 b]) 0).run Try.prog w = .ok (.bool s) w := by kernel_rfl
theorem fld_lo (s : Bool) (a b : Int) (w : World) : (Instr.field 25 (.agg #[.bool s, .int .i64 a, .int .i64 b]) 1).run Try.prog w = .ok (.int .i64 a) w := by kernel_rfl
theorem fld_hi (s : Bool) (a b : Int) (w : World) : (Instr.field 25 (.agg #[.bool s, .int .i64 a, .int .i64 b]) 2).run Try.prog w = .ok (.int .i64 b) w := by kernel_rfl
def isR (rl : Int) : Bool := rl == 1 || (rl == 2 || rl == 3)
theorem isR_is {rl : Int} (h : isR rl = true) : rl = 1 ∨ rl = 2 ∨ rl = 3 := by
  unfold isR at h
  simpa using h
theorem sRel (rl : Int) (w : World) :
    Calls Try.prog 8 #[.int .i64 rl] w fun e w' => e = .returned (.bool (isR rl)) ∧ w' = w := by
  by_cases r1 : rl = 1
  · subst r1; go_enter Try.func8, Try.ntmps8; go_wp2; go_ret; exact ⟨rfl, rfl⟩
  by_cases r2 : rl = 2
  · subst r2; go_enter Try.func8, Try.ntmps8; go_wp2; go_ret; exact ⟨rfl, rfl⟩
  by_cases r3 : rl = 3
  · subst r3; go_enter Try.func8, Try.ntmps8; go_wp2; go_ret; exact ⟨rfl, rfl⟩
  go_enter Try.func8, Try.ntmps8
  go_wp2
  go_ret
  exact ⟨ret_b (Bool.or_assoc _ _ _), rfl⟩
theorem iIsOne (rl : Int) (w : World) :
    Calls Try.prog 10 #[.int .i64 rl] w fun e w' => e = .returned (.bool (isR rl)) ∧ w' = w := by
  by_cases r1 : rl = 1
  · subst r1; go_enter Try.func10, Try.ntmps10; go_wp2; go_ret; exact ⟨rfl, rfl⟩
  by_cases r2 : rl = 2
  · subst r2; go_enter Try.func10, Try.ntmps10; go_wp2; go_ret; exact ⟨rfl, rfl⟩
  by_cases r3 : rl = 3
  · subst r3; go_enter Try.func10, Try.ntmps10; go_wp2; go_ret; exact ⟨rfl, rfl⟩
  go_enter Try.func10, Try.ntmps10
  go_wp2
  go_ret
  exact ⟨ret_b (Bool.or_assoc _ _ _), rfl⟩
end Go.Proofs.Ytpjagplloljefaa
