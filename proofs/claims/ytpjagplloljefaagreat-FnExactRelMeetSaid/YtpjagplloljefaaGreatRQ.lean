/- Spans compared as structures; which numbers are relations, by the program and by the specification; nothing that was there is written. -/
import Derived.Test.YtpjagplloljefaaGreatS1
import Derived.Deep.RegionHeld3
namespace Go.Proofs.YtpjagplloljefaaGreat
open Go.RowKit
set_option linter.unusedVariables false
set_option maxRecDepth 100000

theorem eql_span (s : Bool) (a b : Int) (t : Bool) (c d : Int) (w : World) : (binOp .eql 24 (.agg #[.bool s, .int .i64 a, .int .i64 b]) (.agg #[.bool t, .int .i64 c, .int .i64 d])).run Tryz.prog w = .ok (.bool (s == t && (a == c && b == d))) w := by
  have hu : Tryz.prog.underlying 24 = some (.struct (Tryz.prog.fieldsOf 24)) := by kernel_rfl
  have hs : Tryz.prog.stoodInHeld 24 = false := by kernel_rfl
  rw [run_eql_struct, run_equalIn_agg w 9999 24 _ _ hu hs]
  simp [go_sem]
  split <;> (try split) <;> (try split) <;> simp [*]
theorem fld_some (s : Bool) (a b : Int) (w : World) : (Instr.field 24 (.agg #[.bool s, .int .i64 a, .int .i64 b]) 0).run Tryz.prog w = .ok (.bool s) w := by kernel_rfl
theorem fld_lo (s : Bool) (a b : Int) (w : World) : (Instr.field 24 (.agg #[.bool s, .int .i64 a, .int .i64 b]) 1).run Tryz.prog w = .ok (.int .i64 a) w := by kernel_rfl
theorem fld_hi (s : Bool) (a b : Int) (w : World) : (Instr.field 24 (.agg #[.bool s, .int .i64 a, .int .i64 b]) 2).run Tryz.prog w = .ok (.int .i64 b) w := by kernel_rfl
def isR (rl : Int) : Bool := rl == 1 || (rl == 2 || rl == 3)
theorem isR_is {rl : Int} (h : isR rl = true) : rl = 1 ∨ rl = 2 ∨ rl = 3 := by
  unfold isR at h
  simpa using h
theorem sRel (rl : Int) (w : World) :
    Calls Tryz.prog 33 #[.int .i64 rl] w fun e w' => e = .returned (.bool (isR rl)) ∧ w' = w := by
  by_cases r1 : rl = 1
  · subst r1; go_enter Tryz.func33, Tryz.ntmps33; go_wp2; go_ret; exact ⟨rfl, rfl⟩
  by_cases r2 : rl = 2
  · subst r2; go_enter Tryz.func33, Tryz.ntmps33; go_wp2; go_ret; exact ⟨rfl, rfl⟩
  by_cases r3 : rl = 3
  · subst r3; go_enter Tryz.func33, Tryz.ntmps33; go_wp2; go_ret; exact ⟨rfl, rfl⟩
  go_enter Tryz.func33, Tryz.ntmps33
  go_wp2
  go_ret
  exact ⟨ret_b (Bool.or_assoc _ _ _), rfl⟩
end Go.Proofs.YtpjagplloljefaaGreat
