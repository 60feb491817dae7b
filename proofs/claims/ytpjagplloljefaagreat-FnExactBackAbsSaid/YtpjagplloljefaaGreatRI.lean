/- What goes back, by the program: what divides; nothing that was there is written. -/
import Derived.Test.YtpjagplloljefaaGreatRB
namespace Go.Proofs.YtpjagplloljefaaGreat
open Go.RowKit
set_option linter.unusedVariables false
set_option maxRecDepth 100000

theorem ta_lesserBack_topBack (v : Value) (w : World) : (Instr.typeAssert (.iface 49 v) 62 101 true).run Tryz.prog w = .ok (.tuple #[.agg #[.bool false, .int .i64 0, .int .i64 0, .bool false, .int .i64 0, .int .i64 0], .bool false]) w := by kernel_rfl
theorem ta_lesserBack_bottomBack (v : Value) (w : World) : (Instr.typeAssert (.iface 49 v) 62 104 true).run Tryz.prog w = .ok (.tuple #[.agg #[.bool false, .int .i64 0, .int .i64 0, .bool false, .int .i64 0, .int .i64 0], .bool false]) w := by kernel_rfl
attribute [local go_sem] ta_lesserBack_topBack ta_lesserBack_bottomBack
set_option maxHeartbeats 1000000 in
theorem iDiv_lesserBack (s1 s2 : Bool) (a b c d : Int) (s3 : Bool) (f g : Int) (w : World) :
    Calls Tryz.prog 62 #[.iface 49 (.agg #[.bool s1, .int .i64 a, .int .i64 b, .bool s2, .int .i64 c, .int .i64 d]), .agg #[.bool s3, .int .i64 f, .int .i64 g]] w fun e w' => e = .returned (.agg #[.bool false, .int .i64 0, .int .i64 0]) ∧ Below w.heap.size w w' := by
  have N := S3.made (w.alloc (.cells #[.bool s3, .int .i64 f, .int .i64 g] 24)) (w.heap.size + 1) (by simp) (.bool false) (.int .i64 0) (.int .i64 0) 24
  obtain ⟨⟨n0, n1, n2⟩, ⟨f0, f1, f2⟩, nz⟩ := id N
  go_enter Tryz.func62, Tryz.ntmps62
  go_wp2
  refine bodyPost_ret (v := .agg #[.bool false, .int .i64 0, .int .i64 0]) ?_ rfl ⟨rfl, (by repeat (first | with_reducible exact Below.refl _ _ | with_reducible refine Below.drew ?_ | ((with_reducible refine Below.setCell ?_ ?_ _); rotate_left; (focus (first | (simp; done) | omega | (simp; omega)))) | with_reducible refine old_alloc ?_ _ | with_reducible refine old_trans ?_ (by with_reducible assumption)))⟩
  simp [results, Tryz.results62, go_sem, n0, n1, n2]
theorem ta_greaterBack_topBack (v : Value) (w : World) : (Instr.typeAssert (.iface 50 v) 62 101 true).run Tryz.prog w = .ok (.tuple #[.agg #[.bool false, .int .i64 0, .int .i64 0, .bool false, .int .i64 0, .int .i64 0], .bool false]) w := by kernel_rfl
theorem ta_greaterBack_bottomBack (v : Value) (w : World) : (Instr.typeAssert (.iface 50 v) 62 104 true).run Tryz.prog w = .ok (.tuple #[.agg #[.bool false, .int .i64 0, .int .i64 0, .bool false, .int .i64 0, .int .i64 0], .bool false]) w := by kernel_rfl
attribute [local go_sem] ta_greaterBack_topBack ta_greaterBack_bottomBack
set_option maxHeartbeats 1000000 in
theorem iDiv_greaterBack (s1 s2 : Bool) (a b c d : Int) (s3 : Bool) (f g : Int) (w : World) :
    Calls Tryz.prog 62 #[.iface 50 (.agg #[.bool s1, .int .i64 a, .int .i64 b, .bool s2, .int .i64 c, .int .i64 d]), .agg #[.bool s3, .int .i64 f, .int .i64 g]] w fun e w' => e = .returned (.agg #[.bool false, .int .i64 0, .int .i64 0]) ∧ Below w.heap.size w w' := by
  have N := S3.made (w.alloc (.cells #[.bool s3, .int .i64 f, .int .i64 g] 24)) (w.heap.size + 1) (by simp) (.bool false) (.int .i64 0) (.int .i64 0) 24
  obtain ⟨⟨n0, n1, n2⟩, ⟨f0, f1, f2⟩, nz⟩ := id N
  go_enter Tryz.func62, Tryz.ntmps62
  go_wp2
  refine bodyPost_ret (v := .agg #[.bool false, .int .i64 0, .int .i64 0]) ?_ rfl ⟨rfl, (by repeat (first | with_reducible exact Below.refl _ _ | with_reducible refine Below.drew ?_ | ((with_reducible refine Below.setCell ?_ ?_ _); rotate_left; (focus (first | (simp; done) | omega | (simp; omega)))) | with_reducible refine old_alloc ?_ _ | with_reducible refine old_trans ?_ (by with_reducible assumption)))⟩
  simp [results, Tryz.results62, go_sem, n0, n1, n2]
theorem ta_sizeBack_topBack (v : Value) (w : World) : (Instr.typeAssert (.iface 47 v) 62 101 true).run Tryz.prog w = .ok (.tuple #[.agg #[.bool false, .int .i64 0, .int .i64 0, .bool false, .int .i64 0, .int .i64 0], .bool false]) w := by kernel_rfl
theorem ta_sizeBack_bottomBack (v : Value) (w : World) : (Instr.typeAssert (.iface 47 v) 62 104 true).run Tryz.prog w = .ok (.tuple #[.agg #[.bool false, .int .i64 0, .int .i64 0, .bool false, .int .i64 0, .int .i64 0], .bool false]) w := by kernel_rfl
attribute [local go_sem] ta_sizeBack_topBack ta_sizeBack_bottomBack
set_option maxHeartbeats 1000000 in
theorem iDiv_sizeBack (s1 s2 : Bool) (a b c d : Int) (s3 : Bool) (f g : Int) (w : World) :
    Calls Tryz.prog 62 #[.iface 47 (.agg #[.bool s1, .int .i64 a, .int .i64 b, .bool s2, .int .i64 c, .int .i64 d]), .agg #[.bool s3, .int .i64 f, .int .i64 g]] w fun e w' => e = .returned (.agg #[.bool false, .int .i64 0, .int .i64 0]) ∧ Below w.heap.size w w' := by
  have N := S3.made (w.alloc (.cells #[.bool s3, .int .i64 f, .int .i64 g] 24)) (w.heap.size + 1) (by simp) (.bool false) (.int .i64 0) (.int .i64 0) 24
  obtain ⟨⟨n0, n1, n2⟩, ⟨f0, f1, f2⟩, nz⟩ := id N
  go_enter Tryz.func62, Tryz.ntmps62
  go_wp2
  refine bodyPost_ret (v := .agg #[.bool false, .int .i64 0, .int .i64 0]) ?_ rfl ⟨rfl, (by repeat (first | with_reducible exact Below.refl _ _ | with_reducible refine Below.drew ?_ | ((with_reducible refine Below.setCell ?_ ?_ _); rotate_left; (focus (first | (simp; done) | omega | (simp; omega)))) | with_reducible refine old_alloc ?_ _ | with_reducible refine old_trans ?_ (by with_reducible assumption)))⟩
  simp [results, Tryz.results62, go_sem, n0, n1, n2]
end Go.Proofs.YtpjagplloljefaaGreat
