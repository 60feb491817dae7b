/- Contracts of the small functions of chapter 1: what each call returns; nothing that was there is written. No condition. -/
import Derived.Test.YtekbhkklaogmnaaDoorN0
import Derived.Test.YtekbhkklaogmnaaDoorRows
import Derived.WalkKit
import Derived.WalkSpells
import Derived.WalkLawsBesides
namespace Go.Proofs.YtekbhkklaogmnaaDoor
open Go.RowKit


theorem idx0 (w : World) : (Instr.index 81 (.agg #[.int .i64 32, .iface 77 (.agg #[]), .int .i64 64, .iface 80 (.agg #[])]) (.int .i64 0)).run Tryd.prog w = .ok (.agg #[.int .i64 32, .iface 77 (.agg #[])]) w := by kernel_rfl
theorem idx1 (w : World) : (Instr.index 81 (.agg #[.int .i64 32, .iface 77 (.agg #[]), .int .i64 64, .iface 80 (.agg #[])]) (.int .i64 1)).run Tryd.prog w = .ok (.agg #[.int .i64 64, .iface 80 (.agg #[])]) w := by kernel_rfl

set_option maxHeartbeats 400000 in
theorem formOf_32 (w : World) :
    Calls Tryd.prog 22 #[.int .i64 32] w fun e w' => e = .returned (.tuple #[.iface 77 (.agg #[]), .bool true]) ∧ Below w.heap.size w w' := by
  have i0 := idx0
  go_enter Tryd.func22, Tryd.ntmps22
  go_wp2
  refine wp_loop_rounds 1 ?_
  rw [rounds_succ]
  go_wp2
  go_ret2
  exact ⟨rfl, (by repeat (first | exact Below.refl _ _ | refine Below.drew ?_ | refine old_alloc ?_ _ | refine old_trans ?_ (by assumption)))⟩
set_option maxHeartbeats 400000 in
theorem formOf_64 (w : World) :
    Calls Tryd.prog 22 #[.int .i64 64] w fun e w' => e = .returned (.tuple #[.iface 80 (.agg #[]), .bool true]) ∧ Below w.heap.size w w' := by
  have i0 := idx0
  have i1 := idx1
  go_enter Tryd.func22, Tryd.ntmps22
  go_wp2
  refine wp_loop_rounds 2 ?_
  rw [rounds_succ]
  go_wp2
  rw [rounds_succ]
  go_wp2
  go_ret2
  exact ⟨rfl, (by repeat (first | exact Below.refl _ _ | refine Below.drew ?_ | refine old_alloc ?_ _ | refine old_trans ?_ (by assumption)))⟩
set_option maxHeartbeats 400000 in
theorem formOf_no (n : Int) (w : World) (h1 : (32 == n) = false) (h2 : (64 == n) = false) :
    Calls Tryd.prog 22 #[.int .i64 n] w fun e w' => e = .returned (.tuple #[.nilIface, .bool false]) ∧ Below w.heap.size w w' := by
  have i0 := idx0
  have i1 := idx1
  go_enter Tryd.func22, Tryd.ntmps22
  go_wp2
  refine wp_loop_rounds 3 ?_
  rw [rounds_succ]
  go_wp2
  rw [rounds_succ]
  go_wp2
  rw [rounds_succ]
  go_wp2
  go_ret2
  exact ⟨rfl, (by repeat (first | exact Below.refl _ _ | refine Below.drew ?_ | refine old_alloc ?_ _ | refine old_trans ?_ (by assumption)))⟩
end Go.Proofs.YtekbhkklaogmnaaDoor
