/- Contracts of the small functions of chapter 1: what each call returns; nothing that was there is written. No condition. -/
import Derived.Test.YtmofapcoaolndaaN0
import Derived.Test.YtmofapcoaolndaaRows
import Derived.WalkKit
import Derived.WalkSpells
import Derived.WalkLawsBesides
namespace Go.Proofs.Ytmofapcoaolndaa
open Go.RowKit


theorem idx0 (w : World) : (Instr.index 90 (.agg #[.int .i64 32, .iface 86 (.agg #[]), .int .i64 64, .iface 89 (.agg #[])]) (.int .i64 0)).run Try.prog w = .ok (.agg #[.int .i64 32, .iface 86 (.agg #[])]) w := by kernel_rfl
theorem idx1 (w : World) : (Instr.index 90 (.agg #[.int .i64 32, .iface 86 (.agg #[]), .int .i64 64, .iface 89 (.agg #[])]) (.int .i64 1)).run Try.prog w = .ok (.agg #[.int .i64 64, .iface 89 (.agg #[])]) w := by kernel_rfl

set_option maxHeartbeats 400000 in
theorem formOf_32 (w : World) :
    Calls Try.prog 60 #[.int .i64 32] w fun e w' => e = .returned (.tuple #[.iface 86 (.agg #[]), .bool true]) ∧ Below w.heap.size w w' := by
  have i0 := idx0
  go_enter Try.func60, Try.ntmps60
  go_wp2
  refine wp_loop_rounds 1 ?_
  rw [rounds_succ]
  go_wp2
  go_ret2
  exact ⟨rfl, (by repeat (first | exact Below.refl _ _ | refine Below.drew ?_ | refine old_alloc ?_ _ | refine old_trans ?_ (by assumption)))⟩
set_option maxHeartbeats 400000 in
theorem formOf_64 (w : World) :
    Calls Try.prog 60 #[.int .i64 64] w fun e w' => e = .returned (.tuple #[.iface 89 (.agg #[]), .bool true]) ∧ Below w.heap.size w w' := by
  have i0 := idx0
  have i1 := idx1
  go_enter Try.func60, Try.ntmps60
  go_wp2
  refine wp_loop_rounds 2 ?_
  rw [rounds_succ]
  go_wp2
  rw [rounds_succ]
  go_wp2
  go_ret2
  exact ⟨rfl, (by repeat (first | exact Below.refl _ _ | refine Below.drew ?_ | refine old_alloc ?_ _ | refine old_trans ?_ (by assumption)))⟩
set_option maxHeartbeats 400000 in
theorem formOf_no (n : Int) (w : World) (h1 : (32 == n) = false) (h2 : (64 == n) = false) :
    Calls Try.prog 60 #[.int .i64 n] w fun e w' => e = .returned (.tuple #[.nilIface, .bool false]) ∧ Below w.heap.size w w' := by
  have i0 := idx0
  have i1 := idx1
  go_enter Try.func60, Try.ntmps60
  go_wp2
  refine wp_loop_rounds 3 ?_
  rw [rounds_succ]
  go_wp2
  rw [rounds_succ]
  go_wp2
  rw [rounds_succ]
  go_wp2
  go_ret2
  exact ⟨rfl, (by repeat (first | exact Below.refl _ _ | refine Below.drew ?_ | refine old_alloc ?_ _ | refine old_trans ?_ (by assumption)))⟩
end Go.Proofs.Ytmofapcoaolndaa
