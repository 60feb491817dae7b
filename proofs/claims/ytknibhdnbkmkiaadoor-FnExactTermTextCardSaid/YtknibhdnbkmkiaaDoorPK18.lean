/- A node with the trees of its parts is a tree, by the program. Nothing that was there is written. -/
import Derived.Test.YtknibhdnbkmkiaaDoorPK17
import Derived.Deep.DeepCutAuto
import Derived.Deep.RegionWith
import Derived.Lib.Slices
namespace Go.Proofs.YtknibhdnbkmkiaaDoor
open Go.RowKit
set_option linter.unusedVariables false
set_option maxRecDepth 100000

theorem iRows (w : World) : Calls Tryd.prog 33 #[] w fun e w' => e = .returned (.agg #[.int .i64 4, .string ⟨#[43]⟩, .int .i64 0, .int .i64 5, .string ⟨#[45]⟩, .int .i64 0, .int .i64 6, .string ⟨#[42]⟩, .int .i64 1, .int .i64 7, .string ⟨#[47]⟩, .int .i64 1]) ∧ Below w.heap.size w w' := by
  go_enter Tryd.func33, Tryd.ntmps33
  go_wp2
  refine bodyPost_ret (v := .agg #[.int .i64 4, .string ⟨#[43]⟩, .int .i64 0, .int .i64 5, .string ⟨#[45]⟩, .int .i64 0, .int .i64 6, .string ⟨#[42]⟩, .int .i64 1, .int .i64 7, .string ⟨#[47]⟩, .int .i64 1]) ?_ rfl ⟨rfl, (by repeat (first | with_reducible exact Below.refl _ _ | with_reducible refine Below.drew ?_ | ((with_reducible refine Below.setCell ?_ ?_ _); rotate_left; (focus (first | (simp; done) | omega | (simp; omega)))) | with_reducible refine old_alloc ?_ _ | with_reducible refine old_trans ?_ (by with_reducible assumption)))⟩
  simp [results, Tryd.results33, go_sem]
theorem ridx0 (w : World) : (Instr.index 75 (.agg #[.int .i64 4, .string ⟨#[43]⟩, .int .i64 0, .int .i64 5, .string ⟨#[45]⟩, .int .i64 0, .int .i64 6, .string ⟨#[42]⟩, .int .i64 1, .int .i64 7, .string ⟨#[47]⟩, .int .i64 1]) (.int .i64 0)).run Tryd.prog w = .ok (.agg #[.int .i64 4, .string ⟨#[43]⟩, .int .i64 0]) w := by kernel_rfl
theorem ridx1 (w : World) : (Instr.index 75 (.agg #[.int .i64 4, .string ⟨#[43]⟩, .int .i64 0, .int .i64 5, .string ⟨#[45]⟩, .int .i64 0, .int .i64 6, .string ⟨#[42]⟩, .int .i64 1, .int .i64 7, .string ⟨#[47]⟩, .int .i64 1]) (.int .i64 1)).run Tryd.prog w = .ok (.agg #[.int .i64 5, .string ⟨#[45]⟩, .int .i64 0]) w := by kernel_rfl
theorem ridx2 (w : World) : (Instr.index 75 (.agg #[.int .i64 4, .string ⟨#[43]⟩, .int .i64 0, .int .i64 5, .string ⟨#[45]⟩, .int .i64 0, .int .i64 6, .string ⟨#[42]⟩, .int .i64 1, .int .i64 7, .string ⟨#[47]⟩, .int .i64 1]) (.int .i64 2)).run Tryd.prog w = .ok (.agg #[.int .i64 6, .string ⟨#[42]⟩, .int .i64 1]) w := by kernel_rfl
theorem ridx3 (w : World) : (Instr.index 75 (.agg #[.int .i64 4, .string ⟨#[43]⟩, .int .i64 0, .int .i64 5, .string ⟨#[45]⟩, .int .i64 0, .int .i64 6, .string ⟨#[42]⟩, .int .i64 1, .int .i64 7, .string ⟨#[47]⟩, .int .i64 1]) (.int .i64 3)).run Tryd.prog w = .ok (.agg #[.int .i64 7, .string ⟨#[47]⟩, .int .i64 1]) w := by kernel_rfl
set_option maxRecDepth 100000 in
set_option maxHeartbeats 4000000 in
theorem iTree_1 (n : Int) (s : ByteArray) (w : World) (av : Option Addr) (cap : Nat) :
    Calls Tryd.prog 24 #[.agg #[.int .i64 1, .int .i64 n, .string s], .slice av 0 cap] w fun e w' => e = .returned (.iface 86 (.agg #[.int .i64 1, .string s])) ∧ Below w.heap.size w w' := by
  have K := CS.made w _ rfl #[.int .i64 1, .int .i64 n, .string s] 48
  have hB : Below w.heap.size w (w.alloc (.cells #[.int .i64 1, .int .i64 n, .string s] 48)) := old_alloc (Below.refl _ _) _
  go_enter Tryd.func24, Tryd.ntmps24
  generalize hw0 : w.alloc (.cells #[.int .i64 1, .int .i64 n, .string s] 48) = w0 at *
  have k0 := K.cell 0 _ rfl
  have k1 := K.cell 1 _ rfl
  have k2 := K.cell 2 _ rfl
  have hlt := K.lt
  have i0 := ridx0
  have i1 := ridx1
  have i2 := ridx2
  have i3 := ridx3
  go_wp2_with fail
  refine (iRows _).mono ?_
  rintro ev w1 ⟨rfl, hb1⟩
  clear k0 k1 k2 hlt
  replace K := K.later hb1
  replace hB := old_trans hB hb1
  clear hb1
  have k0 := K.cell 0 _ rfl
  have k1 := K.cell 1 _ rfl
  have k2 := K.cell 2 _ rfl
  have hlt := K.lt
  go_wp2
  refine wp_loop_rounds 5 ?_
  rw [rounds_succ]
  go_wp2
  clear k0 k1 k2 hlt
  have K' := K.alloc (.cells #[.int .i64 4, .string ⟨#[43]⟩, .int .i64 0] 74)
  have hB' := old_alloc hB (.cells #[.int .i64 4, .string ⟨#[43]⟩, .int .i64 0] 74)
  clear K hB
  generalize w1.alloc (.cells #[.int .i64 4, .string ⟨#[43]⟩, .int .i64 0] 74) = w2 at *
  have K := K'
  have hB := hB'
  clear K' hB'
  have k0 := K.cell 0 _ rfl
  have k1 := K.cell 1 _ rfl
  have k2 := K.cell 2 _ rfl
  have hlt := K.lt
  rw [rounds_succ]
  go_wp2
  clear k0 k1 k2 hlt
  have K' := K.alloc (.cells #[.int .i64 5, .string ⟨#[45]⟩, .int .i64 0] 74)
  have hB' := old_alloc hB (.cells #[.int .i64 5, .string ⟨#[45]⟩, .int .i64 0] 74)
  clear K hB
  generalize w2.alloc (.cells #[.int .i64 5, .string ⟨#[45]⟩, .int .i64 0] 74) = w3 at *
  have K := K'
  have hB := hB'
  clear K' hB'
  have k0 := K.cell 0 _ rfl
  have k1 := K.cell 1 _ rfl
  have k2 := K.cell 2 _ rfl
  have hlt := K.lt
  rw [rounds_succ]
  go_wp2
  clear k0 k1 k2 hlt
  have K' := K.alloc (.cells #[.int .i64 6, .string ⟨#[42]⟩, .int .i64 1] 74)
  have hB' := old_alloc hB (.cells #[.int .i64 6, .string ⟨#[42]⟩, .int .i64 1] 74)
  clear K hB
  generalize w3.alloc (.cells #[.int .i64 6, .string ⟨#[42]⟩, .int .i64 1] 74) = w4 at *
  have K := K'
  have hB := hB'
  clear K' hB'
  have k0 := K.cell 0 _ rfl
  have k1 := K.cell 1 _ rfl
  have k2 := K.cell 2 _ rfl
  have hlt := K.lt
  rw [rounds_succ]
  go_wp2
  clear k0 k1 k2 hlt
  have K' := K.alloc (.cells #[.int .i64 7, .string ⟨#[47]⟩, .int .i64 1] 74)
  have hB' := old_alloc hB (.cells #[.int .i64 7, .string ⟨#[47]⟩, .int .i64 1] 74)
  clear K hB
  generalize w4.alloc (.cells #[.int .i64 7, .string ⟨#[47]⟩, .int .i64 1] 74) = w5 at *
  have K := K'
  have hB := hB'
  clear K' hB'
  have k0 := K.cell 0 _ rfl
  have k1 := K.cell 1 _ rfl
  have k2 := K.cell 2 _ rfl
  have hlt := K.lt
  rw [rounds_succ]
  clear i0 i1 i2 i3
  have i0 := oidx0
  have i1 := oidx1
  have i2 := oidx2
  have i3 := oidx3
  have i4 := oidx4
  have i5 := oidx5
  go_wp2_with fail
  refine (iOwnWords _).mono ?_
  rintro ev w6 ⟨rfl, hb1⟩
  clear k0 k1 k2 hlt
  replace K := K.later hb1
  replace hB := old_trans hB hb1
  clear hb1
  have k0 := K.cell 0 _ rfl
  have k1 := K.cell 1 _ rfl
  have k2 := K.cell 2 _ rfl
  have hlt := K.lt
  go_wp2
  refine wp_loop_rounds 7 ?_
  rw [rounds_succ]
  go_wp2
  clear k0 k1 k2 hlt
  have K' := K.alloc (.cells #[.string ⟨#[100, 101, 102]⟩, .int .i64 0] 80)
  have hB' := old_alloc hB (.cells #[.string ⟨#[100, 101, 102]⟩, .int .i64 0] 80)
  clear K hB
  generalize w6.alloc (.cells #[.string ⟨#[100, 101, 102]⟩, .int .i64 0] 80) = w7 at *
  have K := K'
  have hB := hB'
  clear K' hB'
  have k0 := K.cell 0 _ rfl
  have k1 := K.cell 1 _ rfl
  have k2 := K.cell 2 _ rfl
  have hlt := K.lt
  rw [rounds_succ]
  go_wp2
  clear k0 k1 k2 hlt
  have K' := K.alloc (.cells #[.string ⟨#[118, 97, 114]⟩, .int .i64 0] 80)
  have hB' := old_alloc hB (.cells #[.string ⟨#[118, 97, 114]⟩, .int .i64 0] 80)
  clear K hB
  generalize w7.alloc (.cells #[.string ⟨#[118, 97, 114]⟩, .int .i64 0] 80) = w8 at *
  have K := K'
  have hB := hB'
  clear K' hB'
  have k0 := K.cell 0 _ rfl
  have k1 := K.cell 1 _ rfl
  have k2 := K.cell 2 _ rfl
  have hlt := K.lt
  rw [rounds_succ]
  go_wp2
  clear k0 k1 k2 hlt
  have K' := K.alloc (.cells #[.string ⟨#[115, 113, 114, 116]⟩, .int .i64 9] 80)
  have hB' := old_alloc hB (.cells #[.string ⟨#[115, 113, 114, 116]⟩, .int .i64 9] 80)
  clear K hB
  generalize w8.alloc (.cells #[.string ⟨#[115, 113, 114, 116]⟩, .int .i64 9] 80) = w9 at *
  have K := K'
  have hB := hB'
  clear K' hB'
  have k0 := K.cell 0 _ rfl
  have k1 := K.cell 1 _ rfl
  have k2 := K.cell 2 _ rfl
  have hlt := K.lt
  rw [rounds_succ]
  go_wp2
  clear k0 k1 k2 hlt
  have K' := K.alloc (.cells #[.string ⟨#[97, 98, 115]⟩, .int .i64 10] 80)
  have hB' := old_alloc hB (.cells #[.string ⟨#[97, 98, 115]⟩, .int .i64 10] 80)
  clear K hB
  generalize w9.alloc (.cells #[.string ⟨#[97, 98, 115]⟩, .int .i64 10] 80) = w10 at *
  have K := K'
  have hB := hB'
  clear K' hB'
  have k0 := K.cell 0 _ rfl
  have k1 := K.cell 1 _ rfl
  have k2 := K.cell 2 _ rfl
  have hlt := K.lt
  rw [rounds_succ]
  go_wp2
  clear k0 k1 k2 hlt
  have K' := K.alloc (.cells #[.string ⟨#[109, 105, 110]⟩, .int .i64 11] 80)
  have hB' := old_alloc hB (.cells #[.string ⟨#[109, 105, 110]⟩, .int .i64 11] 80)
  clear K hB
  generalize w10.alloc (.cells #[.string ⟨#[109, 105, 110]⟩, .int .i64 11] 80) = w11 at *
  have K := K'
  have hB := hB'
  clear K' hB'
  have k0 := K.cell 0 _ rfl
  have k1 := K.cell 1 _ rfl
  have k2 := K.cell 2 _ rfl
  have hlt := K.lt
  rw [rounds_succ]
  go_wp2
  clear k0 k1 k2 hlt
  have K' := K.alloc (.cells #[.string ⟨#[109, 97, 120]⟩, .int .i64 12] 80)
  have hB' := old_alloc hB (.cells #[.string ⟨#[109, 97, 120]⟩, .int .i64 12] 80)
  clear K hB
  generalize w11.alloc (.cells #[.string ⟨#[109, 97, 120]⟩, .int .i64 12] 80) = w12 at *
  have K := K'
  have hB := hB'
  clear K' hB'
  have k0 := K.cell 0 _ rfl
  have k1 := K.cell 1 _ rfl
  have k2 := K.cell 2 _ rfl
  have hlt := K.lt
  rw [rounds_succ]
  go_wp2
  go_ret
  exact ⟨rfl, (by repeat (first | exact hB | exact Below.refl _ _ | refine Below.drew ?_ | refine old_alloc ?_ _ | refine old_trans ?_ (by assumption)))⟩
set_option maxRecDepth 100000 in
set_option maxHeartbeats 4000000 in
theorem iTree_2 (n : Int) (s : ByteArray) (w : World) (av : Option Addr) (cap : Nat) :
    Calls Tryd.prog 24 #[.agg #[.int .i64 2, .int .i64 n, .string s], .slice av 0 cap] w fun e w' => e = .returned (.iface 86 (.agg #[.int .i64 2, .string s])) ∧ Below w.heap.size w w' := by
  have K := CS.made w _ rfl #[.int .i64 2, .int .i64 n, .string s] 48
  have hB : Below w.heap.size w (w.alloc (.cells #[.int .i64 2, .int .i64 n, .string s] 48)) := old_alloc (Below.refl _ _) _
  go_enter Tryd.func24, Tryd.ntmps24
  generalize hw0 : w.alloc (.cells #[.int .i64 2, .int .i64 n, .string s] 48) = w0 at *
  have k0 := K.cell 0 _ rfl
  have k1 := K.cell 1 _ rfl
  have k2 := K.cell 2 _ rfl
  have hlt := K.lt
  have i0 := ridx0
  have i1 := ridx1
  have i2 := ridx2
  have i3 := ridx3
  go_wp2_with fail
  refine (iRows _).mono ?_
  rintro ev w1 ⟨rfl, hb1⟩
  clear k0 k1 k2 hlt
  replace K := K.later hb1
  replace hB := old_trans hB hb1
  clear hb1
  have k0 := K.cell 0 _ rfl
  have k1 := K.cell 1 _ rfl
  have k2 := K.cell 2 _ rfl
  have hlt := K.lt
  go_wp2
  refine wp_loop_rounds 5 ?_
  rw [rounds_succ]
  go_wp2
  clear k0 k1 k2 hlt
  have K' := K.alloc (.cells #[.int .i64 4, .string ⟨#[43]⟩, .int .i64 0] 74)
  have hB' := old_alloc hB (.cells #[.int .i64 4, .string ⟨#[43]⟩, .int .i64 0] 74)
  clear K hB
  generalize w1.alloc (.cells #[.int .i64 4, .string ⟨#[43]⟩, .int .i64 0] 74) = w2 at *
  have K := K'
  have hB := hB'
  clear K' hB'
  have k0 := K.cell 0 _ rfl
  have k1 := K.cell 1 _ rfl
  have k2 := K.cell 2 _ rfl
  have hlt := K.lt
  rw [rounds_succ]
  go_wp2
  clear k0 k1 k2 hlt
  have K' := K.alloc (.cells #[.int .i64 5, .string ⟨#[45]⟩, .int .i64 0] 74)
  have hB' := old_alloc hB (.cells #[.int .i64 5, .string ⟨#[45]⟩, .int .i64 0] 74)
  clear K hB
  generalize w2.alloc (.cells #[.int .i64 5, .string ⟨#[45]⟩, .int .i64 0] 74) = w3 at *
  have K := K'
  have hB := hB'
  clear K' hB'
  have k0 := K.cell 0 _ rfl
  have k1 := K.cell 1 _ rfl
  have k2 := K.cell 2 _ rfl
  have hlt := K.lt
  rw [rounds_succ]
  go_wp2
  clear k0 k1 k2 hlt
  have K' := K.alloc (.cells #[.int .i64 6, .string ⟨#[42]⟩, .int .i64 1] 74)
  have hB' := old_alloc hB (.cells #[.int .i64 6, .string ⟨#[42]⟩, .int .i64 1] 74)
  clear K hB
  generalize w3.alloc (.cells #[.int .i64 6, .string ⟨#[42]⟩, .int .i64 1] 74) = w4 at *
  have K := K'
  have hB := hB'
  clear K' hB'
  have k0 := K.cell 0 _ rfl
  have k1 := K.cell 1 _ rfl
  have k2 := K.cell 2 _ rfl
  have hlt := K.lt
  rw [rounds_succ]
  go_wp2
  clear k0 k1 k2 hlt
  have K' := K.alloc (.cells #[.int .i64 7, .string ⟨#[47]⟩, .int .i64 1] 74)
  have hB' := old_alloc hB (.cells #[.int .i64 7, .string ⟨#[47]⟩, .int .i64 1] 74)
  clear K hB
  generalize w4.alloc (.cells #[.int .i64 7, .string ⟨#[47]⟩, .int .i64 1] 74) = w5 at *
  have K := K'
  have hB := hB'
  clear K' hB'
  have k0 := K.cell 0 _ rfl
  have k1 := K.cell 1 _ rfl
  have k2 := K.cell 2 _ rfl
  have hlt := K.lt
  rw [rounds_succ]
  clear i0 i1 i2 i3
  have i0 := oidx0
  have i1 := oidx1
  have i2 := oidx2
  have i3 := oidx3
  have i4 := oidx4
  have i5 := oidx5
  go_wp2_with fail
  refine (iOwnWords _).mono ?_
  rintro ev w6 ⟨rfl, hb1⟩
  clear k0 k1 k2 hlt
  replace K := K.later hb1
  replace hB := old_trans hB hb1
  clear hb1
  have k0 := K.cell 0 _ rfl
  have k1 := K.cell 1 _ rfl
  have k2 := K.cell 2 _ rfl
  have hlt := K.lt
  go_wp2
  refine wp_loop_rounds 7 ?_
  rw [rounds_succ]
  go_wp2
  clear k0 k1 k2 hlt
  have K' := K.alloc (.cells #[.string ⟨#[100, 101, 102]⟩, .int .i64 0] 80)
  have hB' := old_alloc hB (.cells #[.string ⟨#[100, 101, 102]⟩, .int .i64 0] 80)
  clear K hB
  generalize w6.alloc (.cells #[.string ⟨#[100, 101, 102]⟩, .int .i64 0] 80) = w7 at *
  have K := K'
  have hB := hB'
  clear K' hB'
  have k0 := K.cell 0 _ rfl
  have k1 := K.cell 1 _ rfl
  have k2 := K.cell 2 _ rfl
  have hlt := K.lt
  rw [rounds_succ]
  go_wp2
  clear k0 k1 k2 hlt
  have K' := K.alloc (.cells #[.string ⟨#[118, 97, 114]⟩, .int .i64 0] 80)
  have hB' := old_alloc hB (.cells #[.string ⟨#[118, 97, 114]⟩, .int .i64 0] 80)
  clear K hB
  generalize w7.alloc (.cells #[.string ⟨#[118, 97, 114]⟩, .int .i64 0] 80) = w8 at *
  have K := K'
  have hB := hB'
  clear K' hB'
  have k0 := K.cell 0 _ rfl
  have k1 := K.cell 1 _ rfl
  have k2 := K.cell 2 _ rfl
  have hlt := K.lt
  rw [rounds_succ]
  go_wp2
  clear k0 k1 k2 hlt
  have K' := K.alloc (.cells #[.string ⟨#[115, 113, 114, 116]⟩, .int .i64 9] 80)
  have hB' := old_alloc hB (.cells #[.string ⟨#[115, 113, 114, 116]⟩, .int .i64 9] 80)
  clear K hB
  generalize w8.alloc (.cells #[.string ⟨#[115, 113, 114, 116]⟩, .int .i64 9] 80) = w9 at *
  have K := K'
  have hB := hB'
  clear K' hB'
  have k0 := K.cell 0 _ rfl
  have k1 := K.cell 1 _ rfl
  have k2 := K.cell 2 _ rfl
  have hlt := K.lt
  rw [rounds_succ]
  go_wp2
  clear k0 k1 k2 hlt
  have K' := K.alloc (.cells #[.string ⟨#[97, 98, 115]⟩, .int .i64 10] 80)
  have hB' := old_alloc hB (.cells #[.string ⟨#[97, 98, 115]⟩, .int .i64 10] 80)
  clear K hB
  generalize w9.alloc (.cells #[.string ⟨#[97, 98, 115]⟩, .int .i64 10] 80) = w10 at *
  have K := K'
  have hB := hB'
  clear K' hB'
  have k0 := K.cell 0 _ rfl
  have k1 := K.cell 1 _ rfl
  have k2 := K.cell 2 _ rfl
  have hlt := K.lt
  rw [rounds_succ]
  go_wp2
  clear k0 k1 k2 hlt
  have K' := K.alloc (.cells #[.string ⟨#[109, 105, 110]⟩, .int .i64 11] 80)
  have hB' := old_alloc hB (.cells #[.string ⟨#[109, 105, 110]⟩, .int .i64 11] 80)
  clear K hB
  generalize w10.alloc (.cells #[.string ⟨#[109, 105, 110]⟩, .int .i64 11] 80) = w11 at *
  have K := K'
  have hB := hB'
  clear K' hB'
  have k0 := K.cell 0 _ rfl
  have k1 := K.cell 1 _ rfl
  have k2 := K.cell 2 _ rfl
  have hlt := K.lt
  rw [rounds_succ]
  go_wp2
  clear k0 k1 k2 hlt
  have K' := K.alloc (.cells #[.string ⟨#[109, 97, 120]⟩, .int .i64 12] 80)
  have hB' := old_alloc hB (.cells #[.string ⟨#[109, 97, 120]⟩, .int .i64 12] 80)
  clear K hB
  generalize w11.alloc (.cells #[.string ⟨#[109, 97, 120]⟩, .int .i64 12] 80) = w12 at *
  have K := K'
  have hB := hB'
  clear K' hB'
  have k0 := K.cell 0 _ rfl
  have k1 := K.cell 1 _ rfl
  have k2 := K.cell 2 _ rfl
  have hlt := K.lt
  rw [rounds_succ]
  go_wp2
  go_ret
  exact ⟨rfl, (by repeat (first | exact hB | exact Below.refl _ _ | refine Below.drew ?_ | refine old_alloc ?_ _ | refine old_trans ?_ (by assumption)))⟩
set_option maxRecDepth 100000 in
set_option maxHeartbeats 4000000 in
theorem iTree_3 (n : Int) (s : ByteArray) (w : World) (b off cap : Nat) (ty0 : TypeId) (u0 : Value) (hb : b < w.heap.size) (q0 : w.cell? ⟨b, off, none⟩ = some (.iface ty0 u0)) (hcap : 1 ≤ cap) :
    Calls Tryd.prog 24 #[.agg #[.int .i64 3, .int .i64 n, .string s], .slice (some ⟨b, off, none⟩) 1 cap] w fun e w' => e = .returned (.iface 65 (.agg #[.iface ty0 u0])) ∧ Below w.heap.size w w' := by
  have K := CS.made w _ rfl #[.int .i64 3, .int .i64 n, .string s] 48
  have hB : Below w.heap.size w (w.alloc (.cells #[.int .i64 3, .int .i64 n, .string s] 48)) := old_alloc (Below.refl _ _) _
  go_enter Tryd.func24, Tryd.ntmps24
  generalize hw0 : w.alloc (.cells #[.int .i64 3, .int .i64 n, .string s] 48) = w0 at *
  have k0 := K.cell 0 _ rfl
  have k1 := K.cell 1 _ rfl
  have k2 := K.cell 2 _ rfl
  have hlt := K.lt
  have hbw : b < w0.heap.size := Nat.lt_of_lt_of_le hb hB.size
  have hbn : b ≠ w0.heap.size := by omega
  have p0 : w0.cell? ⟨b, off, none⟩ = some (.iface ty0 u0) := (hB.cell (p := ⟨b, off, none⟩) hb).trans q0
  go_wp2
  go_ret
  exact ⟨rfl, (by repeat (first | exact hB | exact Below.refl _ _ | refine Below.drew ?_ | refine old_alloc ?_ _ | refine old_trans ?_ (by assumption)))⟩
set_option maxRecDepth 100000 in
set_option maxHeartbeats 4000000 in
theorem iTree_4 (n : Int) (s : ByteArray) (w : World) (b off cap : Nat) (ty0 : TypeId) (u0 : Value) (ty1 : TypeId) (u1 : Value) (hb : b < w.heap.size) (q0 : w.cell? ⟨b, off, none⟩ = some (.iface ty0 u0)) (q1 : w.cell? ⟨b, off + 1, none⟩ = some (.iface ty1 u1)) (hcap : 2 ≤ cap) :
    Calls Tryd.prog 24 #[.agg #[.int .i64 4, .int .i64 n, .string s], .slice (some ⟨b, off, none⟩) 2 cap] w fun e w' => e = .returned (.iface 78 (.agg #[.int .i64 4, .string ⟨#[43]⟩, .int .i64 0, .iface ty0 u0, .iface ty1 u1])) ∧ Below w.heap.size w w' := by
  have K := CS.made w _ rfl #[.int .i64 4, .int .i64 n, .string s] 48
  have hB : Below w.heap.size w (w.alloc (.cells #[.int .i64 4, .int .i64 n, .string s] 48)) := old_alloc (Below.refl _ _) _
  go_enter Tryd.func24, Tryd.ntmps24
  generalize hw0 : w.alloc (.cells #[.int .i64 4, .int .i64 n, .string s] 48) = w0 at *
  have k0 := K.cell 0 _ rfl
  have k1 := K.cell 1 _ rfl
  have k2 := K.cell 2 _ rfl
  have hlt := K.lt
  have hbw : b < w0.heap.size := Nat.lt_of_lt_of_le hb hB.size
  have hbn : b ≠ w0.heap.size := by omega
  have p0 : w0.cell? ⟨b, off, none⟩ = some (.iface ty0 u0) := (hB.cell (p := ⟨b, off, none⟩) hb).trans q0
  have p1 : w0.cell? ⟨b, off + 1, none⟩ = some (.iface ty1 u1) := (hB.cell (p := ⟨b, off + 1, none⟩) hb).trans q1
  have i0 := ridx0
  have i1 := ridx1
  have i2 := ridx2
  have i3 := ridx3
  go_wp2_with fail
  refine (iRows _).mono ?_
  rintro ev w1 ⟨rfl, hb1⟩
  clear k0 k1 k2 hlt p0 p1 hbn hbw
  replace K := K.later hb1
  replace hB := old_trans hB hb1
  clear hb1
  have k0 := K.cell 0 _ rfl
  have k1 := K.cell 1 _ rfl
  have k2 := K.cell 2 _ rfl
  have hlt := K.lt
  have hbw : b < w1.heap.size := Nat.lt_of_lt_of_le hb hB.size
  have hbn : b ≠ w1.heap.size := by omega
  have p0 : w1.cell? ⟨b, off, none⟩ = some (.iface ty0 u0) := (hB.cell (p := ⟨b, off, none⟩) hb).trans q0
  have p1 : w1.cell? ⟨b, off + 1, none⟩ = some (.iface ty1 u1) := (hB.cell (p := ⟨b, off + 1, none⟩) hb).trans q1
  go_wp2
  refine wp_loop_rounds 1 ?_
  rw [rounds_succ]
  go_wp2_with fail
  go_region
  all_goals
    go_wp2
    go_ret
    exact ⟨rfl, (by repeat (first | exact hB | exact Below.refl _ _ | refine Below.drew ?_ | refine old_alloc ?_ _ | refine old_trans ?_ (by assumption)))⟩
set_option maxRecDepth 100000 in
set_option maxHeartbeats 4000000 in
theorem iTree_5 (n : Int) (s : ByteArray) (w : World) (b off cap : Nat) (ty0 : TypeId) (u0 : Value) (ty1 : TypeId) (u1 : Value) (hb : b < w.heap.size) (q0 : w.cell? ⟨b, off, none⟩ = some (.iface ty0 u0)) (q1 : w.cell? ⟨b, off + 1, none⟩ = some (.iface ty1 u1)) (hcap : 2 ≤ cap) :
    Calls Tryd.prog 24 #[.agg #[.int .i64 5, .int .i64 n, .string s], .slice (some ⟨b, off, none⟩) 2 cap] w fun e w' => e = .returned (.iface 78 (.agg #[.int .i64 5, .string ⟨#[45]⟩, .int .i64 0, .iface ty0 u0, .iface ty1 u1])) ∧ Below w.heap.size w w' := by
  have K := CS.made w _ rfl #[.int .i64 5, .int .i64 n, .string s] 48
  have hB : Below w.heap.size w (w.alloc (.cells #[.int .i64 5, .int .i64 n, .string s] 48)) := old_alloc (Below.refl _ _) _
  go_enter Tryd.func24, Tryd.ntmps24
  generalize hw0 : w.alloc (.cells #[.int .i64 5, .int .i64 n, .string s] 48) = w0 at *
  have k0 := K.cell 0 _ rfl
  have k1 := K.cell 1 _ rfl
  have k2 := K.cell 2 _ rfl
  have hlt := K.lt
  have hbw : b < w0.heap.size := Nat.lt_of_lt_of_le hb hB.size
  have hbn : b ≠ w0.heap.size := by omega
  have p0 : w0.cell? ⟨b, off, none⟩ = some (.iface ty0 u0) := (hB.cell (p := ⟨b, off, none⟩) hb).trans q0
  have p1 : w0.cell? ⟨b, off + 1, none⟩ = some (.iface ty1 u1) := (hB.cell (p := ⟨b, off + 1, none⟩) hb).trans q1
  have i0 := ridx0
  have i1 := ridx1
  have i2 := ridx2
  have i3 := ridx3
  go_wp2_with fail
  refine (iRows _).mono ?_
  rintro ev w1 ⟨rfl, hb1⟩
  clear k0 k1 k2 hlt p0 p1 hbn hbw
  replace K := K.later hb1
  replace hB := old_trans hB hb1
  clear hb1
  have k0 := K.cell 0 _ rfl
  have k1 := K.cell 1 _ rfl
  have k2 := K.cell 2 _ rfl
  have hlt := K.lt
  have hbw : b < w1.heap.size := Nat.lt_of_lt_of_le hb hB.size
  have hbn : b ≠ w1.heap.size := by omega
  have p0 : w1.cell? ⟨b, off, none⟩ = some (.iface ty0 u0) := (hB.cell (p := ⟨b, off, none⟩) hb).trans q0
  have p1 : w1.cell? ⟨b, off + 1, none⟩ = some (.iface ty1 u1) := (hB.cell (p := ⟨b, off + 1, none⟩) hb).trans q1
  go_wp2
  refine wp_loop_rounds 2 ?_
  rw [rounds_succ]
  go_wp2
  clear k0 k1 k2 hlt p0 p1 hbn hbw
  have K' := K.alloc (.cells #[.int .i64 4, .string ⟨#[43]⟩, .int .i64 0] 74)
  have hB' := old_alloc hB (.cells #[.int .i64 4, .string ⟨#[43]⟩, .int .i64 0] 74)
  clear K hB
  generalize w1.alloc (.cells #[.int .i64 4, .string ⟨#[43]⟩, .int .i64 0] 74) = w2 at *
  have K := K'
  have hB := hB'
  clear K' hB'
  have k0 := K.cell 0 _ rfl
  have k1 := K.cell 1 _ rfl
  have k2 := K.cell 2 _ rfl
  have hlt := K.lt
  have hbw : b < w2.heap.size := Nat.lt_of_lt_of_le hb hB.size
  have hbn : b ≠ w2.heap.size := by omega
  have p0 : w2.cell? ⟨b, off, none⟩ = some (.iface ty0 u0) := (hB.cell (p := ⟨b, off, none⟩) hb).trans q0
  have p1 : w2.cell? ⟨b, off + 1, none⟩ = some (.iface ty1 u1) := (hB.cell (p := ⟨b, off + 1, none⟩) hb).trans q1
  rw [rounds_succ]
  go_wp2_with fail
  go_region
  all_goals
    go_wp2
    go_ret
    exact ⟨rfl, (by repeat (first | exact hB | exact Below.refl _ _ | refine Below.drew ?_ | refine old_alloc ?_ _ | refine old_trans ?_ (by assumption)))⟩
set_option maxRecDepth 100000 in
set_option maxHeartbeats 4000000 in
theorem iTree_6 (n : Int) (s : ByteArray) (w : World) (b off cap : Nat) (ty0 : TypeId) (u0 : Value) (ty1 : TypeId) (u1 : Value) (hb : b < w.heap.size) (q0 : w.cell? ⟨b, off, none⟩ = some (.iface ty0 u0)) (q1 : w.cell? ⟨b, off + 1, none⟩ = some (.iface ty1 u1)) (hcap : 2 ≤ cap) :
    Calls Tryd.prog 24 #[.agg #[.int .i64 6, .int .i64 n, .string s], .slice (some ⟨b, off, none⟩) 2 cap] w fun e w' => e = .returned (.iface 78 (.agg #[.int .i64 6, .string ⟨#[42]⟩, .int .i64 1, .iface ty0 u0, .iface ty1 u1])) ∧ Below w.heap.size w w' := by
  have K := CS.made w _ rfl #[.int .i64 6, .int .i64 n, .string s] 48
  have hB : Below w.heap.size w (w.alloc (.cells #[.int .i64 6, .int .i64 n, .string s] 48)) := old_alloc (Below.refl _ _) _
  go_enter Tryd.func24, Tryd.ntmps24
  generalize hw0 : w.alloc (.cells #[.int .i64 6, .int .i64 n, .string s] 48) = w0 at *
  have k0 := K.cell 0 _ rfl
  have k1 := K.cell 1 _ rfl
  have k2 := K.cell 2 _ rfl
  have hlt := K.lt
  have hbw : b < w0.heap.size := Nat.lt_of_lt_of_le hb hB.size
  have hbn : b ≠ w0.heap.size := by omega
  have p0 : w0.cell? ⟨b, off, none⟩ = some (.iface ty0 u0) := (hB.cell (p := ⟨b, off, none⟩) hb).trans q0
  have p1 : w0.cell? ⟨b, off + 1, none⟩ = some (.iface ty1 u1) := (hB.cell (p := ⟨b, off + 1, none⟩) hb).trans q1
  have i0 := ridx0
  have i1 := ridx1
  have i2 := ridx2
  have i3 := ridx3
  go_wp2_with fail
  refine (iRows _).mono ?_
  rintro ev w1 ⟨rfl, hb1⟩
  clear k0 k1 k2 hlt p0 p1 hbn hbw
  replace K := K.later hb1
  replace hB := old_trans hB hb1
  clear hb1
  have k0 := K.cell 0 _ rfl
  have k1 := K.cell 1 _ rfl
  have k2 := K.cell 2 _ rfl
  have hlt := K.lt
  have hbw : b < w1.heap.size := Nat.lt_of_lt_of_le hb hB.size
  have hbn : b ≠ w1.heap.size := by omega
  have p0 : w1.cell? ⟨b, off, none⟩ = some (.iface ty0 u0) := (hB.cell (p := ⟨b, off, none⟩) hb).trans q0
  have p1 : w1.cell? ⟨b, off + 1, none⟩ = some (.iface ty1 u1) := (hB.cell (p := ⟨b, off + 1, none⟩) hb).trans q1
  go_wp2
  refine wp_loop_rounds 3 ?_
  rw [rounds_succ]
  go_wp2
  clear k0 k1 k2 hlt p0 p1 hbn hbw
  have K' := K.alloc (.cells #[.int .i64 4, .string ⟨#[43]⟩, .int .i64 0] 74)
  have hB' := old_alloc hB (.cells #[.int .i64 4, .string ⟨#[43]⟩, .int .i64 0] 74)
  clear K hB
  generalize w1.alloc (.cells #[.int .i64 4, .string ⟨#[43]⟩, .int .i64 0] 74) = w2 at *
  have K := K'
  have hB := hB'
  clear K' hB'
  have k0 := K.cell 0 _ rfl
  have k1 := K.cell 1 _ rfl
  have k2 := K.cell 2 _ rfl
  have hlt := K.lt
  have hbw : b < w2.heap.size := Nat.lt_of_lt_of_le hb hB.size
  have hbn : b ≠ w2.heap.size := by omega
  have p0 : w2.cell? ⟨b, off, none⟩ = some (.iface ty0 u0) := (hB.cell (p := ⟨b, off, none⟩) hb).trans q0
  have p1 : w2.cell? ⟨b, off + 1, none⟩ = some (.iface ty1 u1) := (hB.cell (p := ⟨b, off + 1, none⟩) hb).trans q1
  rw [rounds_succ]
  go_wp2
  clear k0 k1 k2 hlt p0 p1 hbn hbw
  have K' := K.alloc (.cells #[.int .i64 5, .string ⟨#[45]⟩, .int .i64 0] 74)
  have hB' := old_alloc hB (.cells #[.int .i64 5, .string ⟨#[45]⟩, .int .i64 0] 74)
  clear K hB
  generalize w2.alloc (.cells #[.int .i64 5, .string ⟨#[45]⟩, .int .i64 0] 74) = w3 at *
  have K := K'
  have hB := hB'
  clear K' hB'
  have k0 := K.cell 0 _ rfl
  have k1 := K.cell 1 _ rfl
  have k2 := K.cell 2 _ rfl
  have hlt := K.lt
  have hbw : b < w3.heap.size := Nat.lt_of_lt_of_le hb hB.size
  have hbn : b ≠ w3.heap.size := by omega
  have p0 : w3.cell? ⟨b, off, none⟩ = some (.iface ty0 u0) := (hB.cell (p := ⟨b, off, none⟩) hb).trans q0
  have p1 : w3.cell? ⟨b, off + 1, none⟩ = some (.iface ty1 u1) := (hB.cell (p := ⟨b, off + 1, none⟩) hb).trans q1
  rw [rounds_succ]
  go_wp2_with fail
  go_region
  all_goals
    go_wp2
    go_ret
    exact ⟨rfl, (by repeat (first | exact hB | exact Below.refl _ _ | refine Below.drew ?_ | refine old_alloc ?_ _ | refine old_trans ?_ (by assumption)))⟩
set_option maxRecDepth 100000 in
set_option maxHeartbeats 4000000 in
theorem iTree_7 (n : Int) (s : ByteArray) (w : World) (b off cap : Nat) (ty0 : TypeId) (u0 : Value) (ty1 : TypeId) (u1 : Value) (hb : b < w.heap.size) (q0 : w.cell? ⟨b, off, none⟩ = some (.iface ty0 u0)) (q1 : w.cell? ⟨b, off + 1, none⟩ = some (.iface ty1 u1)) (hcap : 2 ≤ cap) :
    Calls Tryd.prog 24 #[.agg #[.int .i64 7, .int .i64 n, .string s], .slice (some ⟨b, off, none⟩) 2 cap] w fun e w' => e = .returned (.iface 78 (.agg #[.int .i64 7, .string ⟨#[47]⟩, .int .i64 1, .iface ty0 u0, .iface ty1 u1])) ∧ Below w.heap.size w w' := by
  have K := CS.made w _ rfl #[.int .i64 7, .int .i64 n, .string s] 48
  have hB : Below w.heap.size w (w.alloc (.cells #[.int .i64 7, .int .i64 n, .string s] 48)) := old_alloc (Below.refl _ _) _
  go_enter Tryd.func24, Tryd.ntmps24
  generalize hw0 : w.alloc (.cells #[.int .i64 7, .int .i64 n, .string s] 48) = w0 at *
  have k0 := K.cell 0 _ rfl
  have k1 := K.cell 1 _ rfl
  have k2 := K.cell 2 _ rfl
  have hlt := K.lt
  have hbw : b < w0.heap.size := Nat.lt_of_lt_of_le hb hB.size
  have hbn : b ≠ w0.heap.size := by omega
  have p0 : w0.cell? ⟨b, off, none⟩ = some (.iface ty0 u0) := (hB.cell (p := ⟨b, off, none⟩) hb).trans q0
  have p1 : w0.cell? ⟨b, off + 1, none⟩ = some (.iface ty1 u1) := (hB.cell (p := ⟨b, off + 1, none⟩) hb).trans q1
  have i0 := ridx0
  have i1 := ridx1
  have i2 := ridx2
  have i3 := ridx3
  go_wp2_with fail
  refine (iRows _).mono ?_
  rintro ev w1 ⟨rfl, hb1⟩
  clear k0 k1 k2 hlt p0 p1 hbn hbw
  replace K := K.later hb1
  replace hB := old_trans hB hb1
  clear hb1
  have k0 := K.cell 0 _ rfl
  have k1 := K.cell 1 _ rfl
  have k2 := K.cell 2 _ rfl
  have hlt := K.lt
  have hbw : b < w1.heap.size := Nat.lt_of_lt_of_le hb hB.size
  have hbn : b ≠ w1.heap.size := by omega
  have p0 : w1.cell? ⟨b, off, none⟩ = some (.iface ty0 u0) := (hB.cell (p := ⟨b, off, none⟩) hb).trans q0
  have p1 : w1.cell? ⟨b, off + 1, none⟩ = some (.iface ty1 u1) := (hB.cell (p := ⟨b, off + 1, none⟩) hb).trans q1
  go_wp2
  refine wp_loop_rounds 4 ?_
  rw [rounds_succ]
  go_wp2
  clear k0 k1 k2 hlt p0 p1 hbn hbw
  have K' := K.alloc (.cells #[.int .i64 4, .string ⟨#[43]⟩, .int .i64 0] 74)
  have hB' := old_alloc hB (.cells #[.int .i64 4, .string ⟨#[43]⟩, .int .i64 0] 74)
  clear K hB
  generalize w1.alloc (.cells #[.int .i64 4, .string ⟨#[43]⟩, .int .i64 0] 74) = w2 at *
  have K := K'
  have hB := hB'
  clear K' hB'
  have k0 := K.cell 0 _ rfl
  have k1 := K.cell 1 _ rfl
  have k2 := K.cell 2 _ rfl
  have hlt := K.lt
  have hbw : b < w2.heap.size := Nat.lt_of_lt_of_le hb hB.size
  have hbn : b ≠ w2.heap.size := by omega
  have p0 : w2.cell? ⟨b, off, none⟩ = some (.iface ty0 u0) := (hB.cell (p := ⟨b, off, none⟩) hb).trans q0
  have p1 : w2.cell? ⟨b, off + 1, none⟩ = some (.iface ty1 u1) := (hB.cell (p := ⟨b, off + 1, none⟩) hb).trans q1
  rw [rounds_succ]
  go_wp2
  clear k0 k1 k2 hlt p0 p1 hbn hbw
  have K' := K.alloc (.cells #[.int .i64 5, .string ⟨#[45]⟩, .int .i64 0] 74)
  have hB' := old_alloc hB (.cells #[.int .i64 5, .string ⟨#[45]⟩, .int .i64 0] 74)
  clear K hB
  generalize w2.alloc (.cells #[.int .i64 5, .string ⟨#[45]⟩, .int .i64 0] 74) = w3 at *
  have K := K'
  have hB := hB'
  clear K' hB'
  have k0 := K.cell 0 _ rfl
  have k1 := K.cell 1 _ rfl
  have k2 := K.cell 2 _ rfl
  have hlt := K.lt
  have hbw : b < w3.heap.size := Nat.lt_of_lt_of_le hb hB.size
  have hbn : b ≠ w3.heap.size := by omega
  have p0 : w3.cell? ⟨b, off, none⟩ = some (.iface ty0 u0) := (hB.cell (p := ⟨b, off, none⟩) hb).trans q0
  have p1 : w3.cell? ⟨b, off + 1, none⟩ = some (.iface ty1 u1) := (hB.cell (p := ⟨b, off + 1, none⟩) hb).trans q1
  rw [rounds_succ]
  go_wp2
  clear k0 k1 k2 hlt p0 p1 hbn hbw
  have K' := K.alloc (.cells #[.int .i64 6, .string ⟨#[42]⟩, .int .i64 1] 74)
  have hB' := old_alloc hB (.cells #[.int .i64 6, .string ⟨#[42]⟩, .int .i64 1] 74)
  clear K hB
  generalize w3.alloc (.cells #[.int .i64 6, .string ⟨#[42]⟩, .int .i64 1] 74) = w4 at *
  have K := K'
  have hB := hB'
  clear K' hB'
  have k0 := K.cell 0 _ rfl
  have k1 := K.cell 1 _ rfl
  have k2 := K.cell 2 _ rfl
  have hlt := K.lt
  have hbw : b < w4.heap.size := Nat.lt_of_lt_of_le hb hB.size
  have hbn : b ≠ w4.heap.size := by omega
  have p0 : w4.cell? ⟨b, off, none⟩ = some (.iface ty0 u0) := (hB.cell (p := ⟨b, off, none⟩) hb).trans q0
  have p1 : w4.cell? ⟨b, off + 1, none⟩ = some (.iface ty1 u1) := (hB.cell (p := ⟨b, off + 1, none⟩) hb).trans q1
  rw [rounds_succ]
  go_wp2_with fail
  go_region
  all_goals
    go_wp2
    go_ret
    exact ⟨rfl, (by repeat (first | exact hB | exact Below.refl _ _ | refine Below.drew ?_ | refine old_alloc ?_ _ | refine old_trans ?_ (by assumption)))⟩
set_option maxRecDepth 100000 in
set_option maxHeartbeats 4000000 in
theorem iTree_8 (n : Int) (s : ByteArray) (w : World) (b off cap : Nat) (ty0 : TypeId) (u0 : Value) (hb : b < w.heap.size) (q0 : w.cell? ⟨b, off, none⟩ = some (.iface ty0 u0)) (hcap : 1 ≤ cap) :
    Calls Tryd.prog 24 #[.agg #[.int .i64 8, .int .i64 n, .string s], .slice (some ⟨b, off, none⟩) 1 cap] w fun e w' => e = .returned (.iface 67 (.agg #[.iface ty0 u0, .int .i64 n])) ∧ Below w.heap.size w w' := by
  have K := CS.made w _ rfl #[.int .i64 8, .int .i64 n, .string s] 48
  have hB : Below w.heap.size w (w.alloc (.cells #[.int .i64 8, .int .i64 n, .string s] 48)) := old_alloc (Below.refl _ _) _
  go_enter Tryd.func24, Tryd.ntmps24
  generalize hw0 : w.alloc (.cells #[.int .i64 8, .int .i64 n, .string s] 48) = w0 at *
  have k0 := K.cell 0 _ rfl
  have k1 := K.cell 1 _ rfl
  have k2 := K.cell 2 _ rfl
  have hlt := K.lt
  have hbw : b < w0.heap.size := Nat.lt_of_lt_of_le hb hB.size
  have hbn : b ≠ w0.heap.size := by omega
  have p0 : w0.cell? ⟨b, off, none⟩ = some (.iface ty0 u0) := (hB.cell (p := ⟨b, off, none⟩) hb).trans q0
  go_wp2_with fail
  go_region
  all_goals
    go_wp2
    go_ret
    exact ⟨rfl, (by repeat (first | exact hB | exact Below.refl _ _ | refine Below.drew ?_ | refine old_alloc ?_ _ | refine old_trans ?_ (by assumption)))⟩
set_option maxRecDepth 100000 in
set_option maxHeartbeats 4000000 in
theorem iTree_9 (n : Int) (s : ByteArray) (w : World) (b off m cap : Nat) (vs : Nat → Value) (hm : 0 < m) (hm6 : m ≤ 6) (hcap : m ≤ cap) (hb : b < w.heap.size) (hc : ∀ i, i < m → w.cell? ⟨b, off + i, none⟩ = some (vs i)) (h1 : ∀ i, i < m → ∃ (ty : TypeId) (u : Value), vs i = .iface ty u) :
    Calls Tryd.prog 24 #[.agg #[.int .i64 9, .int .i64 n, .string s], .slice (some ⟨b, off, none⟩) m cap] w fun e w' => (∃ g c, e = .returned (.iface 84 (.agg #[.string ⟨#[115, 113, 114, 116]⟩, .slice (some ⟨g, 0, none⟩) m c, .int .i64 9])) ∧ w.heap.size ≤ g ∧ g < w'.heap.size ∧ m ≤ c ∧ c ≤ maxLen ∧ ∀ i, i < m → w'.cell? ⟨g, 0 + i, none⟩ = some (vs i)) ∧ Below w.heap.size w w' := by
  have CLN := hd (fun w' (h : Below w.heap.size w w') => iCloneT b off m cap vs w' hm hm6 (fun i hi => (h.cell (p := ⟨b, off + i, none⟩) hb).trans (hc i hi)) h1)
  clear hc h1
  have K := CS.made w _ rfl #[.int .i64 9, .int .i64 n, .string s] 48
  have hB : Below w.heap.size w (w.alloc (.cells #[.int .i64 9, .int .i64 n, .string s] 48)) := old_alloc (Below.refl _ _) _
  go_enter Tryd.func24, Tryd.ntmps24
  generalize hw0 : w.alloc (.cells #[.int .i64 9, .int .i64 n, .string s] 48) = w0 at *
  have k0 := K.cell 0 _ rfl
  have k1 := K.cell 1 _ rfl
  have k2 := K.cell 2 _ rfl
  have hlt := K.lt
  have i0 := ridx0
  have i1 := ridx1
  have i2 := ridx2
  have i3 := ridx3
  go_wp2_with fail
  refine (iRows _).mono ?_
  rintro ev w1 ⟨rfl, hb1⟩
  clear k0 k1 k2 hlt
  replace K := K.later hb1
  replace hB := old_trans hB hb1
  clear hb1
  have k0 := K.cell 0 _ rfl
  have k1 := K.cell 1 _ rfl
  have k2 := K.cell 2 _ rfl
  have hlt := K.lt
  go_wp2
  refine wp_loop_rounds 5 ?_
  rw [rounds_succ]
  go_wp2
  clear k0 k1 k2 hlt
  have K' := K.alloc (.cells #[.int .i64 4, .string ⟨#[43]⟩, .int .i64 0] 74)
  have hB' := old_alloc hB (.cells #[.int .i64 4, .string ⟨#[43]⟩, .int .i64 0] 74)
  clear K hB
  generalize w1.alloc (.cells #[.int .i64 4, .string ⟨#[43]⟩, .int .i64 0] 74) = w2 at *
  have K := K'
  have hB := hB'
  clear K' hB'
  have k0 := K.cell 0 _ rfl
  have k1 := K.cell 1 _ rfl
  have k2 := K.cell 2 _ rfl
  have hlt := K.lt
  rw [rounds_succ]
  go_wp2
  clear k0 k1 k2 hlt
  have K' := K.alloc (.cells #[.int .i64 5, .string ⟨#[45]⟩, .int .i64 0] 74)
  have hB' := old_alloc hB (.cells #[.int .i64 5, .string ⟨#[45]⟩, .int .i64 0] 74)
  clear K hB
  generalize w2.alloc (.cells #[.int .i64 5, .string ⟨#[45]⟩, .int .i64 0] 74) = w3 at *
  have K := K'
  have hB := hB'
  clear K' hB'
  have k0 := K.cell 0 _ rfl
  have k1 := K.cell 1 _ rfl
  have k2 := K.cell 2 _ rfl
  have hlt := K.lt
  rw [rounds_succ]
  go_wp2
  clear k0 k1 k2 hlt
  have K' := K.alloc (.cells #[.int .i64 6, .string ⟨#[42]⟩, .int .i64 1] 74)
  have hB' := old_alloc hB (.cells #[.int .i64 6, .string ⟨#[42]⟩, .int .i64 1] 74)
  clear K hB
  generalize w3.alloc (.cells #[.int .i64 6, .string ⟨#[42]⟩, .int .i64 1] 74) = w4 at *
  have K := K'
  have hB := hB'
  clear K' hB'
  have k0 := K.cell 0 _ rfl
  have k1 := K.cell 1 _ rfl
  have k2 := K.cell 2 _ rfl
  have hlt := K.lt
  rw [rounds_succ]
  go_wp2
  clear k0 k1 k2 hlt
  have K' := K.alloc (.cells #[.int .i64 7, .string ⟨#[47]⟩, .int .i64 1] 74)
  have hB' := old_alloc hB (.cells #[.int .i64 7, .string ⟨#[47]⟩, .int .i64 1] 74)
  clear K hB
  generalize w4.alloc (.cells #[.int .i64 7, .string ⟨#[47]⟩, .int .i64 1] 74) = w5 at *
  have K := K'
  have hB := hB'
  clear K' hB'
  have k0 := K.cell 0 _ rfl
  have k1 := K.cell 1 _ rfl
  have k2 := K.cell 2 _ rfl
  have hlt := K.lt
  rw [rounds_succ]
  clear i0 i1 i2 i3
  have i0 := oidx0
  have i1 := oidx1
  have i2 := oidx2
  have i3 := oidx3
  have i4 := oidx4
  have i5 := oidx5
  go_wp2_with fail
  refine (iOwnWords _).mono ?_
  rintro ev w6 ⟨rfl, hb1⟩
  clear k0 k1 k2 hlt
  replace K := K.later hb1
  replace hB := old_trans hB hb1
  clear hb1
  have k0 := K.cell 0 _ rfl
  have k1 := K.cell 1 _ rfl
  have k2 := K.cell 2 _ rfl
  have hlt := K.lt
  go_wp2
  refine wp_loop_rounds 3 ?_
  rw [rounds_succ]
  go_wp2
  clear k0 k1 k2 hlt
  have K' := K.alloc (.cells #[.string ⟨#[100, 101, 102]⟩, .int .i64 0] 80)
  have hB' := old_alloc hB (.cells #[.string ⟨#[100, 101, 102]⟩, .int .i64 0] 80)
  clear K hB
  generalize w6.alloc (.cells #[.string ⟨#[100, 101, 102]⟩, .int .i64 0] 80) = w7 at *
  have K := K'
  have hB := hB'
  clear K' hB'
  have k0 := K.cell 0 _ rfl
  have k1 := K.cell 1 _ rfl
  have k2 := K.cell 2 _ rfl
  have hlt := K.lt
  rw [rounds_succ]
  go_wp2
  clear k0 k1 k2 hlt
  have K' := K.alloc (.cells #[.string ⟨#[118, 97, 114]⟩, .int .i64 0] 80)
  have hB' := old_alloc hB (.cells #[.string ⟨#[118, 97, 114]⟩, .int .i64 0] 80)
  clear K hB
  generalize w7.alloc (.cells #[.string ⟨#[118, 97, 114]⟩, .int .i64 0] 80) = w8 at *
  have K := K'
  have hB := hB'
  clear K' hB'
  have k0 := K.cell 0 _ rfl
  have k1 := K.cell 1 _ rfl
  have k2 := K.cell 2 _ rfl
  have hlt := K.lt
  have L := CS.made w8 _ rfl #[.string ⟨#[115, 113, 114, 116]⟩, .int .i64 9] 80
  rw [rounds_succ]
  go_wp2_with fail
  go_region_with (go_at_call 32; refine (CLN.out _ (by repeat (first | exact hB | exact Below.refl _ _ | refine Below.drew ?_ | refine old_alloc ?_ _ | refine old_trans ?_ (by assumption)))).mono ?_; rintro ev wc ⟨⟨g, c, rfl, g1, g2, g3, g4, g5⟩, hbc⟩; have K := (by with_reducible first | exact K.later hbc | exact K.drew.later hbc | exact (K.alloc _).later hbc | exact (K.alloc _).drew.later hbc : CS wc _ _); have k0 := K.cell 0 _ rfl; have k1 := K.cell 1 _ rfl; have k2 := K.cell 2 _ rfl; have hlt := K.lt; have L := (by with_reducible first | exact L.later hbc | exact L.drew.later hbc : CS wc _ _); have l0 := L.cell 0 _ rfl; have l1 := L.cell 1 _ rfl; have llt := L.lt)
  all_goals
    go_wp2
    go_ret
    exact ⟨⟨g, c, rfl, by have h1 := hB.size; have h2 := g1; simp at h2; omega, by assumption, g3, g4, g5⟩, (by repeat (first | exact hB | exact Below.refl _ _ | refine Below.drew ?_ | refine old_alloc ?_ _ | refine old_trans ?_ (by assumption)))⟩
set_option maxRecDepth 100000 in
set_option maxHeartbeats 4000000 in
theorem iTree_10 (n : Int) (s : ByteArray) (w : World) (b off m cap : Nat) (vs : Nat → Value) (hm : 0 < m) (hm6 : m ≤ 6) (hcap : m ≤ cap) (hb : b < w.heap.size) (hc : ∀ i, i < m → w.cell? ⟨b, off + i, none⟩ = some (vs i)) (h1 : ∀ i, i < m → ∃ (ty : TypeId) (u : Value), vs i = .iface ty u) :
    Calls Tryd.prog 24 #[.agg #[.int .i64 10, .int .i64 n, .string s], .slice (some ⟨b, off, none⟩) m cap] w fun e w' => (∃ g c, e = .returned (.iface 84 (.agg #[.string ⟨#[97, 98, 115]⟩, .slice (some ⟨g, 0, none⟩) m c, .int .i64 10])) ∧ w.heap.size ≤ g ∧ g < w'.heap.size ∧ m ≤ c ∧ c ≤ maxLen ∧ ∀ i, i < m → w'.cell? ⟨g, 0 + i, none⟩ = some (vs i)) ∧ Below w.heap.size w w' := by
  have CLN := hd (fun w' (h : Below w.heap.size w w') => iCloneT b off m cap vs w' hm hm6 (fun i hi => (h.cell (p := ⟨b, off + i, none⟩) hb).trans (hc i hi)) h1)
  clear hc h1
  have K := CS.made w _ rfl #[.int .i64 10, .int .i64 n, .string s] 48
  have hB : Below w.heap.size w (w.alloc (.cells #[.int .i64 10, .int .i64 n, .string s] 48)) := old_alloc (Below.refl _ _) _
  go_enter Tryd.func24, Tryd.ntmps24
  generalize hw0 : w.alloc (.cells #[.int .i64 10, .int .i64 n, .string s] 48) = w0 at *
  have k0 := K.cell 0 _ rfl
  have k1 := K.cell 1 _ rfl
  have k2 := K.cell 2 _ rfl
  have hlt := K.lt
  have i0 := ridx0
  have i1 := ridx1
  have i2 := ridx2
  have i3 := ridx3
  go_wp2_with fail
  refine (iRows _).mono ?_
  rintro ev w1 ⟨rfl, hb1⟩
  clear k0 k1 k2 hlt
  replace K := K.later hb1
  replace hB := old_trans hB hb1
  clear hb1
  have k0 := K.cell 0 _ rfl
  have k1 := K.cell 1 _ rfl
  have k2 := K.cell 2 _ rfl
  have hlt := K.lt
  go_wp2
  refine wp_loop_rounds 5 ?_
  rw [rounds_succ]
  go_wp2
  clear k0 k1 k2 hlt
  have K' := K.alloc (.cells #[.int .i64 4, .string ⟨#[43]⟩, .int .i64 0] 74)
  have hB' := old_alloc hB (.cells #[.int .i64 4, .string ⟨#[43]⟩, .int .i64 0] 74)
  clear K hB
  generalize w1.alloc (.cells #[.int .i64 4, .string ⟨#[43]⟩, .int .i64 0] 74) = w2 at *
  have K := K'
  have hB := hB'
  clear K' hB'
  have k0 := K.cell 0 _ rfl
  have k1 := K.cell 1 _ rfl
  have k2 := K.cell 2 _ rfl
  have hlt := K.lt
  rw [rounds_succ]
  go_wp2
  clear k0 k1 k2 hlt
  have K' := K.alloc (.cells #[.int .i64 5, .string ⟨#[45]⟩, .int .i64 0] 74)
  have hB' := old_alloc hB (.cells #[.int .i64 5, .string ⟨#[45]⟩, .int .i64 0] 74)
  clear K hB
  generalize w2.alloc (.cells #[.int .i64 5, .string ⟨#[45]⟩, .int .i64 0] 74) = w3 at *
  have K := K'
  have hB := hB'
  clear K' hB'
  have k0 := K.cell 0 _ rfl
  have k1 := K.cell 1 _ rfl
  have k2 := K.cell 2 _ rfl
  have hlt := K.lt
  rw [rounds_succ]
  go_wp2
  clear k0 k1 k2 hlt
  have K' := K.alloc (.cells #[.int .i64 6, .string ⟨#[42]⟩, .int .i64 1] 74)
  have hB' := old_alloc hB (.cells #[.int .i64 6, .string ⟨#[42]⟩, .int .i64 1] 74)
  clear K hB
  generalize w3.alloc (.cells #[.int .i64 6, .string ⟨#[42]⟩, .int .i64 1] 74) = w4 at *
  have K := K'
  have hB := hB'
  clear K' hB'
  have k0 := K.cell 0 _ rfl
  have k1 := K.cell 1 _ rfl
  have k2 := K.cell 2 _ rfl
  have hlt := K.lt
  rw [rounds_succ]
  go_wp2
  clear k0 k1 k2 hlt
  have K' := K.alloc (.cells #[.int .i64 7, .string ⟨#[47]⟩, .int .i64 1] 74)
  have hB' := old_alloc hB (.cells #[.int .i64 7, .string ⟨#[47]⟩, .int .i64 1] 74)
  clear K hB
  generalize w4.alloc (.cells #[.int .i64 7, .string ⟨#[47]⟩, .int .i64 1] 74) = w5 at *
  have K := K'
  have hB := hB'
  clear K' hB'
  have k0 := K.cell 0 _ rfl
  have k1 := K.cell 1 _ rfl
  have k2 := K.cell 2 _ rfl
  have hlt := K.lt
  rw [rounds_succ]
  clear i0 i1 i2 i3
  have i0 := oidx0
  have i1 := oidx1
  have i2 := oidx2
  have i3 := oidx3
  have i4 := oidx4
  have i5 := oidx5
  go_wp2_with fail
  refine (iOwnWords _).mono ?_
  rintro ev w6 ⟨rfl, hb1⟩
  clear k0 k1 k2 hlt
  replace K := K.later hb1
  replace hB := old_trans hB hb1
  clear hb1
  have k0 := K.cell 0 _ rfl
  have k1 := K.cell 1 _ rfl
  have k2 := K.cell 2 _ rfl
  have hlt := K.lt
  go_wp2
  refine wp_loop_rounds 4 ?_
  rw [rounds_succ]
  go_wp2
  clear k0 k1 k2 hlt
  have K' := K.alloc (.cells #[.string ⟨#[100, 101, 102]⟩, .int .i64 0] 80)
  have hB' := old_alloc hB (.cells #[.string ⟨#[100, 101, 102]⟩, .int .i64 0] 80)
  clear K hB
  generalize w6.alloc (.cells #[.string ⟨#[100, 101, 102]⟩, .int .i64 0] 80) = w7 at *
  have K := K'
  have hB := hB'
  clear K' hB'
  have k0 := K.cell 0 _ rfl
  have k1 := K.cell 1 _ rfl
  have k2 := K.cell 2 _ rfl
  have hlt := K.lt
  rw [rounds_succ]
  go_wp2
  clear k0 k1 k2 hlt
  have K' := K.alloc (.cells #[.string ⟨#[118, 97, 114]⟩, .int .i64 0] 80)
  have hB' := old_alloc hB (.cells #[.string ⟨#[118, 97, 114]⟩, .int .i64 0] 80)
  clear K hB
  generalize w7.alloc (.cells #[.string ⟨#[118, 97, 114]⟩, .int .i64 0] 80) = w8 at *
  have K := K'
  have hB := hB'
  clear K' hB'
  have k0 := K.cell 0 _ rfl
  have k1 := K.cell 1 _ rfl
  have k2 := K.cell 2 _ rfl
  have hlt := K.lt
  rw [rounds_succ]
  go_wp2
  clear k0 k1 k2 hlt
  have K' := K.alloc (.cells #[.string ⟨#[115, 113, 114, 116]⟩, .int .i64 9] 80)
  have hB' := old_alloc hB (.cells #[.string ⟨#[115, 113, 114, 116]⟩, .int .i64 9] 80)
  clear K hB
  generalize w8.alloc (.cells #[.string ⟨#[115, 113, 114, 116]⟩, .int .i64 9] 80) = w9 at *
  have K := K'
  have hB := hB'
  clear K' hB'
  have k0 := K.cell 0 _ rfl
  have k1 := K.cell 1 _ rfl
  have k2 := K.cell 2 _ rfl
  have hlt := K.lt
  have L := CS.made w9 _ rfl #[.string ⟨#[97, 98, 115]⟩, .int .i64 10] 80
  rw [rounds_succ]
  go_wp2_with fail
  go_region_with (go_at_call 32; refine (CLN.out _ (by repeat (first | exact hB | exact Below.refl _ _ | refine Below.drew ?_ | refine old_alloc ?_ _ | refine old_trans ?_ (by assumption)))).mono ?_; rintro ev wc ⟨⟨g, c, rfl, g1, g2, g3, g4, g5⟩, hbc⟩; have K := (by with_reducible first | exact K.later hbc | exact K.drew.later hbc | exact (K.alloc _).later hbc | exact (K.alloc _).drew.later hbc : CS wc _ _); have k0 := K.cell 0 _ rfl; have k1 := K.cell 1 _ rfl; have k2 := K.cell 2 _ rfl; have hlt := K.lt; have L := (by with_reducible first | exact L.later hbc | exact L.drew.later hbc : CS wc _ _); have l0 := L.cell 0 _ rfl; have l1 := L.cell 1 _ rfl; have llt := L.lt)
  all_goals
    go_wp2
    go_ret
    exact ⟨⟨g, c, rfl, by have h1 := hB.size; have h2 := g1; simp at h2; omega, by assumption, g3, g4, g5⟩, (by repeat (first | exact hB | exact Below.refl _ _ | refine Below.drew ?_ | refine old_alloc ?_ _ | refine old_trans ?_ (by assumption)))⟩
set_option maxRecDepth 100000 in
set_option maxHeartbeats 4000000 in
theorem iTree_11 (n : Int) (s : ByteArray) (w : World) (b off m cap : Nat) (vs : Nat → Value) (hm : 0 < m) (hm6 : m ≤ 6) (hcap : m ≤ cap) (hb : b < w.heap.size) (hc : ∀ i, i < m → w.cell? ⟨b, off + i, none⟩ = some (vs i)) (h1 : ∀ i, i < m → ∃ (ty : TypeId) (u : Value), vs i = .iface ty u) :
    Calls Tryd.prog 24 #[.agg #[.int .i64 11, .int .i64 n, .string s], .slice (some ⟨b, off, none⟩) m cap] w fun e w' => (∃ g c, e = .returned (.iface 84 (.agg #[.string ⟨#[109, 105, 110]⟩, .slice (some ⟨g, 0, none⟩) m c, .int .i64 11])) ∧ w.heap.size ≤ g ∧ g < w'.heap.size ∧ m ≤ c ∧ c ≤ maxLen ∧ ∀ i, i < m → w'.cell? ⟨g, 0 + i, none⟩ = some (vs i)) ∧ Below w.heap.size w w' := by
  have CLN := hd (fun w' (h : Below w.heap.size w w') => iCloneT b off m cap vs w' hm hm6 (fun i hi => (h.cell (p := ⟨b, off + i, none⟩) hb).trans (hc i hi)) h1)
  clear hc h1
  have K := CS.made w _ rfl #[.int .i64 11, .int .i64 n, .string s] 48
  have hB : Below w.heap.size w (w.alloc (.cells #[.int .i64 11, .int .i64 n, .string s] 48)) := old_alloc (Below.refl _ _) _
  go_enter Tryd.func24, Tryd.ntmps24
  generalize hw0 : w.alloc (.cells #[.int .i64 11, .int .i64 n, .string s] 48) = w0 at *
  have k0 := K.cell 0 _ rfl
  have k1 := K.cell 1 _ rfl
  have k2 := K.cell 2 _ rfl
  have hlt := K.lt
  have i0 := ridx0
  have i1 := ridx1
  have i2 := ridx2
  have i3 := ridx3
  go_wp2_with fail
  refine (iRows _).mono ?_
  rintro ev w1 ⟨rfl, hb1⟩
  clear k0 k1 k2 hlt
  replace K := K.later hb1
  replace hB := old_trans hB hb1
  clear hb1
  have k0 := K.cell 0 _ rfl
  have k1 := K.cell 1 _ rfl
  have k2 := K.cell 2 _ rfl
  have hlt := K.lt
  go_wp2
  refine wp_loop_rounds 5 ?_
  rw [rounds_succ]
  go_wp2
  clear k0 k1 k2 hlt
  have K' := K.alloc (.cells #[.int .i64 4, .string ⟨#[43]⟩, .int .i64 0] 74)
  have hB' := old_alloc hB (.cells #[.int .i64 4, .string ⟨#[43]⟩, .int .i64 0] 74)
  clear K hB
  generalize w1.alloc (.cells #[.int .i64 4, .string ⟨#[43]⟩, .int .i64 0] 74) = w2 at *
  have K := K'
  have hB := hB'
  clear K' hB'
  have k0 := K.cell 0 _ rfl
  have k1 := K.cell 1 _ rfl
  have k2 := K.cell 2 _ rfl
  have hlt := K.lt
  rw [rounds_succ]
  go_wp2
  clear k0 k1 k2 hlt
  have K' := K.alloc (.cells #[.int .i64 5, .string ⟨#[45]⟩, .int .i64 0] 74)
  have hB' := old_alloc hB (.cells #[.int .i64 5, .string ⟨#[45]⟩, .int .i64 0] 74)
  clear K hB
  generalize w2.alloc (.cells #[.int .i64 5, .string ⟨#[45]⟩, .int .i64 0] 74) = w3 at *
  have K := K'
  have hB := hB'
  clear K' hB'
  have k0 := K.cell 0 _ rfl
  have k1 := K.cell 1 _ rfl
  have k2 := K.cell 2 _ rfl
  have hlt := K.lt
  rw [rounds_succ]
  go_wp2
  clear k0 k1 k2 hlt
  have K' := K.alloc (.cells #[.int .i64 6, .string ⟨#[42]⟩, .int .i64 1] 74)
  have hB' := old_alloc hB (.cells #[.int .i64 6, .string ⟨#[42]⟩, .int .i64 1] 74)
  clear K hB
  generalize w3.alloc (.cells #[.int .i64 6, .string ⟨#[42]⟩, .int .i64 1] 74) = w4 at *
  have K := K'
  have hB := hB'
  clear K' hB'
  have k0 := K.cell 0 _ rfl
  have k1 := K.cell 1 _ rfl
  have k2 := K.cell 2 _ rfl
  have hlt := K.lt
  rw [rounds_succ]
  go_wp2
  clear k0 k1 k2 hlt
  have K' := K.alloc (.cells #[.int .i64 7, .string ⟨#[47]⟩, .int .i64 1] 74)
  have hB' := old_alloc hB (.cells #[.int .i64 7, .string ⟨#[47]⟩, .int .i64 1] 74)
  clear K hB
  generalize w4.alloc (.cells #[.int .i64 7, .string ⟨#[47]⟩, .int .i64 1] 74) = w5 at *
  have K := K'
  have hB := hB'
  clear K' hB'
  have k0 := K.cell 0 _ rfl
  have k1 := K.cell 1 _ rfl
  have k2 := K.cell 2 _ rfl
  have hlt := K.lt
  rw [rounds_succ]
  clear i0 i1 i2 i3
  have i0 := oidx0
  have i1 := oidx1
  have i2 := oidx2
  have i3 := oidx3
  have i4 := oidx4
  have i5 := oidx5
  go_wp2_with fail
  refine (iOwnWords _).mono ?_
  rintro ev w6 ⟨rfl, hb1⟩
  clear k0 k1 k2 hlt
  replace K := K.later hb1
  replace hB := old_trans hB hb1
  clear hb1
  have k0 := K.cell 0 _ rfl
  have k1 := K.cell 1 _ rfl
  have k2 := K.cell 2 _ rfl
  have hlt := K.lt
  go_wp2
  refine wp_loop_rounds 5 ?_
  rw [rounds_succ]
  go_wp2
  clear k0 k1 k2 hlt
  have K' := K.alloc (.cells #[.string ⟨#[100, 101, 102]⟩, .int .i64 0] 80)
  have hB' := old_alloc hB (.cells #[.string ⟨#[100, 101, 102]⟩, .int .i64 0] 80)
  clear K hB
  generalize w6.alloc (.cells #[.string ⟨#[100, 101, 102]⟩, .int .i64 0] 80) = w7 at *
  have K := K'
  have hB := hB'
  clear K' hB'
  have k0 := K.cell 0 _ rfl
  have k1 := K.cell 1 _ rfl
  have k2 := K.cell 2 _ rfl
  have hlt := K.lt
  rw [rounds_succ]
  go_wp2
  clear k0 k1 k2 hlt
  have K' := K.alloc (.cells #[.string ⟨#[118, 97, 114]⟩, .int .i64 0] 80)
  have hB' := old_alloc hB (.cells #[.string ⟨#[118, 97, 114]⟩, .int .i64 0] 80)
  clear K hB
  generalize w7.alloc (.cells #[.string ⟨#[118, 97, 114]⟩, .int .i64 0] 80) = w8 at *
  have K := K'
  have hB := hB'
  clear K' hB'
  have k0 := K.cell 0 _ rfl
  have k1 := K.cell 1 _ rfl
  have k2 := K.cell 2 _ rfl
  have hlt := K.lt
  rw [rounds_succ]
  go_wp2
  clear k0 k1 k2 hlt
  have K' := K.alloc (.cells #[.string ⟨#[115, 113, 114, 116]⟩, .int .i64 9] 80)
  have hB' := old_alloc hB (.cells #[.string ⟨#[115, 113, 114, 116]⟩, .int .i64 9] 80)
  clear K hB
  generalize w8.alloc (.cells #[.string ⟨#[115, 113, 114, 116]⟩, .int .i64 9] 80) = w9 at *
  have K := K'
  have hB := hB'
  clear K' hB'
  have k0 := K.cell 0 _ rfl
  have k1 := K.cell 1 _ rfl
  have k2 := K.cell 2 _ rfl
  have hlt := K.lt
  rw [rounds_succ]
  go_wp2
  clear k0 k1 k2 hlt
  have K' := K.alloc (.cells #[.string ⟨#[97, 98, 115]⟩, .int .i64 10] 80)
  have hB' := old_alloc hB (.cells #[.string ⟨#[97, 98, 115]⟩, .int .i64 10] 80)
  clear K hB
  generalize w9.alloc (.cells #[.string ⟨#[97, 98, 115]⟩, .int .i64 10] 80) = w10 at *
  have K := K'
  have hB := hB'
  clear K' hB'
  have k0 := K.cell 0 _ rfl
  have k1 := K.cell 1 _ rfl
  have k2 := K.cell 2 _ rfl
  have hlt := K.lt
  have L := CS.made w10 _ rfl #[.string ⟨#[109, 105, 110]⟩, .int .i64 11] 80
  rw [rounds_succ]
  go_wp2_with fail
  go_region_with (go_at_call 32; refine (CLN.out _ (by repeat (first | exact hB | exact Below.refl _ _ | refine Below.drew ?_ | refine old_alloc ?_ _ | refine old_trans ?_ (by assumption)))).mono ?_; rintro ev wc ⟨⟨g, c, rfl, g1, g2, g3, g4, g5⟩, hbc⟩; have K := (by with_reducible first | exact K.later hbc | exact K.drew.later hbc | exact (K.alloc _).later hbc | exact (K.alloc _).drew.later hbc : CS wc _ _); have k0 := K.cell 0 _ rfl; have k1 := K.cell 1 _ rfl; have k2 := K.cell 2 _ rfl; have hlt := K.lt; have L := (by with_reducible first | exact L.later hbc | exact L.drew.later hbc : CS wc _ _); have l0 := L.cell 0 _ rfl; have l1 := L.cell 1 _ rfl; have llt := L.lt)
  all_goals
    go_wp2
    go_ret
    exact ⟨⟨g, c, rfl, by have h1 := hB.size; have h2 := g1; simp at h2; omega, by assumption, g3, g4, g5⟩, (by repeat (first | exact hB | exact Below.refl _ _ | refine Below.drew ?_ | refine old_alloc ?_ _ | refine old_trans ?_ (by assumption)))⟩
set_option maxRecDepth 100000 in
set_option maxHeartbeats 4000000 in
theorem iTree_12 (n : Int) (s : ByteArray) (w : World) (b off m cap : Nat) (vs : Nat → Value) (hm : 0 < m) (hm6 : m ≤ 6) (hcap : m ≤ cap) (hb : b < w.heap.size) (hc : ∀ i, i < m → w.cell? ⟨b, off + i, none⟩ = some (vs i)) (h1 : ∀ i, i < m → ∃ (ty : TypeId) (u : Value), vs i = .iface ty u) :
    Calls Tryd.prog 24 #[.agg #[.int .i64 12, .int .i64 n, .string s], .slice (some ⟨b, off, none⟩) m cap] w fun e w' => (∃ g c, e = .returned (.iface 84 (.agg #[.string ⟨#[109, 97, 120]⟩, .slice (some ⟨g, 0, none⟩) m c, .int .i64 12])) ∧ w.heap.size ≤ g ∧ g < w'.heap.size ∧ m ≤ c ∧ c ≤ maxLen ∧ ∀ i, i < m → w'.cell? ⟨g, 0 + i, none⟩ = some (vs i)) ∧ Below w.heap.size w w' := by
  have CLN := hd (fun w' (h : Below w.heap.size w w') => iCloneT b off m cap vs w' hm hm6 (fun i hi => (h.cell (p := ⟨b, off + i, none⟩) hb).trans (hc i hi)) h1)
  clear hc h1
  have K := CS.made w _ rfl #[.int .i64 12, .int .i64 n, .string s] 48
  have hB : Below w.heap.size w (w.alloc (.cells #[.int .i64 12, .int .i64 n, .string s] 48)) := old_alloc (Below.refl _ _) _
  go_enter Tryd.func24, Tryd.ntmps24
  generalize hw0 : w.alloc (.cells #[.int .i64 12, .int .i64 n, .string s] 48) = w0 at *
  have k0 := K.cell 0 _ rfl
  have k1 := K.cell 1 _ rfl
  have k2 := K.cell 2 _ rfl
  have hlt := K.lt
  have i0 := ridx0
  have i1 := ridx1
  have i2 := ridx2
  have i3 := ridx3
  go_wp2_with fail
  refine (iRows _).mono ?_
  rintro ev w1 ⟨rfl, hb1⟩
  clear k0 k1 k2 hlt
  replace K := K.later hb1
  replace hB := old_trans hB hb1
  clear hb1
  have k0 := K.cell 0 _ rfl
  have k1 := K.cell 1 _ rfl
  have k2 := K.cell 2 _ rfl
  have hlt := K.lt
  go_wp2
  refine wp_loop_rounds 5 ?_
  rw [rounds_succ]
  go_wp2
  clear k0 k1 k2 hlt
  have K' := K.alloc (.cells #[.int .i64 4, .string ⟨#[43]⟩, .int .i64 0] 74)
  have hB' := old_alloc hB (.cells #[.int .i64 4, .string ⟨#[43]⟩, .int .i64 0] 74)
  clear K hB
  generalize w1.alloc (.cells #[.int .i64 4, .string ⟨#[43]⟩, .int .i64 0] 74) = w2 at *
  have K := K'
  have hB := hB'
  clear K' hB'
  have k0 := K.cell 0 _ rfl
  have k1 := K.cell 1 _ rfl
  have k2 := K.cell 2 _ rfl
  have hlt := K.lt
  rw [rounds_succ]
  go_wp2
  clear k0 k1 k2 hlt
  have K' := K.alloc (.cells #[.int .i64 5, .string ⟨#[45]⟩, .int .i64 0] 74)
  have hB' := old_alloc hB (.cells #[.int .i64 5, .string ⟨#[45]⟩, .int .i64 0] 74)
  clear K hB
  generalize w2.alloc (.cells #[.int .i64 5, .string ⟨#[45]⟩, .int .i64 0] 74) = w3 at *
  have K := K'
  have hB := hB'
  clear K' hB'
  have k0 := K.cell 0 _ rfl
  have k1 := K.cell 1 _ rfl
  have k2 := K.cell 2 _ rfl
  have hlt := K.lt
  rw [rounds_succ]
  go_wp2
  clear k0 k1 k2 hlt
  have K' := K.alloc (.cells #[.int .i64 6, .string ⟨#[42]⟩, .int .i64 1] 74)
  have hB' := old_alloc hB (.cells #[.int .i64 6, .string ⟨#[42]⟩, .int .i64 1] 74)
  clear K hB
  generalize w3.alloc (.cells #[.int .i64 6, .string ⟨#[42]⟩, .int .i64 1] 74) = w4 at *
  have K := K'
  have hB := hB'
  clear K' hB'
  have k0 := K.cell 0 _ rfl
  have k1 := K.cell 1 _ rfl
  have k2 := K.cell 2 _ rfl
  have hlt := K.lt
  rw [rounds_succ]
  go_wp2
  clear k0 k1 k2 hlt
  have K' := K.alloc (.cells #[.int .i64 7, .string ⟨#[47]⟩, .int .i64 1] 74)
  have hB' := old_alloc hB (.cells #[.int .i64 7, .string ⟨#[47]⟩, .int .i64 1] 74)
  clear K hB
  generalize w4.alloc (.cells #[.int .i64 7, .string ⟨#[47]⟩, .int .i64 1] 74) = w5 at *
  have K := K'
  have hB := hB'
  clear K' hB'
  have k0 := K.cell 0 _ rfl
  have k1 := K.cell 1 _ rfl
  have k2 := K.cell 2 _ rfl
  have hlt := K.lt
  rw [rounds_succ]
  clear i0 i1 i2 i3
  have i0 := oidx0
  have i1 := oidx1
  have i2 := oidx2
  have i3 := oidx3
  have i4 := oidx4
  have i5 := oidx5
  go_wp2_with fail
  refine (iOwnWords _).mono ?_
  rintro ev w6 ⟨rfl, hb1⟩
  clear k0 k1 k2 hlt
  replace K := K.later hb1
  replace hB := old_trans hB hb1
  clear hb1
  have k0 := K.cell 0 _ rfl
  have k1 := K.cell 1 _ rfl
  have k2 := K.cell 2 _ rfl
  have hlt := K.lt
  go_wp2
  refine wp_loop_rounds 6 ?_
  rw [rounds_succ]
  go_wp2
  clear k0 k1 k2 hlt
  have K' := K.alloc (.cells #[.string ⟨#[100, 101, 102]⟩, .int .i64 0] 80)
  have hB' := old_alloc hB (.cells #[.string ⟨#[100, 101, 102]⟩, .int .i64 0] 80)
  clear K hB
  generalize w6.alloc (.cells #[.string ⟨#[100, 101, 102]⟩, .int .i64 0] 80) = w7 at *
  have K := K'
  have hB := hB'
  clear K' hB'
  have k0 := K.cell 0 _ rfl
  have k1 := K.cell 1 _ rfl
  have k2 := K.cell 2 _ rfl
  have hlt := K.lt
  rw [rounds_succ]
  go_wp2
  clear k0 k1 k2 hlt
  have K' := K.alloc (.cells #[.string ⟨#[118, 97, 114]⟩, .int .i64 0] 80)
  have hB' := old_alloc hB (.cells #[.string ⟨#[118, 97, 114]⟩, .int .i64 0] 80)
  clear K hB
  generalize w7.alloc (.cells #[.string ⟨#[118, 97, 114]⟩, .int .i64 0] 80) = w8 at *
  have K := K'
  have hB := hB'
  clear K' hB'
  have k0 := K.cell 0 _ rfl
  have k1 := K.cell 1 _ rfl
  have k2 := K.cell 2 _ rfl
  have hlt := K.lt
  rw [rounds_succ]
  go_wp2
  clear k0 k1 k2 hlt
  have K' := K.alloc (.cells #[.string ⟨#[115, 113, 114, 116]⟩, .int .i64 9] 80)
  have hB' := old_alloc hB (.cells #[.string ⟨#[115, 113, 114, 116]⟩, .int .i64 9] 80)
  clear K hB
  generalize w8.alloc (.cells #[.string ⟨#[115, 113, 114, 116]⟩, .int .i64 9] 80) = w9 at *
  have K := K'
  have hB := hB'
  clear K' hB'
  have k0 := K.cell 0 _ rfl
  have k1 := K.cell 1 _ rfl
  have k2 := K.cell 2 _ rfl
  have hlt := K.lt
  rw [rounds_succ]
  go_wp2
  clear k0 k1 k2 hlt
  have K' := K.alloc (.cells #[.string ⟨#[97, 98, 115]⟩, .int .i64 10] 80)
  have hB' := old_alloc hB (.cells #[.string ⟨#[97, 98, 115]⟩, .int .i64 10] 80)
  clear K hB
  generalize w9.alloc (.cells #[.string ⟨#[97, 98, 115]⟩, .int .i64 10] 80) = w10 at *
  have K := K'
  have hB := hB'
  clear K' hB'
  have k0 := K.cell 0 _ rfl
  have k1 := K.cell 1 _ rfl
  have k2 := K.cell 2 _ rfl
  have hlt := K.lt
  rw [rounds_succ]
  go_wp2
  clear k0 k1 k2 hlt
  have K' := K.alloc (.cells #[.string ⟨#[109, 105, 110]⟩, .int .i64 11] 80)
  have hB' := old_alloc hB (.cells #[.string ⟨#[109, 105, 110]⟩, .int .i64 11] 80)
  clear K hB
  generalize w10.alloc (.cells #[.string ⟨#[109, 105, 110]⟩, .int .i64 11] 80) = w11 at *
  have K := K'
  have hB := hB'
  clear K' hB'
  have k0 := K.cell 0 _ rfl
  have k1 := K.cell 1 _ rfl
  have k2 := K.cell 2 _ rfl
  have hlt := K.lt
  have L := CS.made w11 _ rfl #[.string ⟨#[109, 97, 120]⟩, .int .i64 12] 80
  rw [rounds_succ]
  go_wp2_with fail
  go_region_with (go_at_call 32; refine (CLN.out _ (by repeat (first | exact hB | exact Below.refl _ _ | refine Below.drew ?_ | refine old_alloc ?_ _ | refine old_trans ?_ (by assumption)))).mono ?_; rintro ev wc ⟨⟨g, c, rfl, g1, g2, g3, g4, g5⟩, hbc⟩; have K := (by with_reducible first | exact K.later hbc | exact K.drew.later hbc | exact (K.alloc _).later hbc | exact (K.alloc _).drew.later hbc : CS wc _ _); have k0 := K.cell 0 _ rfl; have k1 := K.cell 1 _ rfl; have k2 := K.cell 2 _ rfl; have hlt := K.lt; have L := (by with_reducible first | exact L.later hbc | exact L.drew.later hbc : CS wc _ _); have l0 := L.cell 0 _ rfl; have l1 := L.cell 1 _ rfl; have llt := L.lt)
  all_goals
    go_wp2
    go_ret
    exact ⟨⟨g, c, rfl, by have h1 := hB.size; have h2 := g1; simp at h2; omega, by assumption, g3, g4, g5⟩, (by repeat (first | exact hB | exact Below.refl _ _ | refine Below.drew ?_ | refine old_alloc ?_ _ | refine old_trans ?_ (by assumption)))⟩
set_option maxRecDepth 100000 in
set_option maxHeartbeats 4000000 in
theorem iTree_13 (n : Int) (s : ByteArray) (w : World) (b off m cap : Nat) (vs : Nat → Value) (hm : 0 < m) (hm6 : m ≤ 6) (hcap : m ≤ cap) (hb : b < w.heap.size) (hc : ∀ i, i < m → w.cell? ⟨b, off + i, none⟩ = some (vs i)) (h1 : ∀ i, i < m → ∃ (ty : TypeId) (u : Value), vs i = .iface ty u) :
    Calls Tryd.prog 24 #[.agg #[.int .i64 13, .int .i64 n, .string s], .slice (some ⟨b, off, none⟩) m cap] w fun e w' => (∃ g c, e = .returned (.iface 72 (.agg #[.string s, .slice (some ⟨g, 0, none⟩) m c])) ∧ w.heap.size ≤ g ∧ g < w'.heap.size ∧ m ≤ c ∧ c ≤ maxLen ∧ ∀ i, i < m → w'.cell? ⟨g, 0 + i, none⟩ = some (vs i)) ∧ Below w.heap.size w w' := by
  have CLN := hd (fun w' (h : Below w.heap.size w w') => iCloneT b off m cap vs w' hm hm6 (fun i hi => (h.cell (p := ⟨b, off + i, none⟩) hb).trans (hc i hi)) h1)
  clear hc h1
  have K := CS.made w _ rfl #[.int .i64 13, .int .i64 n, .string s] 48
  have hB : Below w.heap.size w (w.alloc (.cells #[.int .i64 13, .int .i64 n, .string s] 48)) := old_alloc (Below.refl _ _) _
  go_enter Tryd.func24, Tryd.ntmps24
  generalize hw0 : w.alloc (.cells #[.int .i64 13, .int .i64 n, .string s] 48) = w0 at *
  have k0 := K.cell 0 _ rfl
  have k1 := K.cell 1 _ rfl
  have k2 := K.cell 2 _ rfl
  have hlt := K.lt
  go_wp2_with fail
  go_region_with (go_at_call 32; refine (CLN.out _ (by repeat (first | exact hB | exact Below.refl _ _ | refine Below.drew ?_ | refine old_alloc ?_ _ | refine old_trans ?_ (by assumption)))).mono ?_; rintro ev wc ⟨⟨g, c, rfl, g1, g2, g3, g4, g5⟩, hbc⟩; have K := (by with_reducible first | exact K.later hbc | exact K.drew.later hbc | exact (K.alloc _).later hbc | exact (K.alloc _).drew.later hbc : CS wc _ _); have k0 := K.cell 0 _ rfl; have k1 := K.cell 1 _ rfl; have k2 := K.cell 2 _ rfl; have hlt := K.lt)
  all_goals
    go_wp2
    go_ret
    exact ⟨⟨g, c, rfl, by have h1 := hB.size; have h2 := g1; simp at h2; omega, by assumption, g3, g4, g5⟩, (by repeat (first | exact hB | exact Below.refl _ _ | refine Below.drew ?_ | refine old_alloc ?_ _ | refine old_trans ?_ (by assumption)))⟩
end Go.Proofs.YtknibhdnbkmkiaaDoor
