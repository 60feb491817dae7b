/- BitMake at what it takes not: no such width, a power beyond the limit, a size of 0; and the law's copy of a part; nothing that was there is written. -/
import Derived.Test.YtljmmaaaeojbpaaDoorZ5
namespace Go.Proofs.YtljmmaaaeojbpaaDoor
open Go.RowKit
set_option linter.unusedVariables false

theorem toPart (bl : Bool) (S p : Int) (w : World) :
    Calls Tryd.prog 14 #[.agg #[.bool bl, .int .u64 S, .int .i64 p]] w fun e w' => e = .returned (.agg #[.bool bl, .int .u64 S, .int .i64 p]) ∧ Below w.heap.size w w' := by
  go_enter Tryd.func14, Tryd.ntmps14
  go_wp2
  exact bodyPost_ret (v := .agg #[.bool bl, .int .u64 S, .int .i64 p]) (by simp [results, Tryd.results14, go_sem]) rfl ⟨rfl, (by repeat (first | exact Below.refl _ _ | refine Below.drew ?_ | refine Below.setCell ?_ (by simp) _ | refine old_alloc ?_ _ | refine old_trans ?_ (by assumption)))⟩

set_option maxHeartbeats 400000 in
theorem sMake_32_lo (bl : Bool) (S p : Int) (h : decide (p < -2000) = true) (w : World) :
    Calls Tryd.prog 13 #[.int .i64 32, .agg #[.bool bl, .int .u64 S, .int .i64 p]] w fun e w' => e = .returned (.tuple #[.int .i64 0, .bool false]) ∧ Below w.heap.size w w' := by
  go_enter Tryd.func13, Tryd.ntmps13
  go_wp2
  go_ret2
  exact ⟨rfl, (by repeat (first | exact Below.refl _ _ | refine Below.drew ?_ | refine Below.setCell ?_ (by simp) _ | refine old_alloc ?_ _ | refine old_trans ?_ (by assumption)))⟩

set_option maxHeartbeats 400000 in
theorem sMake_32_hi (bl : Bool) (S p : Int) (g : decide (p < -2000) = false) (h : decide (2000 < p) = true) (w : World) :
    Calls Tryd.prog 13 #[.int .i64 32, .agg #[.bool bl, .int .u64 S, .int .i64 p]] w fun e w' => e = .returned (.tuple #[.int .i64 0, .bool false]) ∧ Below w.heap.size w w' := by
  go_enter Tryd.func13, Tryd.ntmps13
  go_wp2
  go_ret2
  exact ⟨rfl, (by repeat (first | exact Below.refl _ _ | refine Below.drew ?_ | refine Below.setCell ?_ (by simp) _ | refine old_alloc ?_ _ | refine old_trans ?_ (by assumption)))⟩

set_option maxHeartbeats 400000 in
theorem sMake_32_zero (bl : Bool) (p : Int) (g : decide (p < -2000) = false) (h : decide (2000 < p) = false) (w : World) :
    Calls Tryd.prog 13 #[.int .i64 32, .agg #[.bool bl, .int .u64 0, .int .i64 p]] w fun e w' => e = .returned (.tuple #[.int .i64 0, .bool true]) ∧ Below w.heap.size w w' := by
  go_enter Tryd.func13, Tryd.ntmps13
  go_wp2
  go_ret2
  exact ⟨rfl, (by repeat (first | exact Below.refl _ _ | refine Below.drew ?_ | refine Below.setCell ?_ (by simp) _ | refine old_alloc ?_ _ | refine old_trans ?_ (by assumption)))⟩

set_option maxHeartbeats 400000 in
theorem iMake_32_lo (bl : Bool) (S p : Int) (h : decide (p < -2000) = true) (w : World) :
    Calls Tryd.prog 12 #[.int .i64 32, .agg #[.bool bl, .int .u64 S, .int .i64 p]] w fun e w' => e = .returned (.tuple #[.int .i64 0, .bool false]) ∧ Below w.heap.size w w' := by
  go_enter Tryd.func12, Tryd.ntmps12
  go_wp2_with (first | (go_at_call 21; refine (formOf_32 _).mono ?_; rintro e w1 ⟨rfl, hb1⟩; obtain ⟨hc, hf⟩ := bcell hb1; obtain ⟨z0, z1, z2, z3, z4, z5⟩ := bsize hb1) | go_in)
  go_ret2
  exact ⟨rfl, (by repeat (first | exact Below.refl _ _ | refine Below.drew ?_ | refine Below.setCell ?_ (by simp) _ | refine old_alloc ?_ _ | refine old_trans ?_ (by assumption)))⟩

set_option maxHeartbeats 400000 in
theorem iMake_32_hi (bl : Bool) (S p : Int) (g : decide (p < -2000) = false) (h : decide (2000 < p) = true) (w : World) :
    Calls Tryd.prog 12 #[.int .i64 32, .agg #[.bool bl, .int .u64 S, .int .i64 p]] w fun e w' => e = .returned (.tuple #[.int .i64 0, .bool false]) ∧ Below w.heap.size w w' := by
  go_enter Tryd.func12, Tryd.ntmps12
  go_wp2_with (first | (go_at_call 21; refine (formOf_32 _).mono ?_; rintro e w1 ⟨rfl, hb1⟩; obtain ⟨hc, hf⟩ := bcell hb1; obtain ⟨z0, z1, z2, z3, z4, z5⟩ := bsize hb1) | go_in)
  go_ret2
  exact ⟨rfl, (by repeat (first | exact Below.refl _ _ | refine Below.drew ?_ | refine Below.setCell ?_ (by simp) _ | refine old_alloc ?_ _ | refine old_trans ?_ (by assumption)))⟩

set_option maxHeartbeats 400000 in
theorem iMake_32_zero (bl : Bool) (p : Int) (g : decide (p < -2000) = false) (h : decide (2000 < p) = false) (w : World) :
    Calls Tryd.prog 12 #[.int .i64 32, .agg #[.bool bl, .int .u64 0, .int .i64 p]] w fun e w' => e = .returned (.tuple #[.int .i64 0, .bool true]) ∧ Below w.heap.size w w' := by
  go_enter Tryd.func12, Tryd.ntmps12
  go_wp2_with (first | (go_at_call 21; refine (formOf_32 _).mono ?_; rintro e w1 ⟨rfl, hb1⟩; obtain ⟨hc, hf⟩ := bcell hb1; obtain ⟨z0, z1, z2, z3, z4, z5⟩ := bsize hb1) | go_in)
  go_ret2
  exact ⟨rfl, (by repeat (first | exact Below.refl _ _ | refine Below.drew ?_ | refine Below.setCell ?_ (by simp) _ | refine old_alloc ?_ _ | refine old_trans ?_ (by assumption)))⟩

set_option maxHeartbeats 400000 in
theorem sMake_64_lo (bl : Bool) (S p : Int) (h : decide (p < -2000) = true) (w : World) :
    Calls Tryd.prog 13 #[.int .i64 64, .agg #[.bool bl, .int .u64 S, .int .i64 p]] w fun e w' => e = .returned (.tuple #[.int .i64 0, .bool false]) ∧ Below w.heap.size w w' := by
  go_enter Tryd.func13, Tryd.ntmps13
  go_wp2
  go_ret2
  exact ⟨rfl, (by repeat (first | exact Below.refl _ _ | refine Below.drew ?_ | refine Below.setCell ?_ (by simp) _ | refine old_alloc ?_ _ | refine old_trans ?_ (by assumption)))⟩

set_option maxHeartbeats 400000 in
theorem sMake_64_hi (bl : Bool) (S p : Int) (g : decide (p < -2000) = false) (h : decide (2000 < p) = true) (w : World) :
    Calls Tryd.prog 13 #[.int .i64 64, .agg #[.bool bl, .int .u64 S, .int .i64 p]] w fun e w' => e = .returned (.tuple #[.int .i64 0, .bool false]) ∧ Below w.heap.size w w' := by
  go_enter Tryd.func13, Tryd.ntmps13
  go_wp2
  go_ret2
  exact ⟨rfl, (by repeat (first | exact Below.refl _ _ | refine Below.drew ?_ | refine Below.setCell ?_ (by simp) _ | refine old_alloc ?_ _ | refine old_trans ?_ (by assumption)))⟩

set_option maxHeartbeats 400000 in
theorem sMake_64_zero (bl : Bool) (p : Int) (g : decide (p < -2000) = false) (h : decide (2000 < p) = false) (w : World) :
    Calls Tryd.prog 13 #[.int .i64 64, .agg #[.bool bl, .int .u64 0, .int .i64 p]] w fun e w' => e = .returned (.tuple #[.int .i64 0, .bool true]) ∧ Below w.heap.size w w' := by
  go_enter Tryd.func13, Tryd.ntmps13
  go_wp2
  go_ret2
  exact ⟨rfl, (by repeat (first | exact Below.refl _ _ | refine Below.drew ?_ | refine Below.setCell ?_ (by simp) _ | refine old_alloc ?_ _ | refine old_trans ?_ (by assumption)))⟩

set_option maxHeartbeats 400000 in
theorem iMake_64_lo (bl : Bool) (S p : Int) (h : decide (p < -2000) = true) (w : World) :
    Calls Tryd.prog 12 #[.int .i64 64, .agg #[.bool bl, .int .u64 S, .int .i64 p]] w fun e w' => e = .returned (.tuple #[.int .i64 0, .bool false]) ∧ Below w.heap.size w w' := by
  go_enter Tryd.func12, Tryd.ntmps12
  go_wp2_with (first | (go_at_call 21; refine (formOf_64 _).mono ?_; rintro e w1 ⟨rfl, hb1⟩; obtain ⟨hc, hf⟩ := bcell hb1; obtain ⟨z0, z1, z2, z3, z4, z5⟩ := bsize hb1) | go_in)
  go_ret2
  exact ⟨rfl, (by repeat (first | exact Below.refl _ _ | refine Below.drew ?_ | refine Below.setCell ?_ (by simp) _ | refine old_alloc ?_ _ | refine old_trans ?_ (by assumption)))⟩

set_option maxHeartbeats 400000 in
theorem iMake_64_hi (bl : Bool) (S p : Int) (g : decide (p < -2000) = false) (h : decide (2000 < p) = true) (w : World) :
    Calls Tryd.prog 12 #[.int .i64 64, .agg #[.bool bl, .int .u64 S, .int .i64 p]] w fun e w' => e = .returned (.tuple #[.int .i64 0, .bool false]) ∧ Below w.heap.size w w' := by
  go_enter Tryd.func12, Tryd.ntmps12
  go_wp2_with (first | (go_at_call 21; refine (formOf_64 _).mono ?_; rintro e w1 ⟨rfl, hb1⟩; obtain ⟨hc, hf⟩ := bcell hb1; obtain ⟨z0, z1, z2, z3, z4, z5⟩ := bsize hb1) | go_in)
  go_ret2
  exact ⟨rfl, (by repeat (first | exact Below.refl _ _ | refine Below.drew ?_ | refine Below.setCell ?_ (by simp) _ | refine old_alloc ?_ _ | refine old_trans ?_ (by assumption)))⟩

set_option maxHeartbeats 400000 in
theorem iMake_64_zero (bl : Bool) (p : Int) (g : decide (p < -2000) = false) (h : decide (2000 < p) = false) (w : World) :
    Calls Tryd.prog 12 #[.int .i64 64, .agg #[.bool bl, .int .u64 0, .int .i64 p]] w fun e w' => e = .returned (.tuple #[.int .i64 0, .bool true]) ∧ Below w.heap.size w w' := by
  go_enter Tryd.func12, Tryd.ntmps12
  go_wp2_with (first | (go_at_call 21; refine (formOf_64 _).mono ?_; rintro e w1 ⟨rfl, hb1⟩; obtain ⟨hc, hf⟩ := bcell hb1; obtain ⟨z0, z1, z2, z3, z4, z5⟩ := bsize hb1) | go_in)
  go_ret2
  exact ⟨rfl, (by repeat (first | exact Below.refl _ _ | refine Below.drew ?_ | refine Below.setCell ?_ (by simp) _ | refine old_alloc ?_ _ | refine old_trans ?_ (by assumption)))⟩

set_option maxHeartbeats 400000 in
theorem sMake_no (bl : Bool) (S p : Int) (wd : Int) (g1 : wd ≠ 32) (g2 : wd ≠ 64) (w : World) :
    Calls Tryd.prog 13 #[.int .i64 wd, .agg #[.bool bl, .int .u64 S, .int .i64 p]] w fun e w' => e = .returned (.tuple #[.int .i64 0, .bool false]) ∧ Below w.heap.size w w' := by
  have t1 : (32 == wd) = false := by simp; omega
  have t2 : (64 == wd) = false := by simp; omega
  have t3 : (wd == 32) = false := by simp; omega
  have t4 : (wd == 64) = false := by simp; omega
  go_enter Tryd.func13, Tryd.ntmps13
  go_wp2
  go_ret2
  exact ⟨rfl, (by repeat (first | exact Below.refl _ _ | refine Below.drew ?_ | refine Below.setCell ?_ (by simp) _ | refine old_alloc ?_ _ | refine old_trans ?_ (by assumption)))⟩

set_option maxHeartbeats 400000 in
theorem iMake_no (bl : Bool) (S p : Int) (wd : Int) (g1 : wd ≠ 32) (g2 : wd ≠ 64) (w : World) :
    Calls Tryd.prog 12 #[.int .i64 wd, .agg #[.bool bl, .int .u64 S, .int .i64 p]] w fun e w' => e = .returned (.tuple #[.int .i64 0, .bool false]) ∧ Below w.heap.size w w' := by
  have t1 : (32 == wd) = false := by simp; omega
  have t2 : (64 == wd) = false := by simp; omega
  have t3 : (wd == 32) = false := by simp; omega
  have t4 : (wd == 64) = false := by simp; omega
  go_enter Tryd.func12, Tryd.ntmps12
  go_wp2_with (first | (go_at_call 21; refine (formOf_no wd _ t1 t2).mono ?_; rintro e w1 ⟨rfl, hb1⟩; obtain ⟨hc, hf⟩ := bcell hb1; obtain ⟨z0, z1, z2, z3, z4, z5⟩ := bsize hb1) | go_in)
  go_ret2
  exact ⟨rfl, (by repeat (first | exact Below.refl _ _ | refine Below.drew ?_ | refine Below.setCell ?_ (by simp) _ | refine old_alloc ?_ _ | refine old_trans ?_ (by assumption)))⟩
end Go.Proofs.YtljmmaaaeojbpaaDoor
