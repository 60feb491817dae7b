/- The contract of the specification's BitPartOf at finite floats: sign, size and power; nothing that was there is written. -/
import Derived.Test.YtpjababikpakoaaGreatDoorW2
import Derived.Test.YtpjababikpakoaaGreatDoorF2
namespace Go.Proofs.YtpjababikpakoaaGreatDoor
open Go.RowKit


set_option maxHeartbeats 1000000 in
theorem sPart_32_pos_small (s : Int) (h0 : 0 ≤ s) (h3 : s < 8388608) (w : World) :
    Calls Tryz.prog 40 #[.int .i64 32, .int .i64 s] w fun e w' => e = .returned (.tuple #[.agg #[.bool false, .int .u64 s, .int .i64 (-149)], .bool true]) ∧ Below w.heap.size w w' := by
  have k1 : -2139095040 ≤ s := by omega
  have k2 : s ≤ 2139095040 := by omega
  have r1 : s % 8388608 = s := by omega
  have r2 : s / 8388608 = 0 := by omega
  have t1 : (s == 2139095040) = false := by simp; omega
  have t3 : (s == -2139095040) = false := by simp; omega
  have t2 : decide (s < 0) = false := by simp; omega
  have t4 : decide (-2139095040 ≤ s) = true := by simp; omega
  have t5 : decide (s ≤ 2139095040) = true := by simp; omega
  go_enter Tryz.func40, Tryz.ntmps40
  go_wp2
  exact bodyPost_ret (v := .tuple #[.agg #[.bool false, .int .u64 s, .int .i64 (-149)], .bool true]) (by simp [results, Tryz.results40, go_sem]) rfl ⟨rfl, (by repeat (first | exact Below.refl _ _ | refine Below.drew ?_ | refine Below.setCell ?_ (by simp) _ | refine old_alloc ?_ _ | refine old_trans ?_ (by assumption)))⟩

set_option maxHeartbeats 1000000 in
theorem sPart_32_pos_common (s : Int) (ex q : Int) (h0 : 0 ≤ q) (h3 : q < 8388608) (h4 : 1 ≤ ex) (h5 : s = 8388608 * ex + q) (h6 : s < 2139095040) (w : World) :
    Calls Tryz.prog 40 #[.int .i64 32, .int .i64 s] w fun e w' => e = .returned (.tuple #[.agg #[.bool false, .int .u64 (8388608 + q), .int .i64 (-149 + (ex - 1))], .bool true]) ∧ Below w.heap.size w w' := by
  have k1 : -2139095040 ≤ s := by omega
  have k2 : s ≤ 2139095040 := by omega
  have r1 : s % 8388608 = q := by omega
  have r2 : s / 8388608 = ex := by omega
  have b1 : 0 ≤ s := by omega
  have b2 : s < 2139095040 := by omega
  have b3 : ex ≤ 255 := by omega
  have f1 : Hid (q + 8388608 = 8388608 + q) := by show _ = _; omega
  have f2 : Hid (-149 + ex - 1 = -149 + (ex - 1)) := by show _ = _; omega
  clear h5
  have t1 : (s == 2139095040) = false := by simp; omega
  have t3 : (s == -2139095040) = false := by simp; omega
  have t2 : decide (s < 0) = false := by simp; omega
  have t4 : decide (-2139095040 ≤ s) = true := by simp; omega
  have t5 : decide (s ≤ 2139095040) = true := by simp; omega
  go_enter Tryz.func40, Tryz.ntmps40
  go_wp2
  exact bodyPost_ret (v := .tuple #[.agg #[.bool false, .int .u64 (8388608 + q), .int .i64 (-149 + (ex - 1))], .bool true]) (by simp [results, Tryz.results40, go_sem]; exact ⟨f1.out, f2.out⟩) rfl ⟨rfl, (by repeat (first | exact Below.refl _ _ | refine Below.drew ?_ | refine Below.setCell ?_ (by simp) _ | refine old_alloc ?_ _ | refine old_trans ?_ (by assumption)))⟩

set_option maxHeartbeats 1000000 in
theorem sPart_32_neg_small (s : Int) (h0 : 0 < s) (h3 : s < 8388608) (w : World) :
    Calls Tryz.prog 40 #[.int .i64 32, .int .i64 (-s)] w fun e w' => e = .returned (.tuple #[.agg #[.bool true, .int .u64 s, .int .i64 (-149)], .bool true]) ∧ Below w.heap.size w w' := by
  have k1 : -2139095040 ≤ (-s) := by omega
  have k2 : (-s) ≤ 2139095040 := by omega
  have r1 : s % 8388608 = s := by omega
  have r2 : s / 8388608 = 0 := by omega
  have t1 : ((-s) == 2139095040) = false := by simp; omega
  have t3 : ((-s) == -2139095040) = false := by simp; omega
  have t2 : decide ((-s) < 0) = true := by simp; omega
  have t4 : decide (-2139095040 ≤ (-s)) = true := by simp; omega
  have t5 : decide ((-s) ≤ 2139095040) = true := by simp; omega
  go_enter Tryz.func40, Tryz.ntmps40
  go_wp2
  exact bodyPost_ret (v := .tuple #[.agg #[.bool true, .int .u64 s, .int .i64 (-149)], .bool true]) (by simp [results, Tryz.results40, go_sem]) rfl ⟨rfl, (by repeat (first | exact Below.refl _ _ | refine Below.drew ?_ | refine Below.setCell ?_ (by simp) _ | refine old_alloc ?_ _ | refine old_trans ?_ (by assumption)))⟩

set_option maxHeartbeats 1000000 in
theorem sPart_32_neg_common (s : Int) (ex q : Int) (h0 : 0 ≤ q) (h3 : q < 8388608) (h4 : 1 ≤ ex) (h5 : s = 8388608 * ex + q) (h6 : s < 2139095040) (w : World) :
    Calls Tryz.prog 40 #[.int .i64 32, .int .i64 (-s)] w fun e w' => e = .returned (.tuple #[.agg #[.bool true, .int .u64 (8388608 + q), .int .i64 (-149 + (ex - 1))], .bool true]) ∧ Below w.heap.size w w' := by
  have k1 : -2139095040 ≤ (-s) := by omega
  have k2 : (-s) ≤ 2139095040 := by omega
  have r1 : s % 8388608 = q := by omega
  have r2 : s / 8388608 = ex := by omega
  have b1 : 0 ≤ s := by omega
  have b2 : s < 2139095040 := by omega
  have b3 : ex ≤ 255 := by omega
  have f1 : Hid (q + 8388608 = 8388608 + q) := by show _ = _; omega
  have f2 : Hid (-149 + ex - 1 = -149 + (ex - 1)) := by show _ = _; omega
  clear h5
  have t1 : ((-s) == 2139095040) = false := by simp; omega
  have t3 : ((-s) == -2139095040) = false := by simp; omega
  have t2 : decide ((-s) < 0) = true := by simp; omega
  have t4 : decide (-2139095040 ≤ (-s)) = true := by simp; omega
  have t5 : decide ((-s) ≤ 2139095040) = true := by simp; omega
  go_enter Tryz.func40, Tryz.ntmps40
  go_wp2
  exact bodyPost_ret (v := .tuple #[.agg #[.bool true, .int .u64 (8388608 + q), .int .i64 (-149 + (ex - 1))], .bool true]) (by simp [results, Tryz.results40, go_sem]; exact ⟨f1.out, f2.out⟩) rfl ⟨rfl, (by repeat (first | exact Below.refl _ _ | refine Below.drew ?_ | refine Below.setCell ?_ (by simp) _ | refine old_alloc ?_ _ | refine old_trans ?_ (by assumption)))⟩

set_option maxHeartbeats 1000000 in
theorem sPart_64_pos_small (s : Int) (h0 : 0 ≤ s) (h3 : s < 4503599627370496) (w : World) :
    Calls Tryz.prog 40 #[.int .i64 64, .int .i64 s] w fun e w' => e = .returned (.tuple #[.agg #[.bool false, .int .u64 s, .int .i64 (-1074)], .bool true]) ∧ Below w.heap.size w w' := by
  have k1 : -9218868437227405312 ≤ s := by omega
  have k2 : s ≤ 9218868437227405312 := by omega
  have r1 : s % 4503599627370496 = s := by omega
  have r2 : s / 4503599627370496 = 0 := by omega
  have t1 : (s == 9218868437227405312) = false := by simp; omega
  have t3 : (s == -9218868437227405312) = false := by simp; omega
  have t2 : decide (s < 0) = false := by simp; omega
  have t4 : decide (-9218868437227405312 ≤ s) = true := by simp; omega
  have t5 : decide (s ≤ 9218868437227405312) = true := by simp; omega
  go_enter Tryz.func40, Tryz.ntmps40
  go_wp2
  exact bodyPost_ret (v := .tuple #[.agg #[.bool false, .int .u64 s, .int .i64 (-1074)], .bool true]) (by simp [results, Tryz.results40, go_sem]) rfl ⟨rfl, (by repeat (first | exact Below.refl _ _ | refine Below.drew ?_ | refine Below.setCell ?_ (by simp) _ | refine old_alloc ?_ _ | refine old_trans ?_ (by assumption)))⟩

set_option maxHeartbeats 1000000 in
theorem sPart_64_pos_common (s : Int) (ex q : Int) (h0 : 0 ≤ q) (h3 : q < 4503599627370496) (h4 : 1 ≤ ex) (h5 : s = 4503599627370496 * ex + q) (h6 : s < 9218868437227405312) (w : World) :
    Calls Tryz.prog 40 #[.int .i64 64, .int .i64 s] w fun e w' => e = .returned (.tuple #[.agg #[.bool false, .int .u64 (4503599627370496 + q), .int .i64 (-1074 + (ex - 1))], .bool true]) ∧ Below w.heap.size w w' := by
  have k1 : -9218868437227405312 ≤ s := by omega
  have k2 : s ≤ 9218868437227405312 := by omega
  have r1 : s % 4503599627370496 = q := by omega
  have r2 : s / 4503599627370496 = ex := by omega
  have b1 : 0 ≤ s := by omega
  have b2 : s < 9218868437227405312 := by omega
  have b3 : ex ≤ 2047 := by omega
  have f1 : Hid (q + 4503599627370496 = 4503599627370496 + q) := by show _ = _; omega
  have f2 : Hid (-1074 + ex - 1 = -1074 + (ex - 1)) := by show _ = _; omega
  clear h5
  have t1 : (s == 9218868437227405312) = false := by simp; omega
  have t3 : (s == -9218868437227405312) = false := by simp; omega
  have t2 : decide (s < 0) = false := by simp; omega
  have t4 : decide (-9218868437227405312 ≤ s) = true := by simp; omega
  have t5 : decide (s ≤ 9218868437227405312) = true := by simp; omega
  go_enter Tryz.func40, Tryz.ntmps40
  go_wp2
  exact bodyPost_ret (v := .tuple #[.agg #[.bool false, .int .u64 (4503599627370496 + q), .int .i64 (-1074 + (ex - 1))], .bool true]) (by simp [results, Tryz.results40, go_sem]; exact ⟨f1.out, f2.out⟩) rfl ⟨rfl, (by repeat (first | exact Below.refl _ _ | refine Below.drew ?_ | refine Below.setCell ?_ (by simp) _ | refine old_alloc ?_ _ | refine old_trans ?_ (by assumption)))⟩

set_option maxHeartbeats 1000000 in
theorem sPart_64_neg_small (s : Int) (h0 : 0 < s) (h3 : s < 4503599627370496) (w : World) :
    Calls Tryz.prog 40 #[.int .i64 64, .int .i64 (-s)] w fun e w' => e = .returned (.tuple #[.agg #[.bool true, .int .u64 s, .int .i64 (-1074)], .bool true]) ∧ Below w.heap.size w w' := by
  have k1 : -9218868437227405312 ≤ (-s) := by omega
  have k2 : (-s) ≤ 9218868437227405312 := by omega
  have r1 : s % 4503599627370496 = s := by omega
  have r2 : s / 4503599627370496 = 0 := by omega
  have t1 : ((-s) == 9218868437227405312) = false := by simp; omega
  have t3 : ((-s) == -9218868437227405312) = false := by simp; omega
  have t2 : decide ((-s) < 0) = true := by simp; omega
  have t4 : decide (-9218868437227405312 ≤ (-s)) = true := by simp; omega
  have t5 : decide ((-s) ≤ 9218868437227405312) = true := by simp; omega
  go_enter Tryz.func40, Tryz.ntmps40
  go_wp2
  exact bodyPost_ret (v := .tuple #[.agg #[.bool true, .int .u64 s, .int .i64 (-1074)], .bool true]) (by simp [results, Tryz.results40, go_sem]) rfl ⟨rfl, (by repeat (first | exact Below.refl _ _ | refine Below.drew ?_ | refine Below.setCell ?_ (by simp) _ | refine old_alloc ?_ _ | refine old_trans ?_ (by assumption)))⟩

set_option maxHeartbeats 1000000 in
theorem sPart_64_neg_common (s : Int) (ex q : Int) (h0 : 0 ≤ q) (h3 : q < 4503599627370496) (h4 : 1 ≤ ex) (h5 : s = 4503599627370496 * ex + q) (h6 : s < 9218868437227405312) (w : World) :
    Calls Tryz.prog 40 #[.int .i64 64, .int .i64 (-s)] w fun e w' => e = .returned (.tuple #[.agg #[.bool true, .int .u64 (4503599627370496 + q), .int .i64 (-1074 + (ex - 1))], .bool true]) ∧ Below w.heap.size w w' := by
  have k1 : -9218868437227405312 ≤ (-s) := by omega
  have k2 : (-s) ≤ 9218868437227405312 := by omega
  have r1 : s % 4503599627370496 = q := by omega
  have r2 : s / 4503599627370496 = ex := by omega
  have b1 : 0 ≤ s := by omega
  have b2 : s < 9218868437227405312 := by omega
  have b3 : ex ≤ 2047 := by omega
  have f1 : Hid (q + 4503599627370496 = 4503599627370496 + q) := by show _ = _; omega
  have f2 : Hid (-1074 + ex - 1 = -1074 + (ex - 1)) := by show _ = _; omega
  clear h5
  have t1 : ((-s) == 9218868437227405312) = false := by simp; omega
  have t3 : ((-s) == -9218868437227405312) = false := by simp; omega
  have t2 : decide ((-s) < 0) = true := by simp; omega
  have t4 : decide (-9218868437227405312 ≤ (-s)) = true := by simp; omega
  have t5 : decide ((-s) ≤ 9218868437227405312) = true := by simp; omega
  go_enter Tryz.func40, Tryz.ntmps40
  go_wp2
  exact bodyPost_ret (v := .tuple #[.agg #[.bool true, .int .u64 (4503599627370496 + q), .int .i64 (-1074 + (ex - 1))], .bool true]) (by simp [results, Tryz.results40, go_sem]; exact ⟨f1.out, f2.out⟩) rfl ⟨rfl, (by repeat (first | exact Below.refl _ _ | refine Below.drew ?_ | refine Below.setCell ?_ (by simp) _ | refine old_alloc ?_ _ | refine old_trans ?_ (by assumption)))⟩
end Go.Proofs.YtpjababikpakoaaGreatDoor
