/- Contracts of BitBits, of the program and of the specification: both answer the same; nothing that was there is written. -/
import Derived.Test.YtgoffjpfddmhhaaGreatDoorPK01
import Derived.Test.YtgoffjpfddmhhaaGreatDoorPK21
namespace Go.Proofs.YtgoffjpfddmhhaaGreatDoor
open Go.RowKit


set_option maxHeartbeats 800000 in
theorem iBitBits_32 (n : Int) (h1 : -2139095040 ≤ n) (h2 : n ≤ 2139095040) (w : World) :
    Calls Tryz.prog 168 #[.int .i64 32, .int .i64 n] w fun e w' => e = .returned (.int .u64 (bitsI 2147483648 n)) ∧ Below w.heap.size w w' := by
  have m0 := meth_sign_32
  go_enter Tryz.func168, Tryz.ntmps168
  go_wp2_with (first | (go_at_call 36; refine (formOf_32 _).mono ?_; rintro e w1 ⟨rfl, hb1⟩) | (go_at_call 66; refine (formWith_32 _ _ h1 h2).mono ?_; rintro e w1 ⟨rfl, hb1⟩) | go_in)
  all_goals
    go_ret
    refine ⟨ret_int ?_, (by repeat (first | exact Below.refl _ _ | refine Below.drew ?_ | refine old_alloc ?_ _ | refine old_trans ?_ (by assumption)))⟩
    try rw [or_32 _ (by omega) (by omega)]
    unfold bitsI; (repeat' split) <;> omega

set_option maxHeartbeats 800000 in
theorem iBitBits_64 (n : Int) (h1 : -9218868437227405312 ≤ n) (h2 : n ≤ 9218868437227405312) (w : World) :
    Calls Tryz.prog 168 #[.int .i64 64, .int .i64 n] w fun e w' => e = .returned (.int .u64 (bitsI 9223372036854775808 n)) ∧ Below w.heap.size w w' := by
  have m0 := meth_sign_64
  go_enter Tryz.func168, Tryz.ntmps168
  go_wp2_with (first | (go_at_call 36; refine (formOf_64 _).mono ?_; rintro e w1 ⟨rfl, hb1⟩) | (go_at_call 66; refine (formWith_64 _ _ h1 h2).mono ?_; rintro e w1 ⟨rfl, hb1⟩) | go_in)
  all_goals
    go_ret
    refine ⟨ret_int ?_, (by repeat (first | exact Below.refl _ _ | refine Below.drew ?_ | refine old_alloc ?_ _ | refine old_trans ?_ (by assumption)))⟩
    try rw [or_64 _ (by omega) (by omega)]
    unfold bitsI; (repeat' split) <;> omega

end Go.Proofs.YtgoffjpfddmhhaaGreatDoor

/- The contract of the program's BitPartOf at width 32, finite floats: sign, size and power; nothing that was there is written. -/
namespace Go.Proofs.YtgoffjpfddmhhaaGreatDoor
open Go.RowKit


set_option maxHeartbeats 1000000 in
theorem iPart_32_pos_small (s : Int) (h0 : 0 ≤ s) (h3 : s < 8388608) (w : World) :
    Calls Tryz.prog 38 #[.int .i64 32, .int .i64 s] w fun e w' => e = .returned (.tuple #[.agg #[.bool false, .int .u64 s, .int .i64 (-149)], .bool true]) ∧ Below w.heap.size w w' := by
  have k1 : -2139095040 ≤ s := by omega
  have k2 : s ≤ 2139095040 := by omega
  have r1 : bits .and .i64 s 8388607 = s := by rw [mask_32 s (by omega) (by omega)]; omega
  have r2 : s / 8388608 = 0 := by omega
  have m1 := meth_top_32
  have m2 := meth_fraction_32
  have m3 := meth_least_32
  have t1 : (s == 2139095040) = false := by simp; omega
  have t2 : decide (s < 0) = false := by simp; omega
  go_enter Tryz.func38, Tryz.ntmps38
  go_wp2_with (first | (go_at_call 66; refine (formWith_32 _ _ k1 k2).mono ?_; rintro e w1 ⟨rfl, hb1⟩; obtain ⟨hc, hf⟩ := bcell hb1; obtain ⟨z0, z1, z2, z3, z4, z5⟩ := bsize hb1) | go_in)
  exact bodyPost_ret (v := .tuple #[.agg #[.bool false, .int .u64 s, .int .i64 (-149)], .bool true]) (by simp [results, Tryz.results38, go_sem, hc, z0, z1, z2, z3, z4]) rfl ⟨rfl, (by repeat (first | exact Below.refl _ _ | refine Below.drew ?_ | refine Below.setCell ?_ (by simp) _ | refine old_alloc ?_ _ | refine old_trans ?_ (by assumption)))⟩

set_option maxHeartbeats 1000000 in
theorem iPart_32_pos_common (s : Int) (ex q : Int) (h0 : 0 ≤ q) (h3 : q < 8388608) (h4 : 1 ≤ ex) (h5 : s = 8388608 * ex + q) (h6 : s < 2139095040) (w : World) :
    Calls Tryz.prog 38 #[.int .i64 32, .int .i64 s] w fun e w' => e = .returned (.tuple #[.agg #[.bool false, .int .u64 (8388608 + q), .int .i64 (-149 + (ex - 1))], .bool true]) ∧ Below w.heap.size w w' := by
  have k1 : -2139095040 ≤ s := by omega
  have k2 : s ≤ 2139095040 := by omega
  have r1 : bits .and .i64 s 8388607 = q := by rw [mask_32 s (by omega) (by omega)]; omega
  have r2 : s / 8388608 = ex := by omega
  have r3 := hid_32 q h0 h3
  have b1 : 0 ≤ s := by omega
  have b2 : s < 2139095040 := by omega
  have b3 : ex ≤ 255 := by omega
  clear h5
  have m1 := meth_top_32
  have m2 := meth_fraction_32
  have m3 := meth_least_32
  have t1 : (s == 2139095040) = false := by simp; omega
  have t2 : decide (s < 0) = false := by simp; omega
  go_enter Tryz.func38, Tryz.ntmps38
  go_wp2_with (first | (go_at_call 66; refine (formWith_32 _ _ k1 k2).mono ?_; rintro e w1 ⟨rfl, hb1⟩; obtain ⟨hc, hf⟩ := bcell hb1; obtain ⟨z0, z1, z2, z3, z4, z5⟩ := bsize hb1) | go_in)
  exact bodyPost_ret (v := .tuple #[.agg #[.bool false, .int .u64 (8388608 + q), .int .i64 (-149 + (ex - 1))], .bool true]) (by simp [results, Tryz.results38, go_sem, hc, z0, z1, z2, z3, z4]) rfl ⟨rfl, (by repeat (first | exact Below.refl _ _ | refine Below.drew ?_ | refine Below.setCell ?_ (by simp) _ | refine old_alloc ?_ _ | refine old_trans ?_ (by assumption)))⟩

set_option maxHeartbeats 1000000 in
theorem iPart_32_neg_small (s : Int) (h0 : 0 < s) (h3 : s < 8388608) (w : World) :
    Calls Tryz.prog 38 #[.int .i64 32, .int .i64 (-s)] w fun e w' => e = .returned (.tuple #[.agg #[.bool true, .int .u64 s, .int .i64 (-149)], .bool true]) ∧ Below w.heap.size w w' := by
  have k1 : -2139095040 ≤ (-s) := by omega
  have k2 : (-s) ≤ 2139095040 := by omega
  have r1 : bits .and .i64 s 8388607 = s := by rw [mask_32 s (by omega) (by omega)]; omega
  have r2 : s / 8388608 = 0 := by omega
  have m1 := meth_top_32
  have m2 := meth_fraction_32
  have m3 := meth_least_32
  have t1 : (s == 2139095040) = false := by simp; omega
  have t2 : decide ((-s) < 0) = true := by simp; omega
  go_enter Tryz.func38, Tryz.ntmps38
  go_wp2_with (first | (go_at_call 66; refine (formWith_32 _ _ k1 k2).mono ?_; rintro e w1 ⟨rfl, hb1⟩; obtain ⟨hc, hf⟩ := bcell hb1; obtain ⟨z0, z1, z2, z3, z4, z5⟩ := bsize hb1) | go_in)
  exact bodyPost_ret (v := .tuple #[.agg #[.bool true, .int .u64 s, .int .i64 (-149)], .bool true]) (by simp [results, Tryz.results38, go_sem, hc, z0, z1, z2, z3, z4]) rfl ⟨rfl, (by repeat (first | exact Below.refl _ _ | refine Below.drew ?_ | refine Below.setCell ?_ (by simp) _ | refine old_alloc ?_ _ | refine old_trans ?_ (by assumption)))⟩

set_option maxHeartbeats 1000000 in
theorem iPart_32_neg_common (s : Int) (ex q : Int) (h0 : 0 ≤ q) (h3 : q < 8388608) (h4 : 1 ≤ ex) (h5 : s = 8388608 * ex + q) (h6 : s < 2139095040) (w : World) :
    Calls Tryz.prog 38 #[.int .i64 32, .int .i64 (-s)] w fun e w' => e = .returned (.tuple #[.agg #[.bool true, .int .u64 (8388608 + q), .int .i64 (-149 + (ex - 1))], .bool true]) ∧ Below w.heap.size w w' := by
  have k1 : -2139095040 ≤ (-s) := by omega
  have k2 : (-s) ≤ 2139095040 := by omega
  have r1 : bits .and .i64 s 8388607 = q := by rw [mask_32 s (by omega) (by omega)]; omega
  have r2 : s / 8388608 = ex := by omega
  have r3 := hid_32 q h0 h3
  have b1 : 0 ≤ s := by omega
  have b2 : s < 2139095040 := by omega
  have b3 : ex ≤ 255 := by omega
  clear h5
  have m1 := meth_top_32
  have m2 := meth_fraction_32
  have m3 := meth_least_32
  have t1 : (s == 2139095040) = false := by simp; omega
  have t2 : decide ((-s) < 0) = true := by simp; omega
  go_enter Tryz.func38, Tryz.ntmps38
  go_wp2_with (first | (go_at_call 66; refine (formWith_32 _ _ k1 k2).mono ?_; rintro e w1 ⟨rfl, hb1⟩; obtain ⟨hc, hf⟩ := bcell hb1; obtain ⟨z0, z1, z2, z3, z4, z5⟩ := bsize hb1) | go_in)
  exact bodyPost_ret (v := .tuple #[.agg #[.bool true, .int .u64 (8388608 + q), .int .i64 (-149 + (ex - 1))], .bool true]) (by simp [results, Tryz.results38, go_sem, hc, z0, z1, z2, z3, z4]) rfl ⟨rfl, (by repeat (first | exact Below.refl _ _ | refine Below.drew ?_ | refine Below.setCell ?_ (by simp) _ | refine old_alloc ?_ _ | refine old_trans ?_ (by assumption)))⟩
end Go.Proofs.YtgoffjpfddmhhaaGreatDoor

/- The contract of the program's BitPartOf at width 64, finite floats: sign, size and power; nothing that was there is written. -/
namespace Go.Proofs.YtgoffjpfddmhhaaGreatDoor
open Go.RowKit


set_option maxHeartbeats 1000000 in
theorem iPart_64_pos_small (s : Int) (h0 : 0 ≤ s) (h3 : s < 4503599627370496) (w : World) :
    Calls Tryz.prog 38 #[.int .i64 64, .int .i64 s] w fun e w' => e = .returned (.tuple #[.agg #[.bool false, .int .u64 s, .int .i64 (-1074)], .bool true]) ∧ Below w.heap.size w w' := by
  have k1 : -9218868437227405312 ≤ s := by omega
  have k2 : s ≤ 9218868437227405312 := by omega
  have r1 : bits .and .i64 s 4503599627370495 = s := by rw [mask_64 s (by omega) (by omega)]; omega
  have r2 : s / 4503599627370496 = 0 := by omega
  have m1 := meth_top_64
  have m2 := meth_fraction_64
  have m3 := meth_least_64
  have t1 : (s == 9218868437227405312) = false := by simp; omega
  have t2 : decide (s < 0) = false := by simp; omega
  go_enter Tryz.func38, Tryz.ntmps38
  go_wp2_with (first | (go_at_call 66; refine (formWith_64 _ _ k1 k2).mono ?_; rintro e w1 ⟨rfl, hb1⟩; obtain ⟨hc, hf⟩ := bcell hb1; obtain ⟨z0, z1, z2, z3, z4, z5⟩ := bsize hb1) | go_in)
  exact bodyPost_ret (v := .tuple #[.agg #[.bool false, .int .u64 s, .int .i64 (-1074)], .bool true]) (by simp [results, Tryz.results38, go_sem, hc, z0, z1, z2, z3, z4]) rfl ⟨rfl, (by repeat (first | exact Below.refl _ _ | refine Below.drew ?_ | refine Below.setCell ?_ (by simp) _ | refine old_alloc ?_ _ | refine old_trans ?_ (by assumption)))⟩

set_option maxHeartbeats 1000000 in
theorem iPart_64_pos_common (s : Int) (ex q : Int) (h0 : 0 ≤ q) (h3 : q < 4503599627370496) (h4 : 1 ≤ ex) (h5 : s = 4503599627370496 * ex + q) (h6 : s < 9218868437227405312) (w : World) :
    Calls Tryz.prog 38 #[.int .i64 64, .int .i64 s] w fun e w' => e = .returned (.tuple #[.agg #[.bool false, .int .u64 (4503599627370496 + q), .int .i64 (-1074 + (ex - 1))], .bool true]) ∧ Below w.heap.size w w' := by
  have k1 : -9218868437227405312 ≤ s := by omega
  have k2 : s ≤ 9218868437227405312 := by omega
  have r1 : bits .and .i64 s 4503599627370495 = q := by rw [mask_64 s (by omega) (by omega)]; omega
  have r2 : s / 4503599627370496 = ex := by omega
  have r3 := hid_64 q h0 h3
  have b1 : 0 ≤ s := by omega
  have b2 : s < 9218868437227405312 := by omega
  have b3 : ex ≤ 2047 := by omega
  clear h5
  have m1 := meth_top_64
  have m2 := meth_fraction_64
  have m3 := meth_least_64
  have t1 : (s == 9218868437227405312) = false := by simp; omega
  have t2 : decide (s < 0) = false := by simp; omega
  go_enter Tryz.func38, Tryz.ntmps38
  go_wp2_with (first | (go_at_call 66; refine (formWith_64 _ _ k1 k2).mono ?_; rintro e w1 ⟨rfl, hb1⟩; obtain ⟨hc, hf⟩ := bcell hb1; obtain ⟨z0, z1, z2, z3, z4, z5⟩ := bsize hb1) | go_in)
  exact bodyPost_ret (v := .tuple #[.agg #[.bool false, .int .u64 (4503599627370496 + q), .int .i64 (-1074 + (ex - 1))], .bool true]) (by simp [results, Tryz.results38, go_sem, hc, z0, z1, z2, z3, z4]) rfl ⟨rfl, (by repeat (first | exact Below.refl _ _ | refine Below.drew ?_ | refine Below.setCell ?_ (by simp) _ | refine old_alloc ?_ _ | refine old_trans ?_ (by assumption)))⟩

set_option maxHeartbeats 1000000 in
theorem iPart_64_neg_small (s : Int) (h0 : 0 < s) (h3 : s < 4503599627370496) (w : World) :
    Calls Tryz.prog 38 #[.int .i64 64, .int .i64 (-s)] w fun e w' => e = .returned (.tuple #[.agg #[.bool true, .int .u64 s, .int .i64 (-1074)], .bool true]) ∧ Below w.heap.size w w' := by
  have k1 : -9218868437227405312 ≤ (-s) := by omega
  have k2 : (-s) ≤ 9218868437227405312 := by omega
  have r1 : bits .and .i64 s 4503599627370495 = s := by rw [mask_64 s (by omega) (by omega)]; omega
  have r2 : s / 4503599627370496 = 0 := by omega
  have m1 := meth_top_64
  have m2 := meth_fraction_64
  have m3 := meth_least_64
  have t1 : (s == 9218868437227405312) = false := by simp; omega
  have t2 : decide ((-s) < 0) = true := by simp; omega
  go_enter Tryz.func38, Tryz.ntmps38
  go_wp2_with (first | (go_at_call 66; refine (formWith_64 _ _ k1 k2).mono ?_; rintro e w1 ⟨rfl, hb1⟩; obtain ⟨hc, hf⟩ := bcell hb1; obtain ⟨z0, z1, z2, z3, z4, z5⟩ := bsize hb1) | go_in)
  exact bodyPost_ret (v := .tuple #[.agg #[.bool true, .int .u64 s, .int .i64 (-1074)], .bool true]) (by simp [results, Tryz.results38, go_sem, hc, z0, z1, z2, z3, z4]) rfl ⟨rfl, (by repeat (first | exact Below.refl _ _ | refine Below.drew ?_ | refine Below.setCell ?_ (by simp) _ | refine old_alloc ?_ _ | refine old_trans ?_ (by assumption)))⟩

set_option maxHeartbeats 1000000 in
theorem iPart_64_neg_common (s : Int) (ex q : Int) (h0 : 0 ≤ q) (h3 : q < 4503599627370496) (h4 : 1 ≤ ex) (h5 : s = 4503599627370496 * ex + q) (h6 : s < 9218868437227405312) (w : World) :
    Calls Tryz.prog 38 #[.int .i64 64, .int .i64 (-s)] w fun e w' => e = .returned (.tuple #[.agg #[.bool true, .int .u64 (4503599627370496 + q), .int .i64 (-1074 + (ex - 1))], .bool true]) ∧ Below w.heap.size w w' := by
  have k1 : -9218868437227405312 ≤ (-s) := by omega
  have k2 : (-s) ≤ 9218868437227405312 := by omega
  have r1 : bits .and .i64 s 4503599627370495 = q := by rw [mask_64 s (by omega) (by omega)]; omega
  have r2 : s / 4503599627370496 = ex := by omega
  have r3 := hid_64 q h0 h3
  have b1 : 0 ≤ s := by omega
  have b2 : s < 9218868437227405312 := by omega
  have b3 : ex ≤ 2047 := by omega
  clear h5
  have m1 := meth_top_64
  have m2 := meth_fraction_64
  have m3 := meth_least_64
  have t1 : (s == 9218868437227405312) = false := by simp; omega
  have t2 : decide ((-s) < 0) = true := by simp; omega
  go_enter Tryz.func38, Tryz.ntmps38
  go_wp2_with (first | (go_at_call 66; refine (formWith_64 _ _ k1 k2).mono ?_; rintro e w1 ⟨rfl, hb1⟩; obtain ⟨hc, hf⟩ := bcell hb1; obtain ⟨z0, z1, z2, z3, z4, z5⟩ := bsize hb1) | go_in)
  exact bodyPost_ret (v := .tuple #[.agg #[.bool true, .int .u64 (4503599627370496 + q), .int .i64 (-1074 + (ex - 1))], .bool true]) (by simp [results, Tryz.results38, go_sem, hc, z0, z1, z2, z3, z4]) rfl ⟨rfl, (by repeat (first | exact Below.refl _ _ | refine Below.drew ?_ | refine Below.setCell ?_ (by simp) _ | refine old_alloc ?_ _ | refine old_trans ?_ (by assumption)))⟩
end Go.Proofs.YtgoffjpfddmhhaaGreatDoor

/- The contract of the specification's BitPartOf at finite floats: sign, size and power; nothing that was there is written. -/
namespace Go.Proofs.YtgoffjpfddmhhaaGreatDoor
open Go.RowKit


set_option maxHeartbeats 1000000 in
theorem sPart_32_pos_small (s : Int) (h0 : 0 ≤ s) (h3 : s < 8388608) (w : World) :
    Calls Tryz.prog 44 #[.int .i64 32, .int .i64 s] w fun e w' => e = .returned (.tuple #[.agg #[.bool false, .int .u64 s, .int .i64 (-149)], .bool true]) ∧ Below w.heap.size w w' := by
  have k1 : -2139095040 ≤ s := by omega
  have k2 : s ≤ 2139095040 := by omega
  have r1 : s % 8388608 = s := by omega
  have r2 : s / 8388608 = 0 := by omega
  have t1 : (s == 2139095040) = false := by simp; omega
  have t3 : (s == -2139095040) = false := by simp; omega
  have t2 : decide (s < 0) = false := by simp; omega
  have t4 : decide (-2139095040 ≤ s) = true := by simp; omega
  have t5 : decide (s ≤ 2139095040) = true := by simp; omega
  go_enter Tryz.func44, Tryz.ntmps44
  go_wp2
  exact bodyPost_ret (v := .tuple #[.agg #[.bool false, .int .u64 s, .int .i64 (-149)], .bool true]) (by simp [results, Tryz.results44, go_sem]) rfl ⟨rfl, (by repeat (first | exact Below.refl _ _ | refine Below.drew ?_ | refine Below.setCell ?_ (by simp) _ | refine old_alloc ?_ _ | refine old_trans ?_ (by assumption)))⟩

set_option maxHeartbeats 1000000 in
theorem sPart_32_pos_common (s : Int) (ex q : Int) (h0 : 0 ≤ q) (h3 : q < 8388608) (h4 : 1 ≤ ex) (h5 : s = 8388608 * ex + q) (h6 : s < 2139095040) (w : World) :
    Calls Tryz.prog 44 #[.int .i64 32, .int .i64 s] w fun e w' => e = .returned (.tuple #[.agg #[.bool false, .int .u64 (8388608 + q), .int .i64 (-149 + (ex - 1))], .bool true]) ∧ Below w.heap.size w w' := by
  have k1 : -2139095040 ≤ s := by omega
  have k2 : s ≤ 2139095040 := by omega
  have r1 : s % 8388608 = q := by omega
  have r2 : s / 8388608 = ex := by omega
  have b1 : 0 ≤ s := by omega
  have b2 : s < 2139095040 := by omega
  have b3 : ex ≤ 255 := by omega
  have f1 : Hid (q + 8388608 = 8388608 + q) := by show _ = _; omega
  have f2 : Hid (-149 + ex - 1 = -149 + (ex - 1)) := by show _ = _; omega
  clear h5
  have t1 : (s == 2139095040) = false := by simp; omega
  have t3 : (s == -2139095040) = false := by simp; omega
  have t2 : decide (s < 0) = false := by simp; omega
  have t4 : decide (-2139095040 ≤ s) = true := by simp; omega
  have t5 : decide (s ≤ 2139095040) = true := by simp; omega
  go_enter Tryz.func44, Tryz.ntmps44
  go_wp2
  exact bodyPost_ret (v := .tuple #[.agg #[.bool false, .int .u64 (8388608 + q), .int .i64 (-149 + (ex - 1))], .bool true]) (by simp [results, Tryz.results44, go_sem]; exact ⟨f1.out, f2.out⟩) rfl ⟨rfl, (by repeat (first | exact Below.refl _ _ | refine Below.drew ?_ | refine Below.setCell ?_ (by simp) _ | refine old_alloc ?_ _ | refine old_trans ?_ (by assumption)))⟩

set_option maxHeartbeats 1000000 in
theorem sPart_32_neg_small (s : Int) (h0 : 0 < s) (h3 : s < 8388608) (w : World) :
    Calls Tryz.prog 44 #[.int .i64 32, .int .i64 (-s)] w fun e w' => e = .returned (.tuple #[.agg #[.bool true, .int .u64 s, .int .i64 (-149)], .bool true]) ∧ Below w.heap.size w w' := by
  have k1 : -2139095040 ≤ (-s) := by omega
  have k2 : (-s) ≤ 2139095040 := by omega
  have r1 : s % 8388608 = s := by omega
  have r2 : s / 8388608 = 0 := by omega
  have t1 : ((-s) == 2139095040) = false := by simp; omega
  have t3 : ((-s) == -2139095040) = false := by simp; omega
  have t2 : decide ((-s) < 0) = true := by simp; omega
  have t4 : decide (-2139095040 ≤ (-s)) = true := by simp; omega
  have t5 : decide ((-s) ≤ 2139095040) = true := by simp; omega
  go_enter Tryz.func44, Tryz.ntmps44
  go_wp2
  exact bodyPost_ret (v := .tuple #[.agg #[.bool true, .int .u64 s, .int .i64 (-149)], .bool true]) (by simp [results, Tryz.results44, go_sem]) rfl ⟨rfl, (by repeat (first | exact Below.refl _ _ | refine Below.drew ?_ | refine Below.setCell ?_ (by simp) _ | refine old_alloc ?_ _ | refine old_trans ?_ (by assumption)))⟩

set_option maxHeartbeats 1000000 in
theorem sPart_32_neg_common (s : Int) (ex q : Int) (h0 : 0 ≤ q) (h3 : q < 8388608) (h4 : 1 ≤ ex) (h5 : s = 8388608 * ex + q) (h6 : s < 2139095040) (w : World) :
    Calls Tryz.prog 44 #[.int .i64 32, .int .i64 (-s)] w fun e w' => e = .returned (.tuple #[.agg #[.bool true, .int .u64 (8388608 + q), .int .i64 (-149 + (ex - 1))], .bool true]) ∧ Below w.heap.size w w' := by
  have k1 : -2139095040 ≤ (-s) := by omega
  have k2 : (-s) ≤ 2139095040 := by omega
  have r1 : s % 8388608 = q := by omega
  have r2 : s / 8388608 = ex := by omega
  have b1 : 0 ≤ s := by omega
  have b2 : s < 2139095040 := by omega
  have b3 : ex ≤ 255 := by omega
  have f1 : Hid (q + 8388608 = 8388608 + q) := by show _ = _; omega
  have f2 : Hid (-149 + ex - 1 = -149 + (ex - 1)) := by show _ = _; omega
  clear h5
  have t1 : ((-s) == 2139095040) = false := by simp; omega
  have t3 : ((-s) == -2139095040) = false := by simp; omega
  have t2 : decide ((-s) < 0) = true := by simp; omega
  have t4 : decide (-2139095040 ≤ (-s)) = true := by simp; omega
  have t5 : decide ((-s) ≤ 2139095040) = true := by simp; omega
  go_enter Tryz.func44, Tryz.ntmps44
  go_wp2
  exact bodyPost_ret (v := .tuple #[.agg #[.bool true, .int .u64 (8388608 + q), .int .i64 (-149 + (ex - 1))], .bool true]) (by simp [results, Tryz.results44, go_sem]; exact ⟨f1.out, f2.out⟩) rfl ⟨rfl, (by repeat (first | exact Below.refl _ _ | refine Below.drew ?_ | refine Below.setCell ?_ (by simp) _ | refine old_alloc ?_ _ | refine old_trans ?_ (by assumption)))⟩

set_option maxHeartbeats 1000000 in
theorem sPart_64_pos_small (s : Int) (h0 : 0 ≤ s) (h3 : s < 4503599627370496) (w : World) :
    Calls Tryz.prog 44 #[.int .i64 64, .int .i64 s] w fun e w' => e = .returned (.tuple #[.agg #[.bool false, .int .u64 s, .int .i64 (-1074)], .bool true]) ∧ Below w.heap.size w w' := by
  have k1 : -9218868437227405312 ≤ s := by omega
  have k2 : s ≤ 9218868437227405312 := by omega
  have r1 : s % 4503599627370496 = s := by omega
  have r2 : s / 4503599627370496 = 0 := by omega
  have t1 : (s == 9218868437227405312) = false := by simp; omega
  have t3 : (s == -9218868437227405312) = false := by simp; omega
  have t2 : decide (s < 0) = false := by simp; omega
  have t4 : decide (-9218868437227405312 ≤ s) = true := by simp; omega
  have t5 : decide (s ≤ 9218868437227405312) = true := by simp; omega
  go_enter Tryz.func44, Tryz.ntmps44
  go_wp2
  exact bodyPost_ret (v := .tuple #[.agg #[.bool false, .int .u64 s, .int .i64 (-1074)], .bool true]) (by simp [results, Tryz.results44, go_sem]) rfl ⟨rfl, (by repeat (first | exact Below.refl _ _ | refine Below.drew ?_ | refine Below.setCell ?_ (by simp) _ | refine old_alloc ?_ _ | refine old_trans ?_ (by assumption)))⟩

set_option maxHeartbeats 1000000 in
theorem sPart_64_pos_common (s : Int) (ex q : Int) (h0 : 0 ≤ q) (h3 : q < 4503599627370496) (h4 : 1 ≤ ex) (h5 : s = 4503599627370496 * ex + q) (h6 : s < 9218868437227405312) (w : World) :
    Calls Tryz.prog 44 #[.int .i64 64, .int .i64 s] w fun e w' => e = .returned (.tuple #[.agg #[.bool false, .int .u64 (4503599627370496 + q), .int .i64 (-1074 + (ex - 1))], .bool true]) ∧ Below w.heap.size w w' := by
  have k1 : -9218868437227405312 ≤ s := by omega
  have k2 : s ≤ 9218868437227405312 := by omega
  have r1 : s % 4503599627370496 = q := by omega
  have r2 : s / 4503599627370496 = ex := by omega
  have b1 : 0 ≤ s := by omega
  have b2 : s < 9218868437227405312 := by omega
  have b3 : ex ≤ 2047 := by omega
  have f1 : Hid (q + 4503599627370496 = 4503599627370496 + q) := by show _ = _; omega
  have f2 : Hid (-1074 + ex - 1 = -1074 + (ex - 1)) := by show _ = _; omega
  clear h5
  have t1 : (s == 9218868437227405312) = false := by simp; omega
  have t3 : (s == -9218868437227405312) = false := by simp; omega
  have t2 : decide (s < 0) = false := by simp; omega
  have t4 : decide (-9218868437227405312 ≤ s) = true := by simp; omega
  have t5 : decide (s ≤ 9218868437227405312) = true := by simp; omega
  go_enter Tryz.func44, Tryz.ntmps44
  go_wp2
  exact bodyPost_ret (v := .tuple #[.agg #[.bool false, .int .u64 (4503599627370496 + q), .int .i64 (-1074 + (ex - 1))], .bool true]) (by simp [results, Tryz.results44, go_sem]; exact ⟨f1.out, f2.out⟩) rfl ⟨rfl, (by repeat (first | exact Below.refl _ _ | refine Below.drew ?_ | refine Below.setCell ?_ (by simp) _ | refine old_alloc ?_ _ | refine old_trans ?_ (by assumption)))⟩

set_option maxHeartbeats 1000000 in
theorem sPart_64_neg_small (s : Int) (h0 : 0 < s) (h3 : s < 4503599627370496) (w : World) :
    Calls Tryz.prog 44 #[.int .i64 64, .int .i64 (-s)] w fun e w' => e = .returned (.tuple #[.agg #[.bool true, .int .u64 s, .int .i64 (-1074)], .bool true]) ∧ Below w.heap.size w w' := by
  have k1 : -9218868437227405312 ≤ (-s) := by omega
  have k2 : (-s) ≤ 9218868437227405312 := by omega
  have r1 : s % 4503599627370496 = s := by omega
  have r2 : s / 4503599627370496 = 0 := by omega
  have t1 : ((-s) == 9218868437227405312) = false := by simp; omega
  have t3 : ((-s) == -9218868437227405312) = false := by simp; omega
  have t2 : decide ((-s) < 0) = true := by simp; omega
  have t4 : decide (-9218868437227405312 ≤ (-s)) = true := by simp; omega
  have t5 : decide ((-s) ≤ 9218868437227405312) = true := by simp; omega
  go_enter Tryz.func44, Tryz.ntmps44
  go_wp2
  exact bodyPost_ret (v := .tuple #[.agg #[.bool true, .int .u64 s, .int .i64 (-1074)], .bool true]) (by simp [results, Tryz.results44, go_sem]) rfl ⟨rfl, (by repeat (first | exact Below.refl _ _ | refine Below.drew ?_ | refine Below.setCell ?_ (by simp) _ | refine old_alloc ?_ _ | refine old_trans ?_ (by assumption)))⟩

set_option maxHeartbeats 1000000 in
theorem sPart_64_neg_common (s : Int) (ex q : Int) (h0 : 0 ≤ q) (h3 : q < 4503599627370496) (h4 : 1 ≤ ex) (h5 : s = 4503599627370496 * ex + q) (h6 : s < 9218868437227405312) (w : World) :
    Calls Tryz.prog 44 #[.int .i64 64, .int .i64 (-s)] w fun e w' => e = .returned (.tuple #[.agg #[.bool true, .int .u64 (4503599627370496 + q), .int .i64 (-1074 + (ex - 1))], .bool true]) ∧ Below w.heap.size w w' := by
  have k1 : -9218868437227405312 ≤ (-s) := by omega
  have k2 : (-s) ≤ 9218868437227405312 := by omega
  have r1 : s % 4503599627370496 = q := by omega
  have r2 : s / 4503599627370496 = ex := by omega
  have b1 : 0 ≤ s := by omega
  have b2 : s < 9218868437227405312 := by omega
  have b3 : ex ≤ 2047 := by omega
  have f1 : Hid (q + 4503599627370496 = 4503599627370496 + q) := by show _ = _; omega
  have f2 : Hid (-1074 + ex - 1 = -1074 + (ex - 1)) := by show _ = _; omega
  clear h5
  have t1 : ((-s) == 9218868437227405312) = false := by simp; omega
  have t3 : ((-s) == -9218868437227405312) = false := by simp; omega
  have t2 : decide ((-s) < 0) = true := by simp; omega
  have t4 : decide (-9218868437227405312 ≤ (-s)) = true := by simp; omega
  have t5 : decide ((-s) ≤ 9218868437227405312) = true := by simp; omega
  go_enter Tryz.func44, Tryz.ntmps44
  go_wp2
  exact bodyPost_ret (v := .tuple #[.agg #[.bool true, .int .u64 (4503599627370496 + q), .int .i64 (-1074 + (ex - 1))], .bool true]) (by simp [results, Tryz.results44, go_sem]; exact ⟨f1.out, f2.out⟩) rfl ⟨rfl, (by repeat (first | exact Below.refl _ _ | refine Below.drew ?_ | refine Below.setCell ?_ (by simp) _ | refine old_alloc ?_ _ | refine old_trans ?_ (by assumption)))⟩
end Go.Proofs.YtgoffjpfddmhhaaGreatDoor

/- Contracts of BitPartOf, of the program and of the specification, at every argument: one closed form for both; nothing that was there is written. -/
namespace Go.Proofs.YtgoffjpfddmhhaaGreatDoor
open Go.RowKit

def absI (n : Int) : Int := if n < 0 then -n else n
def partV (U L n : Int) : Value := .tuple #[.agg #[.bool (decide (n < 0)), .int .u64 (pSize U (absI n)), .int .i64 (pPow U L (absI n))], .bool true]
def partNo : Value := .tuple #[.agg #[.bool false, .int .u64 0, .int .i64 0], .bool false]

set_option maxHeartbeats 800000 in
theorem iPart_32_out (n : Int) (h : ¬ (-2139095040 ≤ n ∧ n ≤ 2139095040)) (w : World) :
    Calls Tryz.prog 38 #[.int .i64 32, .int .i64 n] w fun e w' => e = .returned (partNo) ∧ Below w.heap.size w w' := by
  go_enter Tryz.func38, Tryz.ntmps38
  go_wp2_with (go_at_call 66; refine (formWith_32_out _ _ h).mono ?_; rintro e w1 ⟨rfl, hb1⟩; obtain ⟨hc, hf⟩ := bcell hb1; obtain ⟨z0, z1, z2, z3, z4, z5⟩ := bsize hb1)
  exact bodyPost_ret (v := partNo) (by simp [results, Tryz.results38, go_sem, partNo, hc]) rfl ⟨rfl, (by repeat (first | exact Below.refl _ _ | refine Below.drew ?_ | refine Below.setCell ?_ (by simp) _ | refine old_alloc ?_ _ | refine old_trans ?_ (by assumption)))⟩

set_option maxHeartbeats 800000 in
theorem sPart_32_out (n : Int) (h : ¬ (-2139095040 ≤ n ∧ n ≤ 2139095040)) (w : World) :
    Calls Tryz.prog 44 #[.int .i64 32, .int .i64 n] w fun e w' => e = .returned (partNo) ∧ Below w.heap.size w w' := by
  go_enter Tryz.func44, Tryz.ntmps44
  go_wp2_with (go_at_call 17; refine (sBitOk_32_out _ _ h).mono ?_; rintro e w1 ⟨rfl, hb1⟩; obtain ⟨hc, hf⟩ := bcell hb1; obtain ⟨z0, z1, z2, z3, z4, z5⟩ := bsize hb1)
  exact bodyPost_ret (v := partNo) (by simp [results, Tryz.results44, go_sem, partNo, hc]) rfl ⟨rfl, (by repeat (first | exact Below.refl _ _ | refine Below.drew ?_ | refine Below.setCell ?_ (by simp) _ | refine old_alloc ?_ _ | refine old_trans ?_ (by assumption)))⟩

set_option maxHeartbeats 800000 in
theorem iPart_32_top  (w : World) :
    Calls Tryz.prog 38 #[.int .i64 32, .int .i64 2139095040] w fun e w' => e = .returned (partNo) ∧ Below w.heap.size w w' := by
  have m0 := meth_top_32
  go_enter Tryz.func38, Tryz.ntmps38
  go_wp2_with (first | (go_at_call 66; refine (formWith_32 _ _ (by decide) (by decide)).mono ?_; rintro e w1 ⟨rfl, hb1⟩; obtain ⟨hc, hf⟩ := bcell hb1; obtain ⟨z0, z1, z2, z3, z4, z5⟩ := bsize hb1) | go_in)
  exact bodyPost_ret (v := partNo) (by simp [results, Tryz.results38, go_sem, partNo, hc, z0]) rfl ⟨rfl, (by repeat (first | exact Below.refl _ _ | refine Below.drew ?_ | refine Below.setCell ?_ (by simp) _ | refine old_alloc ?_ _ | refine old_trans ?_ (by assumption)))⟩

set_option maxHeartbeats 800000 in
theorem sPart_32_top  (w : World) :
    Calls Tryz.prog 44 #[.int .i64 32, .int .i64 2139095040] w fun e w' => e = .returned (partNo) ∧ Below w.heap.size w w' := by
  go_enter Tryz.func44, Tryz.ntmps44
  go_wp2
  exact bodyPost_ret (v := partNo) (by simp [results, Tryz.results44, go_sem, partNo]) rfl ⟨rfl, (by repeat (first | exact Below.refl _ _ | refine Below.drew ?_ | refine Below.setCell ?_ (by simp) _ | refine old_alloc ?_ _ | refine old_trans ?_ (by assumption)))⟩

set_option maxHeartbeats 800000 in
theorem iPart_32_bot  (w : World) :
    Calls Tryz.prog 38 #[.int .i64 32, .int .i64 (-2139095040)] w fun e w' => e = .returned (partNo) ∧ Below w.heap.size w w' := by
  have m0 := meth_top_32
  go_enter Tryz.func38, Tryz.ntmps38
  go_wp2_with (first | (go_at_call 66; refine (formWith_32 _ _ (by decide) (by decide)).mono ?_; rintro e w1 ⟨rfl, hb1⟩; obtain ⟨hc, hf⟩ := bcell hb1; obtain ⟨z0, z1, z2, z3, z4, z5⟩ := bsize hb1) | go_in)
  exact bodyPost_ret (v := partNo) (by simp [results, Tryz.results38, go_sem, partNo, hc, z0]) rfl ⟨rfl, (by repeat (first | exact Below.refl _ _ | refine Below.drew ?_ | refine Below.setCell ?_ (by simp) _ | refine old_alloc ?_ _ | refine old_trans ?_ (by assumption)))⟩

set_option maxHeartbeats 800000 in
theorem sPart_32_bot  (w : World) :
    Calls Tryz.prog 44 #[.int .i64 32, .int .i64 (-2139095040)] w fun e w' => e = .returned (partNo) ∧ Below w.heap.size w w' := by
  go_enter Tryz.func44, Tryz.ntmps44
  go_wp2
  exact bodyPost_ret (v := partNo) (by simp [results, Tryz.results44, go_sem, partNo]) rfl ⟨rfl, (by repeat (first | exact Below.refl _ _ | refine Below.drew ?_ | refine Below.setCell ?_ (by simp) _ | refine old_alloc ?_ _ | refine old_trans ?_ (by assumption)))⟩

theorem iPart_32 (n : Int) (h1 : -2139095040 < n) (h2 : n < 2139095040) (w : World) :
    Calls Tryz.prog 38 #[.int .i64 32, .int .i64 n] w fun e w' => e = .returned (partV 8388608 (-149) n) ∧ Below w.heap.size w w' := by
  by_cases hn : n < 0
  · have e1 : absI n = -n := by unfold absI; rw [if_pos hn]
    have e2 : decide (n < 0) = true := by simp; omega
    unfold partV
    rw [e1, e2]
    obtain ⟨s, rfl⟩ : ∃ s, n = -s := ⟨-n, by omega⟩
    rw [Int.neg_neg]
    by_cases hs : s < 8388608
    · have e3 : pSize 8388608 s = s := by unfold pSize; rw [if_pos hs]
      have e4 : pPow 8388608 (-149) s = (-149) := by unfold pPow; rw [if_pos hs]
      rw [e3, e4]
      exact iPart_32_neg_small s (by omega) hs w
    · have e3 : pSize 8388608 s = 8388608 + s % 8388608 := by unfold pSize; rw [if_neg hs]
      have e4 : pPow 8388608 (-149) s = (-149) + (s / 8388608 - 1) := by unfold pPow; rw [if_neg hs]
      rw [e3, e4]
      exact iPart_32_neg_common s (s / 8388608) (s % 8388608) (by omega) (by omega) (by omega) (by omega) (by omega) w
  · have e1 : absI n = n := by unfold absI; rw [if_neg hn]
    have e2 : decide (n < 0) = false := by simp; omega
    unfold partV
    rw [e1, e2]
    by_cases hs : n < 8388608
    · have e3 : pSize 8388608 n = n := by unfold pSize; rw [if_pos hs]
      have e4 : pPow 8388608 (-149) n = (-149) := by unfold pPow; rw [if_pos hs]
      rw [e3, e4]
      exact iPart_32_pos_small n (by omega) hs w
    · have e3 : pSize 8388608 n = 8388608 + n % 8388608 := by unfold pSize; rw [if_neg hs]
      have e4 : pPow 8388608 (-149) n = (-149) + (n / 8388608 - 1) := by unfold pPow; rw [if_neg hs]
      rw [e3, e4]
      exact iPart_32_pos_common n (n / 8388608) (n % 8388608) (by omega) (by omega) (by omega) (by omega) (by omega) w
theorem iPart_32_not (n : Int) (h : ¬ (-2139095040 < n ∧ n < 2139095040)) (w : World) :
    Calls Tryz.prog 38 #[.int .i64 32, .int .i64 n] w fun e w' => e = .returned partNo ∧ Below w.heap.size w w' := by
  by_cases c1 : n = 2139095040
  · subst c1; exact iPart_32_top w
  by_cases c2 : n = -2139095040
  · subst c2; exact iPart_32_bot w
  exact iPart_32_out n (by omega) w

theorem sPart_32 (n : Int) (h1 : -2139095040 < n) (h2 : n < 2139095040) (w : World) :
    Calls Tryz.prog 44 #[.int .i64 32, .int .i64 n] w fun e w' => e = .returned (partV 8388608 (-149) n) ∧ Below w.heap.size w w' := by
  by_cases hn : n < 0
  · have e1 : absI n = -n := by unfold absI; rw [if_pos hn]
    have e2 : decide (n < 0) = true := by simp; omega
    unfold partV
    rw [e1, e2]
    obtain ⟨s, rfl⟩ : ∃ s, n = -s := ⟨-n, by omega⟩
    rw [Int.neg_neg]
    by_cases hs : s < 8388608
    · have e3 : pSize 8388608 s = s := by unfold pSize; rw [if_pos hs]
      have e4 : pPow 8388608 (-149) s = (-149) := by unfold pPow; rw [if_pos hs]
      rw [e3, e4]
      exact sPart_32_neg_small s (by omega) hs w
    · have e3 : pSize 8388608 s = 8388608 + s % 8388608 := by unfold pSize; rw [if_neg hs]
      have e4 : pPow 8388608 (-149) s = (-149) + (s / 8388608 - 1) := by unfold pPow; rw [if_neg hs]
      rw [e3, e4]
      exact sPart_32_neg_common s (s / 8388608) (s % 8388608) (by omega) (by omega) (by omega) (by omega) (by omega) w
  · have e1 : absI n = n := by unfold absI; rw [if_neg hn]
    have e2 : decide (n < 0) = false := by simp; omega
    unfold partV
    rw [e1, e2]
    by_cases hs : n < 8388608
    · have e3 : pSize 8388608 n = n := by unfold pSize; rw [if_pos hs]
      have e4 : pPow 8388608 (-149) n = (-149) := by unfold pPow; rw [if_pos hs]
      rw [e3, e4]
      exact sPart_32_pos_small n (by omega) hs w
    · have e3 : pSize 8388608 n = 8388608 + n % 8388608 := by unfold pSize; rw [if_neg hs]
      have e4 : pPow 8388608 (-149) n = (-149) + (n / 8388608 - 1) := by unfold pPow; rw [if_neg hs]
      rw [e3, e4]
      exact sPart_32_pos_common n (n / 8388608) (n % 8388608) (by omega) (by omega) (by omega) (by omega) (by omega) w
theorem sPart_32_not (n : Int) (h : ¬ (-2139095040 < n ∧ n < 2139095040)) (w : World) :
    Calls Tryz.prog 44 #[.int .i64 32, .int .i64 n] w fun e w' => e = .returned partNo ∧ Below w.heap.size w w' := by
  by_cases c1 : n = 2139095040
  · subst c1; exact sPart_32_top w
  by_cases c2 : n = -2139095040
  · subst c2; exact sPart_32_bot w
  exact sPart_32_out n (by omega) w

set_option maxHeartbeats 800000 in
theorem iPart_64_out (n : Int) (h : ¬ (-9218868437227405312 ≤ n ∧ n ≤ 9218868437227405312)) (w : World) :
    Calls Tryz.prog 38 #[.int .i64 64, .int .i64 n] w fun e w' => e = .returned (partNo) ∧ Below w.heap.size w w' := by
  go_enter Tryz.func38, Tryz.ntmps38
  go_wp2_with (go_at_call 66; refine (formWith_64_out _ _ h).mono ?_; rintro e w1 ⟨rfl, hb1⟩; obtain ⟨hc, hf⟩ := bcell hb1; obtain ⟨z0, z1, z2, z3, z4, z5⟩ := bsize hb1)
  exact bodyPost_ret (v := partNo) (by simp [results, Tryz.results38, go_sem, partNo, hc]) rfl ⟨rfl, (by repeat (first | exact Below.refl _ _ | refine Below.drew ?_ | refine Below.setCell ?_ (by simp) _ | refine old_alloc ?_ _ | refine old_trans ?_ (by assumption)))⟩

set_option maxHeartbeats 800000 in
theorem sPart_64_out (n : Int) (h : ¬ (-9218868437227405312 ≤ n ∧ n ≤ 9218868437227405312)) (w : World) :
    Calls Tryz.prog 44 #[.int .i64 64, .int .i64 n] w fun e w' => e = .returned (partNo) ∧ Below w.heap.size w w' := by
  go_enter Tryz.func44, Tryz.ntmps44
  go_wp2_with (go_at_call 17; refine (sBitOk_64_out _ _ h).mono ?_; rintro e w1 ⟨rfl, hb1⟩; obtain ⟨hc, hf⟩ := bcell hb1; obtain ⟨z0, z1, z2, z3, z4, z5⟩ := bsize hb1)
  exact bodyPost_ret (v := partNo) (by simp [results, Tryz.results44, go_sem, partNo, hc]) rfl ⟨rfl, (by repeat (first | exact Below.refl _ _ | refine Below.drew ?_ | refine Below.setCell ?_ (by simp) _ | refine old_alloc ?_ _ | refine old_trans ?_ (by assumption)))⟩

set_option maxHeartbeats 800000 in
theorem iPart_64_top  (w : World) :
    Calls Tryz.prog 38 #[.int .i64 64, .int .i64 9218868437227405312] w fun e w' => e = .returned (partNo) ∧ Below w.heap.size w w' := by
  have m0 := meth_top_64
  go_enter Tryz.func38, Tryz.ntmps38
  go_wp2_with (first | (go_at_call 66; refine (formWith_64 _ _ (by decide) (by decide)).mono ?_; rintro e w1 ⟨rfl, hb1⟩; obtain ⟨hc, hf⟩ := bcell hb1; obtain ⟨z0, z1, z2, z3, z4, z5⟩ := bsize hb1) | go_in)
  exact bodyPost_ret (v := partNo) (by simp [results, Tryz.results38, go_sem, partNo, hc, z0]) rfl ⟨rfl, (by repeat (first | exact Below.refl _ _ | refine Below.drew ?_ | refine Below.setCell ?_ (by simp) _ | refine old_alloc ?_ _ | refine old_trans ?_ (by assumption)))⟩

set_option maxHeartbeats 800000 in
theorem sPart_64_top  (w : World) :
    Calls Tryz.prog 44 #[.int .i64 64, .int .i64 9218868437227405312] w fun e w' => e = .returned (partNo) ∧ Below w.heap.size w w' := by
  go_enter Tryz.func44, Tryz.ntmps44
  go_wp2
  exact bodyPost_ret (v := partNo) (by simp [results, Tryz.results44, go_sem, partNo]) rfl ⟨rfl, (by repeat (first | exact Below.refl _ _ | refine Below.drew ?_ | refine Below.setCell ?_ (by simp) _ | refine old_alloc ?_ _ | refine old_trans ?_ (by assumption)))⟩

set_option maxHeartbeats 800000 in
theorem iPart_64_bot  (w : World) :
    Calls Tryz.prog 38 #[.int .i64 64, .int .i64 (-9218868437227405312)] w fun e w' => e = .returned (partNo) ∧ Below w.heap.size w w' := by
  have m0 := meth_top_64
  go_enter Tryz.func38, Tryz.ntmps38
  go_wp2_with (first | (go_at_call 66; refine (formWith_64 _ _ (by decide) (by decide)).mono ?_; rintro e w1 ⟨rfl, hb1⟩; obtain ⟨hc, hf⟩ := bcell hb1; obtain ⟨z0, z1, z2, z3, z4, z5⟩ := bsize hb1) | go_in)
  exact bodyPost_ret (v := partNo) (by simp [results, Tryz.results38, go_sem, partNo, hc, z0]) rfl ⟨rfl, (by repeat (first | exact Below.refl _ _ | refine Below.drew ?_ | refine Below.setCell ?_ (by simp) _ | refine old_alloc ?_ _ | refine old_trans ?_ (by assumption)))⟩

set_option maxHeartbeats 800000 in
theorem sPart_64_bot  (w : World) :
    Calls Tryz.prog 44 #[.int .i64 64, .int .i64 (-9218868437227405312)] w fun e w' => e = .returned (partNo) ∧ Below w.heap.size w w' := by
  go_enter Tryz.func44, Tryz.ntmps44
  go_wp2
  exact bodyPost_ret (v := partNo) (by simp [results, Tryz.results44, go_sem, partNo]) rfl ⟨rfl, (by repeat (first | exact Below.refl _ _ | refine Below.drew ?_ | refine Below.setCell ?_ (by simp) _ | refine old_alloc ?_ _ | refine old_trans ?_ (by assumption)))⟩

theorem iPart_64 (n : Int) (h1 : -9218868437227405312 < n) (h2 : n < 9218868437227405312) (w : World) :
    Calls Tryz.prog 38 #[.int .i64 64, .int .i64 n] w fun e w' => e = .returned (partV 4503599627370496 (-1074) n) ∧ Below w.heap.size w w' := by
  by_cases hn : n < 0
  · have e1 : absI n = -n := by unfold absI; rw [if_pos hn]
    have e2 : decide (n < 0) = true := by simp; omega
    unfold partV
    rw [e1, e2]
    obtain ⟨s, rfl⟩ : ∃ s, n = -s := ⟨-n, by omega⟩
    rw [Int.neg_neg]
    by_cases hs : s < 4503599627370496
    · have e3 : pSize 4503599627370496 s = s := by unfold pSize; rw [if_pos hs]
      have e4 : pPow 4503599627370496 (-1074) s = (-1074) := by unfold pPow; rw [if_pos hs]
      rw [e3, e4]
      exact iPart_64_neg_small s (by omega) hs w
    · have e3 : pSize 4503599627370496 s = 4503599627370496 + s % 4503599627370496 := by unfold pSize; rw [if_neg hs]
      have e4 : pPow 4503599627370496 (-1074) s = (-1074) + (s / 4503599627370496 - 1) := by unfold pPow; rw [if_neg hs]
      rw [e3, e4]
      exact iPart_64_neg_common s (s / 4503599627370496) (s % 4503599627370496) (by omega) (by omega) (by omega) (by omega) (by omega) w
  · have e1 : absI n = n := by unfold absI; rw [if_neg hn]
    have e2 : decide (n < 0) = false := by simp; omega
    unfold partV
    rw [e1, e2]
    by_cases hs : n < 4503599627370496
    · have e3 : pSize 4503599627370496 n = n := by unfold pSize; rw [if_pos hs]
      have e4 : pPow 4503599627370496 (-1074) n = (-1074) := by unfold pPow; rw [if_pos hs]
      rw [e3, e4]
      exact iPart_64_pos_small n (by omega) hs w
    · have e3 : pSize 4503599627370496 n = 4503599627370496 + n % 4503599627370496 := by unfold pSize; rw [if_neg hs]
      have e4 : pPow 4503599627370496 (-1074) n = (-1074) + (n / 4503599627370496 - 1) := by unfold pPow; rw [if_neg hs]
      rw [e3, e4]
      exact iPart_64_pos_common n (n / 4503599627370496) (n % 4503599627370496) (by omega) (by omega) (by omega) (by omega) (by omega) w
theorem iPart_64_not (n : Int) (h : ¬ (-9218868437227405312 < n ∧ n < 9218868437227405312)) (w : World) :
    Calls Tryz.prog 38 #[.int .i64 64, .int .i64 n] w fun e w' => e = .returned partNo ∧ Below w.heap.size w w' := by
  by_cases c1 : n = 9218868437227405312
  · subst c1; exact iPart_64_top w
  by_cases c2 : n = -9218868437227405312
  · subst c2; exact iPart_64_bot w
  exact iPart_64_out n (by omega) w

theorem sPart_64 (n : Int) (h1 : -9218868437227405312 < n) (h2 : n < 9218868437227405312) (w : World) :
    Calls Tryz.prog 44 #[.int .i64 64, .int .i64 n] w fun e w' => e = .returned (partV 4503599627370496 (-1074) n) ∧ Below w.heap.size w w' := by
  by_cases hn : n < 0
  · have e1 : absI n = -n := by unfold absI; rw [if_pos hn]
    have e2 : decide (n < 0) = true := by simp; omega
    unfold partV
    rw [e1, e2]
    obtain ⟨s, rfl⟩ : ∃ s, n = -s := ⟨-n, by omega⟩
    rw [Int.neg_neg]
    by_cases hs : s < 4503599627370496
    · have e3 : pSize 4503599627370496 s = s := by unfold pSize; rw [if_pos hs]
      have e4 : pPow 4503599627370496 (-1074) s = (-1074) := by unfold pPow; rw [if_pos hs]
      rw [e3, e4]
      exact sPart_64_neg_small s (by omega) hs w
    · have e3 : pSize 4503599627370496 s = 4503599627370496 + s % 4503599627370496 := by unfold pSize; rw [if_neg hs]
      have e4 : pPow 4503599627370496 (-1074) s = (-1074) + (s / 4503599627370496 - 1) := by unfold pPow; rw [if_neg hs]
      rw [e3, e4]
      exact sPart_64_neg_common s (s / 4503599627370496) (s % 4503599627370496) (by omega) (by omega) (by omega) (by omega) (by omega) w
  · have e1 : absI n = n := by unfold absI; rw [if_neg hn]
    have e2 : decide (n < 0) = false := by simp; omega
    unfold partV
    rw [e1, e2]
    by_cases hs : n < 4503599627370496
    · have e3 : pSize 4503599627370496 n = n := by unfold pSize; rw [if_pos hs]
      have e4 : pPow 4503599627370496 (-1074) n = (-1074) := by unfold pPow; rw [if_pos hs]
      rw [e3, e4]
      exact sPart_64_pos_small n (by omega) hs w
    · have e3 : pSize 4503599627370496 n = 4503599627370496 + n % 4503599627370496 := by unfold pSize; rw [if_neg hs]
      have e4 : pPow 4503599627370496 (-1074) n = (-1074) + (n / 4503599627370496 - 1) := by unfold pPow; rw [if_neg hs]
      rw [e3, e4]
      exact sPart_64_pos_common n (n / 4503599627370496) (n % 4503599627370496) (by omega) (by omega) (by omega) (by omega) (by omega) w
theorem sPart_64_not (n : Int) (h : ¬ (-9218868437227405312 < n ∧ n < 9218868437227405312)) (w : World) :
    Calls Tryz.prog 44 #[.int .i64 64, .int .i64 n] w fun e w' => e = .returned partNo ∧ Below w.heap.size w w' := by
  by_cases c1 : n = 9218868437227405312
  · subst c1; exact sPart_64_top w
  by_cases c2 : n = -9218868437227405312
  · subst c2; exact sPart_64_bot w
  exact sPart_64_out n (by omega) w

set_option maxHeartbeats 800000 in
theorem iPart_no (wd n : Int) (g1 : wd ≠ 32) (g2 : wd ≠ 64) (w : World) :
    Calls Tryz.prog 38 #[.int .i64 wd, .int .i64 n] w fun e w' => e = .returned (partNo) ∧ Below w.heap.size w w' := by
  go_enter Tryz.func38, Tryz.ntmps38
  go_wp2_with (go_at_call 66; refine (formWith_no wd _ _ g1 g2).mono ?_; rintro e w1 ⟨rfl, hb1⟩; obtain ⟨hc, hf⟩ := bcell hb1; obtain ⟨z0, z1, z2, z3, z4, z5⟩ := bsize hb1)
  exact bodyPost_ret (v := partNo) (by simp [results, Tryz.results38, go_sem, partNo, hc]) rfl ⟨rfl, (by repeat (first | exact Below.refl _ _ | refine Below.drew ?_ | refine Below.setCell ?_ (by simp) _ | refine old_alloc ?_ _ | refine old_trans ?_ (by assumption)))⟩

set_option maxHeartbeats 800000 in
theorem sPart_no (wd n : Int) (g1 : wd ≠ 32) (g2 : wd ≠ 64) (w : World) :
    Calls Tryz.prog 44 #[.int .i64 wd, .int .i64 n] w fun e w' => e = .returned (partNo) ∧ Below w.heap.size w w' := by
  go_enter Tryz.func44, Tryz.ntmps44
  go_wp2_with (go_at_call 17; refine (sBitOk_no wd _ _ g1 g2).mono ?_; rintro e w1 ⟨rfl, hb1⟩; obtain ⟨hc, hf⟩ := bcell hb1; obtain ⟨z0, z1, z2, z3, z4, z5⟩ := bsize hb1)
  exact bodyPost_ret (v := partNo) (by simp [results, Tryz.results44, go_sem, partNo, hc]) rfl ⟨rfl, (by repeat (first | exact Below.refl _ _ | refine Below.drew ?_ | refine Below.setCell ?_ (by simp) _ | refine old_alloc ?_ _ | refine old_trans ?_ (by assumption)))⟩
end Go.Proofs.YtgoffjpfddmhhaaGreatDoor

/- Contracts of BitOrd, of the program and of the specification: both answer the same; nothing that was there is written. -/
namespace Go.Proofs.YtgoffjpfddmhhaaGreatDoor
open Go.RowKit


set_option maxHeartbeats 800000 in
theorem iBitOrd_64 (b : Int) (h1 : 0 ≤ b) (h2 : b < 18446744073709551616) (w : World) :
    Calls Tryz.prog 159 #[.int .i64 64, .int .u64 b] w fun e w' => e = .returned (.tuple #[.int .i64 (ordN 9223372036854775808 9218868437227405312 b), .bool (ordB 9223372036854775808 9218868437227405312 b)]) ∧ Below w.heap.size w w' := by
  have m0 := meth_sign_64
  have m1 := meth_top_64
  have ha := andNot_64 b h1 h2
  go_enter Tryz.func159, Tryz.ntmps159
  go_wp2_with (first | (go_at_call 36; refine (formOf_64 _).mono ?_; rintro e w1 ⟨rfl, hb1⟩) | (go_at_call 66; refine (formWith_64 _ _ h1 h2).mono ?_; rintro e w1 ⟨rfl, hb1⟩) | go_in)
  all_goals
    go_ret2
    refine ⟨ret_ib ?_ ?_, (by repeat (first | exact Below.refl _ _ | refine Below.drew ?_ | refine old_alloc ?_ _ | refine old_trans ?_ (by assumption)))⟩
    all_goals try simp only [ne_eq, bne_iff_ne, bne_eq_false_iff_eq] at *
    · unfold ordN; (repeat' split) <;> omega
    · unfold ordB; first | (symm; apply decide_eq_true; omega) | (symm; apply decide_eq_false; omega)

end Go.Proofs.YtgoffjpfddmhhaaGreatDoor

/- BitTop, BitOk and PairOk of the program and of the specification, for every width at once; nothing that was there is written. -/
namespace Go.Proofs.YtgoffjpfddmhhaaGreatDoor
open Go.RowKit


theorem iTop (wd : Int) (w : World) :
    Calls Tryz.prog 11 #[.int .i64 wd] w fun e w' => e = .returned (.int .i64 (topI wd)) ∧ Below w.heap.size w w' := by
  by_cases c1 : wd = 32
  · subst c1; exact iBitTop_32 w
  by_cases c2 : wd = 64
  · subst c2; exact iBitTop_64 w
  rw [topI_no c1 c2]; exact iBitTop_no wd w c1 c2
theorem sTopR (wd : Int) (w : World) :
    Calls Tryz.prog 47 #[.int .i64 wd] w fun e w' => e = .returned (.int .i64 (topI wd)) ∧ w' = w := by
  by_cases c1 : wd = 32
  · subst c1; exact sBitTop_32 w
  by_cases c2 : wd = 64
  · subst c2; exact sBitTop_64 w
  rw [topI_no c1 c2]; exact sBitTop_no wd w c1 c2
theorem sOk (wd n : Int) (w : World) :
    Calls Tryz.prog 17 #[.int .i64 wd, .int .i64 n] w fun e w' => e = .returned (.bool (okB wd n)) ∧ Below w.heap.size w w' := by
  by_cases c1 : wd = 32
  · subst c1; rw [okB_32]
    by_cases h : -2139095040 ≤ n ∧ n ≤ 2139095040
    · rw [decide_eq_true h]; exact sBitOk_32 n w h.1 h.2
    · rw [decide_eq_false h]; exact sBitOk_32_out n w h
  by_cases c2 : wd = 64
  · subst c2; rw [okB_64]
    by_cases h : -9218868437227405312 ≤ n ∧ n ≤ 9218868437227405312
    · rw [decide_eq_true h]; exact sBitOk_64 n w h.1 h.2
    · rw [decide_eq_false h]; exact sBitOk_64_out n w h
  rw [okB_no n c1 c2]; exact sBitOk_no wd n w c1 c2

end Go.Proofs.YtgoffjpfddmhhaaGreatDoor
