/- The contract of the program's BitPartOf at width 64, finite floats: sign, size and power; nothing that was there is written. -/
import Derived.Test.YtpjababikpakoaaGreatDoorW2
import Derived.Test.YtpjababikpakoaaGreatDoorF2
namespace Go.Proofs.YtpjababikpakoaaGreatDoor
open Go.RowKit


set_option maxHeartbeats 1000000 in
theorem iPart_64_pos_small (s : Int) (h0 : 0 ≤ s) (h3 : s < 4503599627370496) (w : World) :
    Calls Tryz.prog 44 #[.int .i64 64, .int .i64 s] w fun e w' => e = .returned (.tuple #[.agg #[.bool false, .int .u64 s, .int .i64 (-1074)], .bool true]) ∧ Below w.heap.size w w' := by
  have k1 : -9218868437227405312 ≤ s := by omega
  have k2 : s ≤ 9218868437227405312 := by omega
  have r1 : bits .and .i64 s 4503599627370495 = s := by rw [mask_64 s (by omega) (by omega)]; omega
  have r2 : s / 4503599627370496 = 0 := by omega
  have m1 := meth_top_64
  have m2 := meth_fraction_64
  have m3 := meth_least_64
  have t1 : (s == 9218868437227405312) = false := by simp; omega
  have t2 : decide (s < 0) = false := by simp; omega
  go_enter Tryz.func44, Tryz.ntmps44
  go_wp2_with (first | (go_at_call 85; refine (formWith_64 _ _ k1 k2).mono ?_; rintro e w1 ⟨rfl, hb1⟩; obtain ⟨hc, hf⟩ := bcell hb1; obtain ⟨z0, z1, z2, z3, z4, z5⟩ := bsize hb1) | go_in)
  exact bodyPost_ret (v := .tuple #[.agg #[.bool false, .int .u64 s, .int .i64 (-1074)], .bool true]) (by simp [results, Tryz.results44, go_sem, hc, z0, z1, z2, z3, z4]) rfl ⟨rfl, (by repeat (first | exact Below.refl _ _ | refine Below.drew ?_ | refine Below.setCell ?_ (by simp) _ | refine old_alloc ?_ _ | refine old_trans ?_ (by assumption)))⟩

set_option maxHeartbeats 1000000 in
theorem iPart_64_pos_common (s : Int) (ex q : Int) (h0 : 0 ≤ q) (h3 : q < 4503599627370496) (h4 : 1 ≤ ex) (h5 : s = 4503599627370496 * ex + q) (h6 : s < 9218868437227405312) (w : World) :
    Calls Tryz.prog 44 #[.int .i64 64, .int .i64 s] w fun e w' => e = .returned (.tuple #[.agg #[.bool false, .int .u64 (4503599627370496 + q), .int .i64 (-1074 + (ex - 1))], .bool true]) ∧ Below w.heap.size w w' := by
  have k1 : -9218868437227405312 ≤ s := by omega
  have k2 : s ≤ 9218868437227405312 := by omega
  have r1 : bits .and .i64 s 4503599627370495 = q := by rw [mask_64 s (by omega) (by omega)]; omega
  have r2 : s / 4503599627370496 = ex := by omega
  have r3 := hid_64 q h0 h3
  have b1 : 0 ≤ s := by omega
  have b2 : s < 9218868437227405312 := by omega
  have b3 : ex ≤ 2047 := by omega
  clear h5
  have m1 := meth_top_64
  have m2 := meth_fraction_64
  have m3 := meth_least_64
  have t1 : (s == 9218868437227405312) = false := by simp; omega
  have t2 : decide (s < 0) = false := by simp; omega
  go_enter Tryz.func44, Tryz.ntmps44
  go_wp2_with (first | (go_at_call 85; refine (formWith_64 _ _ k1 k2).mono ?_; rintro e w1 ⟨rfl, hb1⟩; obtain ⟨hc, hf⟩ := bcell hb1; obtain ⟨z0, z1, z2, z3, z4, z5⟩ := bsize hb1) | go_in)
  exact bodyPost_ret (v := .tuple #[.agg #[.bool false, .int .u64 (4503599627370496 + q), .int .i64 (-1074 + (ex - 1))], .bool true]) (by simp [results, Tryz.results44, go_sem, hc, z0, z1, z2, z3, z4]) rfl ⟨rfl, (by repeat (first | exact Below.refl _ _ | refine Below.drew ?_ | refine Below.setCell ?_ (by simp) _ | refine old_alloc ?_ _ | refine old_trans ?_ (by assumption)))⟩

set_option maxHeartbeats 1000000 in
theorem iPart_64_neg_small (s : Int) (h0 : 0 < s) (h3 : s < 4503599627370496) (w : World) :
    Calls Tryz.prog 44 #[.int .i64 64, .int .i64 (-s)] w fun e w' => e = .returned (.tuple #[.agg #[.bool true, .int .u64 s, .int .i64 (-1074)], .bool true]) ∧ Below w.heap.size w w' := by
  have k1 : -9218868437227405312 ≤ (-s) := by omega
  have k2 : (-s) ≤ 9218868437227405312 := by omega
  have r1 : bits .and .i64 s 4503599627370495 = s := by rw [mask_64 s (by omega) (by omega)]; omega
  have r2 : s / 4503599627370496 = 0 := by omega
  have m1 := meth_top_64
  have m2 := meth_fraction_64
  have m3 := meth_least_64
  have t1 : (s == 9218868437227405312) = false := by simp; omega
  have t2 : decide ((-s) < 0) = true := by simp; omega
  go_enter Tryz.func44, Tryz.ntmps44
  go_wp2_with (first | (go_at_call 85; refine (formWith_64 _ _ k1 k2).mono ?_; rintro e w1 ⟨rfl, hb1⟩; obtain ⟨hc, hf⟩ := bcell hb1; obtain ⟨z0, z1, z2, z3, z4, z5⟩ := bsize hb1) | go_in)
  exact bodyPost_ret (v := .tuple #[.agg #[.bool true, .int .u64 s, .int .i64 (-1074)], .bool true]) (by simp [results, Tryz.results44, go_sem, hc, z0, z1, z2, z3, z4]) rfl ⟨rfl, (by repeat (first | exact Below.refl _ _ | refine Below.drew ?_ | refine Below.setCell ?_ (by simp) _ | refine old_alloc ?_ _ | refine old_trans ?_ (by assumption)))⟩

set_option maxHeartbeats 1000000 in
theorem iPart_64_neg_common (s : Int) (ex q : Int) (h0 : 0 ≤ q) (h3 : q < 4503599627370496) (h4 : 1 ≤ ex) (h5 : s = 4503599627370496 * ex + q) (h6 : s < 9218868437227405312) (w : World) :
    Calls Tryz.prog 44 #[.int .i64 64, .int .i64 (-s)] w fun e w' => e = .returned (.tuple #[.agg #[.bool true, .int .u64 (4503599627370496 + q), .int .i64 (-1074 + (ex - 1))], .bool true]) ∧ Below w.heap.size w w' := by
  have k1 : -9218868437227405312 ≤ (-s) := by omega
  have k2 : (-s) ≤ 9218868437227405312 := by omega
  have r1 : bits .and .i64 s 4503599627370495 = q := by rw [mask_64 s (by omega) (by omega)]; omega
  have r2 : s / 4503599627370496 = ex := by omega
  have r3 := hid_64 q h0 h3
  have b1 : 0 ≤ s := by omega
  have b2 : s < 9218868437227405312 := by omega
  have b3 : ex ≤ 2047 := by omega
  clear h5
  have m1 := meth_top_64
  have m2 := meth_fraction_64
  have m3 := meth_least_64
  have t1 : (s == 9218868437227405312) = false := by simp; omega
  have t2 : decide ((-s) < 0) = true := by simp; omega
  go_enter Tryz.func44, Tryz.ntmps44
  go_wp2_with (first | (go_at_call 85; refine (formWith_64 _ _ k1 k2).mono ?_; rintro e w1 ⟨rfl, hb1⟩; obtain ⟨hc, hf⟩ := bcell hb1; obtain ⟨z0, z1, z2, z3, z4, z5⟩ := bsize hb1) | go_in)
  exact bodyPost_ret (v := .tuple #[.agg #[.bool true, .int .u64 (4503599627370496 + q), .int .i64 (-1074 + (ex - 1))], .bool true]) (by simp [results, Tryz.results44, go_sem, hc, z0, z1, z2, z3, z4]) rfl ⟨rfl, (by repeat (first | exact Below.refl _ _ | refine Below.drew ?_ | refine Below.setCell ?_ (by simp) _ | refine old_alloc ?_ _ | refine old_trans ?_ (by assumption)))⟩
end Go.Proofs.YtpjababikpakoaaGreatDoor
