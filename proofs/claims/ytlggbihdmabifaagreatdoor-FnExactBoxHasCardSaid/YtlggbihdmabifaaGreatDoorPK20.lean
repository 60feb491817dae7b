/- The contract of the specification's BitPartOf at finite floats: sign, size and power; nothing that was there is written. -/
import Derived.Test.YtlggbihdmabifaaGreatDoorPK01
import Derived.Test.YtlggbihdmabifaaGreatDoorPK19
import Derived.WalkKit
import Derived.Laws.BitsAllLaws
namespace Go.Proofs.YtlggbihdmabifaaGreatDoor
open Go.RowKit


set_option maxHeartbeats 1000000 in
theorem sPart_32_pos_small (s : Int) (h0 : 0 ≤ s) (h3 : s < 8388608) (w : World) :
    Calls Tryz.prog 46 #[.int .i64 32, .int .i64 s] w fun e w' => e = .returned (.tuple #[.agg #[.bool false, .int .u64 s, .int .i64 (-149)], .bool true]) ∧ Below w.heap.size w w' := by
  have k1 : -2139095040 ≤ s := by omega
  have k2 : s ≤ 2139095040 := by omega
  have r1 : s % 8388608 = s := by omega
  have r2 : s / 8388608 = 0 := by omega
  have t1 : (s == 2139095040) = false := by simp; omega
  have t3 : (s == -2139095040) = false := by simp; omega
  have t2 : decide (s < 0) = false := by simp; omega
  have t4 : decide (-2139095040 ≤ s) = true := by simp; omega
  have t5 : decide (s ≤ 2139095040) = true := by simp; omega
  go_enter Tryz.func46, Tryz.ntmps46
  go_wp2
  exact bodyPost_ret (v := .tuple #[.agg #[.bool false, .int .u64 s, .int .i64 (-149)], .bool true]) (by simp [results, Tryz.results46, go_sem]) rfl ⟨rfl, (by repeat (first | exact Below.refl _ _ | refine Below.drew ?_ | refine Below.setCell ?_ (by simp) _ | refine old_alloc ?_ _ | refine old_trans ?_ (by assumption)))⟩

set_option maxHeartbeats 1000000 in
theorem sPart_32_pos_common (s : Int) (ex q : Int) (h0 : 0 ≤ q) (h3 : q < 8388608) (h4 : 1 ≤ ex) (h5 : s = 8388608 * ex + q) (h6 : s < 2139095040) (w : World) :
    Calls Tryz.prog 46 #[.int .i64 32, .int .i64 s] w fun e w' => e = .returned (.tuple #[.agg #[.bool false, .int .u64 (8388608 + q), .int .i64 (-149 + (ex - 1))], .bool true]) ∧ Below w.heap.size w w' := by
  have k1 : -2139095040 ≤ s := by omega
  have k2 : s ≤ 2139095040 := by omega
  have r1 : s % 8388608 = q := by omega
  have r2 : s / 8388608 = ex := by omega
  have b1 : 0 ≤ s := by omega
  have b2 : s < 2139095040 := by omega
  have b3 : ex ≤ 255 := by omega
  have f1 : Hid (q + 8388608 = 8388608 + q) := by show _ = _; omega
  have f2 : Hid (-149 + ex - 1 = -149 + (ex - 1)) := by show _ = _; omega
  clear h5
  have t1 : (s == 2139095040) = false := by simp; omega
  have t3 : (s == -2139095040) = false := by simp; omega
  have t2 : decide (s < 0) = false := by simp; omega
  have t4 : decide (-2139095040 ≤ s) = true := by simp; omega
  have t5 : decide (s ≤ 2139095040) = true := by simp; omega
  go_enter Tryz.func46, Tryz.ntmps46
  go_wp2
  exact bodyPost_ret (v := .tuple #[.agg #[.bool false, .int .u64 (8388608 + q), .int .i64 (-149 + (ex - 1))], .bool true]) (by simp [results, Tryz.results46, go_sem]; exact ⟨f1.out, f2.out⟩) rfl ⟨rfl, (by repeat (first | exact Below.refl _ _ | refine Below.drew ?_ | refine Below.setCell ?_ (by simp) _ | refine old_alloc ?_ _ | refine old_trans ?_ (by assumption)))⟩

set_option maxHeartbeats 1000000 in
theorem sPart_32_neg_small (s : Int) (h0 : 0 < s) (h3 : s < 8388608) (w : World) :
    Calls Tryz.prog 46 #[.int .i64 32, .int .i64 (-s)] w fun e w' => e = .returned (.tuple #[.agg #[.bool true, .int .u64 s, .int .i64 (-149)], .bool true]) ∧ Below w.heap.size w w' := by
  have k1 : -2139095040 ≤ (-s) := by omega
  have k2 : (-s) ≤ 2139095040 := by omega
  have r1 : s % 8388608 = s := by omega
  have r2 : s / 8388608 = 0 := by omega
  have t1 : ((-s) == 2139095040) = false := by simp; omega
  have t3 : ((-s) == -2139095040) = false := by simp; omega
  have t2 : decide ((-s) < 0) = true := by simp; omega
  have t4 : decide (-2139095040 ≤ (-s)) = true := by simp; omega
  have t5 : decide ((-s) ≤ 2139095040) = true := by simp; omega
  go_enter Tryz.func46, Tryz.ntmps46
  go_wp2
  exact bodyPost_ret (v := .tuple #[.agg #[.bool true, .int .u64 s, .int .i64 (-149)], .bool true]) (by simp [results, Tryz.results46, go_sem]) rfl ⟨rfl, (by repeat (first | exact Below.refl _ _ | refine Below.drew ?_ | refine Below.setCell ?_ (by simp) _ | refine old_alloc ?_ _ | refine old_trans ?_ (by assumption)))⟩

set_option maxHeartbeats 1000000 in
theorem sPart_32_neg_common (s : Int) (ex q : Int) (h0 : 0 ≤ q) (h3 : q < 8388608) (h4 : 1 ≤ ex) (h5 : s = 8388608 * ex + q) (h6 : s < 2139095040) (w : World) :
    Calls Tryz.prog 46 #[.int .i64 32, .int .i64 (-s)] w fun e w' => e = .returned (.tuple #[.agg #[.bool true, .int .u64 (8388608 + q), .int .i64 (-149 + (ex - 1))], .bool true]) ∧ Below w.heap.size w w' := by
  have k1 : -2139095040 ≤ (-s) := by omega
  have k2 : (-s) ≤ 2139095040 := by omega
  have r1 : s % 8388608 = q := by omega
  have r2 : s / 8388608 = ex := by omega
  have b1 : 0 ≤ s := by omega
  have b2 : s < 2139095040 := by omega
  have b3 : ex ≤ 255 := by omega
  have f1 : Hid (q + 8388608 = 8388608 + q) := by show _ = _; omega
  have f2 : Hid (-149 + ex - 1 = -149 + (ex - 1)) := by show _ = _; omega
  clear h5
  have t1 : ((-s) == 2139095040) = false := by simp; omega
  have t3 : ((-s) == -2139095040) = false := by simp; omega
  have t2 : decide ((-s) < 0) = true := by simp; omega
  have t4 : decide (-2139095040 ≤ (-s)) = true := by simp; omega
  have t5 : decide ((-s) ≤ 2139095040) = true := by simp; omega
  go_enter Tryz.func46, Tryz.ntmps46
  go_wp2
  exact bodyPost_ret (v := .tuple #[.agg #[.bool true, .int .u64 (8388608 + q), .int .i64 (-149 + (ex - 1))], .bool true]) (by simp [results, Tryz.results46, go_sem]; exact ⟨f1.out, f2.out⟩) rfl ⟨rfl, (by repeat (first | exact Below.refl _ _ | refine Below.drew ?_ | refine Below.setCell ?_ (by simp) _ | refine old_alloc ?_ _ | refine old_trans ?_ (by assumption)))⟩

set_option maxHeartbeats 1000000 in
theorem sPart_64_pos_small (s : Int) (h0 : 0 ≤ s) (h3 : s < 4503599627370496) (w : World) :
    Calls Tryz.prog 46 #[.int .i64 64, .int .i64 s] w fun e w' => e = .returned (.tuple #[.agg #[.bool false, .int .u64 s, .int .i64 (-1074)], .bool true]) ∧ Below w.heap.size w w' := by
  have k1 : -9218868437227405312 ≤ s := by omega
  have k2 : s ≤ 9218868437227405312 := by omega
  have r1 : s % 4503599627370496 = s := by omega
  have r2 : s / 4503599627370496 = 0 := by omega
  have t1 : (s == 9218868437227405312) = false := by simp; omega
  have t3 : (s == -9218868437227405312) = false := by simp; omega
  have t2 : decide (s < 0) = false := by simp; omega
  have t4 : decide (-9218868437227405312 ≤ s) = true := by simp; omega
  have t5 : decide (s ≤ 9218868437227405312) = true := by simp; omega
  go_enter Tryz.func46, Tryz.ntmps46
  go_wp2
  exact bodyPost_ret (v := .tuple #[.agg #[.bool false, .int .u64 s, .int .i64 (-1074)], .bool true]) (by simp [results, Tryz.results46, go_sem]) rfl ⟨rfl, (by repeat (first | exact Below.refl _ _ | refine Below.drew ?_ | refine Below.setCell ?_ (by simp) _ | refine old_alloc ?_ _ | refine old_trans ?_ (by assumption)))⟩

set_option maxHeartbeats 1000000 in
theorem sPart_64_pos_common (s : Int) (ex q : Int) (h0 : 0 ≤ q) (h3 : q < 4503599627370496) (h4 : 1 ≤ ex) (h5 : s = 4503599627370496 * ex + q) (h6 : s < 9218868437227405312) (w : World) :
    Calls Tryz.prog 46 #[.int .i64 64, .int .i64 s] w fun e w' => e = .returned (.tuple #[.agg #[.bool false, .int .u64 (4503599627370496 + q), .int .i64 (-1074 + (ex - 1))], .bool true]) ∧ Below w.heap.size w w' := by
  have k1 : -9218868437227405312 ≤ s := by omega
  have k2 : s ≤ 9218868437227405312 := by omega
  have r1 : s % 4503599627370496 = q := by omega
  have r2 : s / 4503599627370496 = ex := by omega
  have b1 : 0 ≤ s := by omega
  have b2 : s < 9218868437227405312 := by omega
  have b3 : ex ≤ 2047 := by omega
  have f1 : Hid (q + 4503599627370496 = 4503599627370496 + q) := by show _ = _; omega
  have f2 : Hid (-1074 + ex - 1 = -1074 + (ex - 1)) := by show _ = _; omega
  clear h5
  have t1 : (s == 9218868437227405312) = false := by simp; omega
  have t3 : (s == -9218868437227405312) = false := by simp; omega
  have t2 : decide (s < 0) = false := by simp; omega
  have t4 : decide (-9218868437227405312 ≤ s) = true := by simp; omega
  have t5 : decide (s ≤ 9218868437227405312) = true := by simp; omega
  go_enter Tryz.func46, Tryz.ntmps46
  go_wp2
  exact bodyPost_ret (v := .tuple #[.agg #[.bool false, .int .u64 (4503599627370496 + q), .int .i64 (-1074 + (ex - 1))], .bool true]) (by simp [results, Tryz.results46, go_sem]; exact ⟨f1.out, f2.out⟩) rfl ⟨rfl, (by repeat (first | exact Below.refl _ _ | refine Below.drew ?_ | refine Below.setCell ?_ (by simp) _ | refine old_alloc ?_ _ | refine old_trans ?_ (by assumption)))⟩

set_option maxHeartbeats 1000000 in
theorem sPart_64_neg_small (s : Int) (h0 : 0 < s) (h3 : s < 4503599627370496) (w : World) :
    Calls Tryz.prog 46 #[.int .i64 64, .int .i64 (-s)] w fun e w' => e = .returned (.tuple #[.agg #[.bool true, .int .u64 s, .int .i64 (-1074)], .bool true]) ∧ Below w.heap.size w w' := by
  have k1 : -9218868437227405312 ≤ (-s) := by omega
  have k2 : (-s) ≤ 9218868437227405312 := by omega
  have r1 : s % 4503599627370496 = s := by omega
  have r2 : s / 4503599627370496 = 0 := by omega
  have t1 : ((-s) == 9218868437227405312) = false := by simp; omega
  have t3 : ((-s) == -9218868437227405312) = false := by simp; omega
  have t2 : decide ((-s) < 0) = true := by simp; omega
  have t4 : decide (-9218868437227405312 ≤ (-s)) = true := by simp; omega
  have t5 : decide ((-s) ≤ 9218868437227405312) = true := by simp; omega
  go_enter Tryz.func46, Tryz.ntmps46
  go_wp2
  exact bodyPost_ret (v := .tuple #[.agg #[.bool true, .int .u64 s, .int .i64 (-1074)], .bool true]) (by simp [results, Tryz.results46, go_sem]) rfl ⟨rfl, (by repeat (first | exact Below.refl _ _ | refine Below.drew ?_ | refine Below.setCell ?_ (by simp) _ | refine old_alloc ?_ _ | refine old_trans ?_ (by assumption)))⟩

set_option maxHeartbeats 1000000 in
theorem sPart_64_neg_common (s : Int) (ex q : Int) (h0 : 0 ≤ q) (h3 : q < 4503599627370496) (h4 : 1 ≤ ex) (h5 : s = 4503599627370496 * ex + q) (h6 : s < 9218868437227405312) (w : World) :
    Calls Tryz.prog 46 #[.int .i64 64, .int .i64 (-s)] w fun e w' => e = .returned (.tuple #[.agg #[.bool true, .int .u64 (4503599627370496 + q), .int .i64 (-1074 + (ex - 1))], .bool true]) ∧ Below w.heap.size w w' := by
  have k1 : -9218868437227405312 ≤ (-s) := by omega
  have k2 : (-s) ≤ 9218868437227405312 := by omega
  have r1 : s % 4503599627370496 = q := by omega
  have r2 : s / 4503599627370496 = ex := by omega
  have b1 : 0 ≤ s := by omega
  have b2 : s < 9218868437227405312 := by omega
  have b3 : ex ≤ 2047 := by omega
  have f1 : Hid (q + 4503599627370496 = 4503599627370496 + q) := by show _ = _; omega
  have f2 : Hid (-1074 + ex - 1 = -1074 + (ex - 1)) := by show _ = _; omega
  clear h5
  have t1 : ((-s) == 9218868437227405312) = false := by simp; omega
  have t3 : ((-s) == -9218868437227405312) = false := by simp; omega
  have t2 : decide ((-s) < 0) = true := by simp; omega
  have t4 : decide (-9218868437227405312 ≤ (-s)) = true := by simp; omega
  have t5 : decide ((-s) ≤ 9218868437227405312) = true := by simp; omega
  go_enter Tryz.func46, Tryz.ntmps46
  go_wp2
  exact bodyPost_ret (v := .tuple #[.agg #[.bool true, .int .u64 (4503599627370496 + q), .int .i64 (-1074 + (ex - 1))], .bool true]) (by simp [results, Tryz.results46, go_sem]; exact ⟨f1.out, f2.out⟩) rfl ⟨rfl, (by repeat (first | exact Below.refl _ _ | refine Below.drew ?_ | refine Below.setCell ?_ (by simp) _ | refine old_alloc ?_ _ | refine old_trans ?_ (by assumption)))⟩
end Go.Proofs.YtlggbihdmabifaaGreatDoor

/- Contracts of BitUp and BitDown, of the program and of the specification: both answer the same; nothing that was there is written. -/
namespace Go.Proofs.YtlggbihdmabifaaGreatDoor
open Go.RowKit


set_option maxHeartbeats 800000 in
theorem iBitOk_32 (n : Int) (h1 : -2139095040 ≤ n) (h2 : n ≤ 2139095040) (w : World) :
    Calls Tryz.prog 50 #[.int .i64 32, .int .i64 n] w fun e w' => e = .returned (.bool true) ∧ Below w.heap.size w w' := by
  go_enter Tryz.func50, Tryz.ntmps50
  go_wp2_with (go_at_call 62; refine (formWith_32 _ _ h1 h2).mono ?_; rintro e w1 ⟨rfl, hb1⟩)
  go_ret
  exact ⟨rfl, (by repeat (first | exact Below.refl _ _ | refine Below.drew ?_ | refine old_alloc ?_ _ | refine old_trans ?_ (by assumption)))⟩

set_option maxHeartbeats 800000 in
theorem iBitOk_32_out (n : Int) (h : ¬ (-2139095040 ≤ n ∧ n ≤ 2139095040)) (w : World) :
    Calls Tryz.prog 50 #[.int .i64 32, .int .i64 n] w fun e w' => e = .returned (.bool false) ∧ Below w.heap.size w w' := by
  go_enter Tryz.func50, Tryz.ntmps50
  go_wp2_with (go_at_call 62; refine (formWith_32_out _ _ h).mono ?_; rintro e w1 ⟨rfl, hb1⟩)
  go_ret
  exact ⟨rfl, (by repeat (first | exact Below.refl _ _ | refine Below.drew ?_ | refine old_alloc ?_ _ | refine old_trans ?_ (by assumption)))⟩

set_option maxHeartbeats 800000 in
theorem iBitOk_64 (n : Int) (h1 : -9218868437227405312 ≤ n) (h2 : n ≤ 9218868437227405312) (w : World) :
    Calls Tryz.prog 50 #[.int .i64 64, .int .i64 n] w fun e w' => e = .returned (.bool true) ∧ Below w.heap.size w w' := by
  go_enter Tryz.func50, Tryz.ntmps50
  go_wp2_with (go_at_call 62; refine (formWith_64 _ _ h1 h2).mono ?_; rintro e w1 ⟨rfl, hb1⟩)
  go_ret
  exact ⟨rfl, (by repeat (first | exact Below.refl _ _ | refine Below.drew ?_ | refine old_alloc ?_ _ | refine old_trans ?_ (by assumption)))⟩

set_option maxHeartbeats 800000 in
theorem iBitOk_64_out (n : Int) (h : ¬ (-9218868437227405312 ≤ n ∧ n ≤ 9218868437227405312)) (w : World) :
    Calls Tryz.prog 50 #[.int .i64 64, .int .i64 n] w fun e w' => e = .returned (.bool false) ∧ Below w.heap.size w w' := by
  go_enter Tryz.func50, Tryz.ntmps50
  go_wp2_with (go_at_call 62; refine (formWith_64_out _ _ h).mono ?_; rintro e w1 ⟨rfl, hb1⟩)
  go_ret
  exact ⟨rfl, (by repeat (first | exact Below.refl _ _ | refine Below.drew ?_ | refine old_alloc ?_ _ | refine old_trans ?_ (by assumption)))⟩

set_option maxHeartbeats 800000 in
theorem iBitOk_no (wd n : Int) (g1 : wd ≠ 32) (g2 : wd ≠ 64) (w : World) :
    Calls Tryz.prog 50 #[.int .i64 wd, .int .i64 n] w fun e w' => e = .returned (.bool false) ∧ Below w.heap.size w w' := by
  go_enter Tryz.func50, Tryz.ntmps50
  go_wp2_with (go_at_call 62; refine (formWith_no wd _ _ g1 g2).mono ?_; rintro e w1 ⟨rfl, hb1⟩)
  go_ret
  exact ⟨rfl, (by repeat (first | exact Below.refl _ _ | refine Below.drew ?_ | refine old_alloc ?_ _ | refine old_trans ?_ (by assumption)))⟩

end Go.Proofs.YtlggbihdmabifaaGreatDoor

/- Contracts of BitPartOf, of the program and of the specification, at every argument: one closed form for both; nothing that was there is written. -/
namespace Go.Proofs.YtlggbihdmabifaaGreatDoor
open Go.RowKit

def absI (n : Int) : Int := if n < 0 then -n else n
def partV (U L n : Int) : Value := .tuple #[.agg #[.bool (decide (n < 0)), .int .u64 (pSize U (absI n)), .int .i64 (pPow U L (absI n))], .bool true]
theorem sPart_32 (n : Int) (h1 : -2139095040 < n) (h2 : n < 2139095040) (w : World) :
    Calls Tryz.prog 46 #[.int .i64 32, .int .i64 n] w fun e w' => e = .returned (partV 8388608 (-149) n) ∧ Below w.heap.size w w' := by
  by_cases hn : n < 0
  · have e1 : absI n = -n := by unfold absI; rw [if_pos hn]
    have e2 : decide (n < 0) = true := by simp; omega
    unfold partV
    rw [e1, e2]
    obtain ⟨s, rfl⟩ : ∃ s, n = -s := ⟨-n, by omega⟩
    rw [Int.neg_neg]
    by_cases hs : s < 8388608
    · have e3 : pSize 8388608 s = s := by unfold pSize; rw [if_pos hs]
      have e4 : pPow 8388608 (-149) s = (-149) := by unfold pPow; rw [if_pos hs]
      rw [e3, e4]
      exact sPart_32_neg_small s (by omega) hs w
    · have e3 : pSize 8388608 s = 8388608 + s % 8388608 := by unfold pSize; rw [if_neg hs]
      have e4 : pPow 8388608 (-149) s = (-149) + (s / 8388608 - 1) := by unfold pPow; rw [if_neg hs]
      rw [e3, e4]
      exact sPart_32_neg_common s (s / 8388608) (s % 8388608) (by omega) (by omega) (by omega) (by omega) (by omega) w
  · have e1 : absI n = n := by unfold absI; rw [if_neg hn]
    have e2 : decide (n < 0) = false := by simp; omega
    unfold partV
    rw [e1, e2]
    by_cases hs : n < 8388608
    · have e3 : pSize 8388608 n = n := by unfold pSize; rw [if_pos hs]
      have e4 : pPow 8388608 (-149) n = (-149) := by unfold pPow; rw [if_pos hs]
      rw [e3, e4]
      exact sPart_32_pos_small n (by omega) hs w
    · have e3 : pSize 8388608 n = 8388608 + n % 8388608 := by unfold pSize; rw [if_neg hs]
      have e4 : pPow 8388608 (-149) n = (-149) + (n / 8388608 - 1) := by unfold pPow; rw [if_neg hs]
      rw [e3, e4]
      exact sPart_32_pos_common n (n / 8388608) (n % 8388608) (by omega) (by omega) (by omega) (by omega) (by omega) w
theorem sPart_64 (n : Int) (h1 : -9218868437227405312 < n) (h2 : n < 9218868437227405312) (w : World) :
    Calls Tryz.prog 46 #[.int .i64 64, .int .i64 n] w fun e w' => e = .returned (partV 4503599627370496 (-1074) n) ∧ Below w.heap.size w w' := by
  by_cases hn : n < 0
  · have e1 : absI n = -n := by unfold absI; rw [if_pos hn]
    have e2 : decide (n < 0) = true := by simp; omega
    unfold partV
    rw [e1, e2]
    obtain ⟨s, rfl⟩ : ∃ s, n = -s := ⟨-n, by omega⟩
    rw [Int.neg_neg]
    by_cases hs : s < 4503599627370496
    · have e3 : pSize 4503599627370496 s = s := by unfold pSize; rw [if_pos hs]
      have e4 : pPow 4503599627370496 (-1074) s = (-1074) := by unfold pPow; rw [if_pos hs]
      rw [e3, e4]
      exact sPart_64_neg_small s (by omega) hs w
    · have e3 : pSize 4503599627370496 s = 4503599627370496 + s % 4503599627370496 := by unfold pSize; rw [if_neg hs]
      have e4 : pPow 4503599627370496 (-1074) s = (-1074) + (s / 4503599627370496 - 1) := by unfold pPow; rw [if_neg hs]
      rw [e3, e4]
      exact sPart_64_neg_common s (s / 4503599627370496) (s % 4503599627370496) (by omega) (by omega) (by omega) (by omega) (by omega) w
  · have e1 : absI n = n := by unfold absI; rw [if_neg hn]
    have e2 : decide (n < 0) = false := by simp; omega
    unfold partV
    rw [e1, e2]
    by_cases hs : n < 4503599627370496
    · have e3 : pSize 4503599627370496 n = n := by unfold pSize; rw [if_pos hs]
      have e4 : pPow 4503599627370496 (-1074) n = (-1074) := by unfold pPow; rw [if_pos hs]
      rw [e3, e4]
      exact sPart_64_pos_small n (by omega) hs w
    · have e3 : pSize 4503599627370496 n = 4503599627370496 + n % 4503599627370496 := by unfold pSize; rw [if_neg hs]
      have e4 : pPow 4503599627370496 (-1074) n = (-1074) + (n / 4503599627370496 - 1) := by unfold pPow; rw [if_neg hs]
      rw [e3, e4]
      exact sPart_64_pos_common n (n / 4503599627370496) (n % 4503599627370496) (by omega) (by omega) (by omega) (by omega) (by omega) w
end Go.Proofs.YtlggbihdmabifaaGreatDoor

/- BitTop, BitOk and PairOk of the program and of the specification, for every width at once; nothing that was there is written. -/
namespace Go.Proofs.YtlggbihdmabifaaGreatDoor
open Go.RowKit


theorem iTop (wd : Int) (w : World) :
    Calls Tryz.prog 49 #[.int .i64 wd] w fun e w' => e = .returned (.int .i64 (topI wd)) ∧ Below w.heap.size w w' := by
  by_cases c1 : wd = 32
  · subst c1; exact iBitTop_32 w
  by_cases c2 : wd = 64
  · subst c2; exact iBitTop_64 w
  rw [topI_no c1 c2]; exact iBitTop_no wd w c1 c2
theorem sTopR (wd : Int) (w : World) :
    Calls Tryz.prog 27 #[.int .i64 wd] w fun e w' => e = .returned (.int .i64 (topI wd)) ∧ w' = w := by
  by_cases c1 : wd = 32
  · subst c1; exact sBitTop_32 w
  by_cases c2 : wd = 64
  · subst c2; exact sBitTop_64 w
  rw [topI_no c1 c2]; exact sBitTop_no wd w c1 c2
theorem iOk (wd n : Int) (w : World) :
    Calls Tryz.prog 50 #[.int .i64 wd, .int .i64 n] w fun e w' => e = .returned (.bool (okB wd n)) ∧ Below w.heap.size w w' := by
  by_cases c1 : wd = 32
  · subst c1; rw [okB_32]
    by_cases h : -2139095040 ≤ n ∧ n ≤ 2139095040
    · rw [decide_eq_true h]; exact iBitOk_32 n h.1 h.2 w
    · rw [decide_eq_false h]; exact iBitOk_32_out n h w
  by_cases c2 : wd = 64
  · subst c2; rw [okB_64]
    by_cases h : -9218868437227405312 ≤ n ∧ n ≤ 9218868437227405312
    · rw [decide_eq_true h]; exact iBitOk_64 n h.1 h.2 w
    · rw [decide_eq_false h]; exact iBitOk_64_out n h w
  rw [okB_no n c1 c2]; exact iBitOk_no wd n c1 c2 w
theorem sOk (wd n : Int) (w : World) :
    Calls Tryz.prog 40 #[.int .i64 wd, .int .i64 n] w fun e w' => e = .returned (.bool (okB wd n)) ∧ Below w.heap.size w w' := by
  by_cases c1 : wd = 32
  · subst c1; rw [okB_32]
    by_cases h : -2139095040 ≤ n ∧ n ≤ 2139095040
    · rw [decide_eq_true h]; exact sBitOk_32 n w h.1 h.2
    · rw [decide_eq_false h]; exact sBitOk_32_out n w h
  by_cases c2 : wd = 64
  · subst c2; rw [okB_64]
    by_cases h : -9218868437227405312 ≤ n ∧ n ≤ 9218868437227405312
    · rw [decide_eq_true h]; exact sBitOk_64 n w h.1 h.2
    · rw [decide_eq_false h]; exact sBitOk_64_out n w h
  rw [okB_no n c1 c2]; exact sBitOk_no wd n w c1 c2

set_option maxHeartbeats 800000 in
theorem iPairOk (wd lo hi : Int) (w : World) :
    Calls Tryz.prog 34 #[.int .i64 wd, .agg #[.int .i64 lo, .int .i64 hi]] w fun e w' => e = .returned (.bool (pokB wd lo hi)) ∧ Below w.heap.size w w' := by
  have c0 : (w.alloc (.cells #[.int .i64 lo, .int .i64 hi] 46)).cell? ⟨w.heap.size, 0, none⟩ = some (.int .i64 lo) := by simp
  have c1 : (w.alloc (.cells #[.int .i64 lo, .int .i64 hi] 46)).cell? ⟨w.heap.size, 1, none⟩ = some (.int .i64 hi) := by simp
  obtain ⟨T1, T2⟩ := topI_bd wd
  have H1 := hd (iOk wd lo)
  have H2 := hd (iOk wd hi)
  have H0 := hd (iTop wd)
  have hp : Hid (pokB wd lo hi = (okB wd lo && (okB wd hi && (decide (lo ≤ hi) && ((lo != topI wd) && (hi != -topI wd)))))) := rfl
  generalize topI wd = T at *
  generalize okB wd lo = b1 at *
  generalize okB wd hi = b2 at *
  generalize pokB wd lo hi = r at *
  go_enter Tryz.func34, Tryz.ntmps34
  go_wp2_with fail
  refine (H0.out _).mono ?_
  rintro e w1 ⟨rfl, hb1⟩
  replace c0 := cell_later hb1 c0
  replace c1 := cell_later hb1 c1
  go_wp2_with fail
  refine (H1.out _).mono ?_
  rintro e w2 ⟨rfl, hb2⟩
  replace c0 := cell_later hb2 c0
  replace c1 := cell_later hb2 c1
  cases b1
  · go_wp2
    go_ret
    exact ⟨ret_b (by rw [hp.out]; rfl), (by repeat (first | exact Below.refl _ _ | refine Below.drew ?_ | refine old_alloc ?_ _ | refine old_trans ?_ (by assumption)))⟩
  go_wp2_with fail
  refine (H2.out _).mono ?_
  rintro e w3 ⟨rfl, hb3⟩
  replace c0 := cell_later hb3 c0
  replace c1 := cell_later hb3 c1
  cases b2
  · go_wp2
    go_ret
    exact ⟨ret_b (by rw [hp.out]; rfl), (by repeat (first | exact Below.refl _ _ | refine Below.drew ?_ | refine old_alloc ?_ _ | refine old_trans ?_ (by assumption)))⟩
  by_cases t1 : lo ≤ hi
  · by_cases t2 : (lo != T) = true
    · go_wp2
      all_goals
        go_ret
        refine ⟨ret_b ?_, (by repeat (first | exact Below.refl _ _ | refine Below.drew ?_ | refine old_alloc ?_ _ | refine old_trans ?_ (by assumption)))⟩
        rw [hp.out]; simp [*]
    · replace t2 : (lo != T) = false := by simpa using t2
      go_wp2
      go_ret
      exact ⟨ret_b (by rw [hp.out, t2]; simp), (by repeat (first | exact Below.refl _ _ | refine Below.drew ?_ | refine old_alloc ?_ _ | refine old_trans ?_ (by assumption)))⟩
  · have t3 : decide (lo ≤ hi) = false := by simpa using t1
    go_wp2
    go_ret
    exact ⟨ret_b (by rw [hp.out, t3]; rfl), (by repeat (first | exact Below.refl _ _ | refine Below.drew ?_ | refine old_alloc ?_ _ | refine old_trans ?_ (by assumption)))⟩
end Go.Proofs.YtlggbihdmabifaaGreatDoor
