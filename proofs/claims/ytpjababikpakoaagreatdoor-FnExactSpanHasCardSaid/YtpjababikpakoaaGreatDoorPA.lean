/- Contracts of BitPartOf, of the program and of the specification, at every argument: one closed form for both; nothing that was there is written. -/
import Derived.Test.YtpjababikpakoaaGreatDoorP32
import Derived.Test.YtpjababikpakoaaGreatDoorP64
import Derived.Test.YtpjababikpakoaaGreatDoorSP
import Derived.Test.YtpjababikpakoaaGreatDoorW6
namespace Go.Proofs.YtpjababikpakoaaGreatDoor
open Go.RowKit

def absI (n : Int) : Int := if n < 0 then -n else n
def partV (U L n : Int) : Value := .tuple #[.agg #[.bool (decide (n < 0)), .int .u64 (pSize U (absI n)), .int .i64 (pPow U L (absI n))], .bool true]
def partNo : Value := .tuple #[.agg #[.bool false, .int .u64 0, .int .i64 0], .bool false]

set_option maxHeartbeats 800000 in
theorem iPart_32_out (n : Int) (h : ¬ (-2139095040 ≤ n ∧ n ≤ 2139095040)) (w : World) :
    Calls Tryz.prog 44 #[.int .i64 32, .int .i64 n] w fun e w' => e = .returned (partNo) ∧ Below w.heap.size w w' := by
  go_enter Tryz.func44, Tryz.ntmps44
  go_wp2_with (go_at_call 85; refine (formWith_32_out _ _ h).mono ?_; rintro e w1 ⟨rfl, hb1⟩; obtain ⟨hc, hf⟩ := bcell hb1; obtain ⟨z0, z1, z2, z3, z4, z5⟩ := bsize hb1)
  exact bodyPost_ret (v := partNo) (by simp [results, Tryz.results44, go_sem, partNo, hc]) rfl ⟨rfl, (by repeat (first | exact Below.refl _ _ | refine Below.drew ?_ | refine Below.setCell ?_ (by simp) _ | refine old_alloc ?_ _ | refine old_trans ?_ (by assumption)))⟩

set_option maxHeartbeats 800000 in
theorem sPart_32_out (n : Int) (h : ¬ (-2139095040 ≤ n ∧ n ≤ 2139095040)) (w : World) :
    Calls Tryz.prog 40 #[.int .i64 32, .int .i64 n] w fun e w' => e = .returned (partNo) ∧ Below w.heap.size w w' := by
  go_enter Tryz.func40, Tryz.ntmps40
  go_wp2_with (go_at_call 39; refine (sBitOk_32_out _ _ h).mono ?_; rintro e w1 ⟨rfl, hb1⟩; obtain ⟨hc, hf⟩ := bcell hb1; obtain ⟨z0, z1, z2, z3, z4, z5⟩ := bsize hb1)
  exact bodyPost_ret (v := partNo) (by simp [results, Tryz.results40, go_sem, partNo, hc]) rfl ⟨rfl, (by repeat (first | exact Below.refl _ _ | refine Below.drew ?_ | refine Below.setCell ?_ (by simp) _ | refine old_alloc ?_ _ | refine old_trans ?_ (by assumption)))⟩

set_option maxHeartbeats 800000 in
theorem iPart_32_top  (w : World) :
    Calls Tryz.prog 44 #[.int .i64 32, .int .i64 2139095040] w fun e w' => e = .returned (partNo) ∧ Below w.heap.size w w' := by
  have m0 := meth_top_32
  go_enter Tryz.func44, Tryz.ntmps44
  go_wp2_with (first | (go_at_call 85; refine (formWith_32 _ _ (by decide) (by decide)).mono ?_; rintro e w1 ⟨rfl, hb1⟩; obtain ⟨hc, hf⟩ := bcell hb1; obtain ⟨z0, z1, z2, z3, z4, z5⟩ := bsize hb1) | go_in)
  exact bodyPost_ret (v := partNo) (by simp [results, Tryz.results44, go_sem, partNo, hc, z0]) rfl ⟨rfl, (by repeat (first | exact Below.refl _ _ | refine Below.drew ?_ | refine Below.setCell ?_ (by simp) _ | refine old_alloc ?_ _ | refine old_trans ?_ (by assumption)))⟩

set_option maxHeartbeats 800000 in
theorem sPart_32_top  (w : World) :
    Calls Tryz.prog 40 #[.int .i64 32, .int .i64 2139095040] w fun e w' => e = .returned (partNo) ∧ Below w.heap.size w w' := by
  go_enter Tryz.func40, Tryz.ntmps40
  go_wp2
  exact bodyPost_ret (v := partNo) (by simp [results, Tryz.results40, go_sem, partNo]) rfl ⟨rfl, (by repeat (first | exact Below.refl _ _ | refine Below.drew ?_ | refine Below.setCell ?_ (by simp) _ | refine old_alloc ?_ _ | refine old_trans ?_ (by assumption)))⟩

set_option maxHeartbeats 800000 in
theorem iPart_32_bot  (w : World) :
    Calls Tryz.prog 44 #[.int .i64 32, .int .i64 (-2139095040)] w fun e w' => e = .returned (partNo) ∧ Below w.heap.size w w' := by
  have m0 := meth_top_32
  go_enter Tryz.func44, Tryz.ntmps44
  go_wp2_with (first | (go_at_call 85; refine (formWith_32 _ _ (by decide) (by decide)).mono ?_; rintro e w1 ⟨rfl, hb1⟩; obtain ⟨hc, hf⟩ := bcell hb1; obtain ⟨z0, z1, z2, z3, z4, z5⟩ := bsize hb1) | go_in)
  exact bodyPost_ret (v := partNo) (by simp [results, Tryz.results44, go_sem, partNo, hc, z0]) rfl ⟨rfl, (by repeat (first | exact Below.refl _ _ | refine Below.drew ?_ | refine Below.setCell ?_ (by simp) _ | refine old_alloc ?_ _ | refine old_trans ?_ (by assumption)))⟩

set_option maxHeartbeats 800000 in
theorem sPart_32_bot  (w : World) :
    Calls Tryz.prog 40 #[.int .i64 32, .int .i64 (-2139095040)] w fun e w' => e = .returned (partNo) ∧ Below w.heap.size w w' := by
  go_enter Tryz.func40, Tryz.ntmps40
  go_wp2
  exact bodyPost_ret (v := partNo) (by simp [results, Tryz.results40, go_sem, partNo]) rfl ⟨rfl, (by repeat (first | exact Below.refl _ _ | refine Below.drew ?_ | refine Below.setCell ?_ (by simp) _ | refine old_alloc ?_ _ | refine old_trans ?_ (by assumption)))⟩

theorem iPart_32 (n : Int) (h1 : -2139095040 < n) (h2 : n < 2139095040) (w : World) :
    Calls Tryz.prog 44 #[.int .i64 32, .int .i64 n] w fun e w' => e = .returned (partV 8388608 (-149) n) ∧ Below w.heap.size w w' := by
  by_cases hn : n < 0
  · have e1 : absI n = -n := by unfold absI; rw [if_pos hn]
    have e2 : decide (n < 0) = true := by simp; omega
    unfold partV
    rw [e1, e2]
    obtain ⟨s, rfl⟩ : ∃ s, n = -s := ⟨-n, by omega⟩
    rw [Int.neg_neg]
    by_cases hs : s < 8388608
    · have e3 : pSize 8388608 s = s := by unfold pSize; rw [if_pos hs]
      have e4 : pPow 8388608 (-149) s = (-149) := by unfold pPow; rw [if_pos hs]
      rw [e3, e4]
      exact iPart_32_neg_small s (by omega) hs w
    · have e3 : pSize 8388608 s = 8388608 + s % 8388608 := by unfold pSize; rw [if_neg hs]
      have e4 : pPow 8388608 (-149) s = (-149) + (s / 8388608 - 1) := by unfold pPow; rw [if_neg hs]
      rw [e3, e4]
      exact iPart_32_neg_common s (s / 8388608) (s % 8388608) (by omega) (by omega) (by omega) (by omega) (by omega) w
  · have e1 : absI n = n := by unfold absI; rw [if_neg hn]
    have e2 : decide (n < 0) = false := by simp; omega
    unfold partV
    rw [e1, e2]
    by_cases hs : n < 8388608
    · have e3 : pSize 8388608 n = n := by unfold pSize; rw [if_pos hs]
      have e4 : pPow 8388608 (-149) n = (-149) := by unfold pPow; rw [if_pos hs]
      rw [e3, e4]
      exact iPart_32_pos_small n (by omega) hs w
    · have e3 : pSize 8388608 n = 8388608 + n % 8388608 := by unfold pSize; rw [if_neg hs]
      have e4 : pPow 8388608 (-149) n = (-149) + (n / 8388608 - 1) := by unfold pPow; rw [if_neg hs]
      rw [e3, e4]
      exact iPart_32_pos_common n (n / 8388608) (n % 8388608) (by omega) (by omega) (by omega) (by omega) (by omega) w
theorem iPart_32_not (n : Int) (h : ¬ (-2139095040 < n ∧ n < 2139095040)) (w : World) :
    Calls Tryz.prog 44 #[.int .i64 32, .int .i64 n] w fun e w' => e = .returned partNo ∧ Below w.heap.size w w' := by
  by_cases c1 : n = 2139095040
  · subst c1; exact iPart_32_top w
  by_cases c2 : n = -2139095040
  · subst c2; exact iPart_32_bot w
  exact iPart_32_out n (by omega) w

theorem sPart_32 (n : Int) (h1 : -2139095040 < n) (h2 : n < 2139095040) (w : World) :
    Calls Tryz.prog 40 #[.int .i64 32, .int .i64 n] w fun e w' => e = .returned (partV 8388608 (-149) n) ∧ Below w.heap.size w w' := by
  by_cases hn : n < 0
  · have e1 : absI n = -n := by unfold absI; rw [if_pos hn]
    have e2 : decide (n < 0) = true := by simp; omega
    unfold partV
    rw [e1, e2]
    obtain ⟨s, rfl⟩ : ∃ s, n = -s := ⟨-n, by omega⟩
    rw [Int.neg_neg]
    by_cases hs : s < 8388608
    · have e3 : pSize 8388608 s = s := by unfold pSize; rw [if_pos hs]
      have e4 : pPow 8388608 (-149) s = (-149) := by unfold pPow; rw [if_pos hs]
      rw [e3, e4]
      exact sPart_32_neg_small s (by omega) hs w
    · have e3 : pSize 8388608 s = 8388608 + s % 8388608 := by unfold pSize; rw [if_neg hs]
      have e4 : pPow 8388608 (-149) s = (-149) + (s / 8388608 - 1) := by unfold pPow; rw [if_neg hs]
      rw [e3, e4]
      exact sPart_32_neg_common s (s / 8388608) (s % 8388608) (by omega) (by omega) (by omega) (by omega) (by omega) w
  · have e1 : absI n = n := by unfold absI; rw [if_neg hn]
    have e2 : decide (n < 0) = false := by simp; omega
    unfold partV
    rw [e1, e2]
    by_cases hs : n < 8388608
    · have e3 : pSize 8388608 n = n := by unfold pSize; rw [if_pos hs]
      have e4 : pPow 8388608 (-149) n = (-149) := by unfold pPow; rw [if_pos hs]
      rw [e3, e4]
      exact sPart_32_pos_small n (by omega) hs w
    · have e3 : pSize 8388608 n = 8388608 + n % 8388608 := by unfold pSize; rw [if_neg hs]
      have e4 : pPow 8388608 (-149) n = (-149) + (n / 8388608 - 1) := by unfold pPow; rw [if_neg hs]
      rw [e3, e4]
      exact sPart_32_pos_common n (n / 8388608) (n % 8388608) (by omega) (by omega) (by omega) (by omega) (by omega) w
theorem sPart_32_not (n : Int) (h : ¬ (-2139095040 < n ∧ n < 2139095040)) (w : World) :
    Calls Tryz.prog 40 #[.int .i64 32, .int .i64 n] w fun e w' => e = .returned partNo ∧ Below w.heap.size w w' := by
  by_cases c1 : n = 2139095040
  · subst c1; exact sPart_32_top w
  by_cases c2 : n = -2139095040
  · subst c2; exact sPart_32_bot w
  exact sPart_32_out n (by omega) w

set_option maxHeartbeats 800000 in
theorem iPart_64_out (n : Int) (h : ¬ (-9218868437227405312 ≤ n ∧ n ≤ 9218868437227405312)) (w : World) :
    Calls Tryz.prog 44 #[.int .i64 64, .int .i64 n] w fun e w' => e = .returned (partNo) ∧ Below w.heap.size w w' := by
  go_enter Tryz.func44, Tryz.ntmps44
  go_wp2_with (go_at_call 85; refine (formWith_64_out _ _ h).mono ?_; rintro e w1 ⟨rfl, hb1⟩; obtain ⟨hc, hf⟩ := bcell hb1; obtain ⟨z0, z1, z2, z3, z4, z5⟩ := bsize hb1)
  exact bodyPost_ret (v := partNo) (by simp [results, Tryz.results44, go_sem, partNo, hc]) rfl ⟨rfl, (by repeat (first | exact Below.refl _ _ | refine Below.drew ?_ | refine Below.setCell ?_ (by simp) _ | refine old_alloc ?_ _ | refine old_trans ?_ (by assumption)))⟩

set_option maxHeartbeats 800000 in
theorem sPart_64_out (n : Int) (h : ¬ (-9218868437227405312 ≤ n ∧ n ≤ 9218868437227405312)) (w : World) :
    Calls Tryz.prog 40 #[.int .i64 64, .int .i64 n] w fun e w' => e = .returned (partNo) ∧ Below w.heap.size w w' := by
  go_enter Tryz.func40, Tryz.ntmps40
  go_wp2_with (go_at_call 39; refine (sBitOk_64_out _ _ h).mono ?_; rintro e w1 ⟨rfl, hb1⟩; obtain ⟨hc, hf⟩ := bcell hb1; obtain ⟨z0, z1, z2, z3, z4, z5⟩ := bsize hb1)
  exact bodyPost_ret (v := partNo) (by simp [results, Tryz.results40, go_sem, partNo, hc]) rfl ⟨rfl, (by repeat (first | exact Below.refl _ _ | refine Below.drew ?_ | refine Below.setCell ?_ (by simp) _ | refine old_alloc ?_ _ | refine old_trans ?_ (by assumption)))⟩

set_option maxHeartbeats 800000 in
theorem iPart_64_top  (w : World) :
    Calls Tryz.prog 44 #[.int .i64 64, .int .i64 9218868437227405312] w fun e w' => e = .returned (partNo) ∧ Below w.heap.size w w' := by
  have m0 := meth_top_64
  go_enter Tryz.func44, Tryz.ntmps44
  go_wp2_with (first | (go_at_call 85; refine (formWith_64 _ _ (by decide) (by decide)).mono ?_; rintro e w1 ⟨rfl, hb1⟩; obtain ⟨hc, hf⟩ := bcell hb1; obtain ⟨z0, z1, z2, z3, z4, z5⟩ := bsize hb1) | go_in)
  exact bodyPost_ret (v := partNo) (by simp [results, Tryz.results44, go_sem, partNo, hc, z0]) rfl ⟨rfl, (by repeat (first | exact Below.refl _ _ | refine Below.drew ?_ | refine Below.setCell ?_ (by simp) _ | refine old_alloc ?_ _ | refine old_trans ?_ (by assumption)))⟩

set_option maxHeartbeats 800000 in
theorem sPart_64_top  (w : World) :
    Calls Tryz.prog 40 #[.int .i64 64, .int .i64 9218868437227405312] w fun e w' => e = .returned (partNo) ∧ Below w.heap.size w w' := by
  go_enter Tryz.func40, Tryz.ntmps40
  go_wp2
  exact bodyPost_ret (v := partNo) (by simp [results, Tryz.results40, go_sem, partNo]) rfl ⟨rfl, (by repeat (first | exact Below.refl _ _ | refine Below.drew ?_ | refine Below.setCell ?_ (by simp) _ | refine old_alloc ?_ _ | refine old_trans ?_ (by assumption)))⟩

set_option maxHeartbeats 800000 in
theorem iPart_64_bot  (w : World) :
    Calls Tryz.prog 44 #[.int .i64 64, .int .i64 (-9218868437227405312)] w fun e w' => e = .returned (partNo) ∧ Below w.heap.size w w' := by
  have m0 := meth_top_64
  go_enter Tryz.func44, Tryz.ntmps44
  go_wp2_with (first | (go_at_call 85; refine (formWith_64 _ _ (by decide) (by decide)).mono ?_; rintro e w1 ⟨rfl, hb1⟩; obtain ⟨hc, hf⟩ := bcell hb1; obtain ⟨z0, z1, z2, z3, z4, z5⟩ := bsize hb1) | go_in)
  exact bodyPost_ret (v := partNo) (by simp [results, Tryz.results44, go_sem, partNo, hc, z0]) rfl ⟨rfl, (by repeat (first | exact Below.refl _ _ | refine Below.drew ?_ | refine Below.setCell ?_ (by simp) _ | refine old_alloc ?_ _ | refine old_trans ?_ (by assumption)))⟩

set_option maxHeartbeats 800000 in
theorem sPart_64_bot  (w : World) :
    Calls Tryz.prog 40 #[.int .i64 64, .int .i64 (-9218868437227405312)] w fun e w' => e = .returned (partNo) ∧ Below w.heap.size w w' := by
  go_enter Tryz.func40, Tryz.ntmps40
  go_wp2
  exact bodyPost_ret (v := partNo) (by simp [results, Tryz.results40, go_sem, partNo]) rfl ⟨rfl, (by repeat (first | exact Below.refl _ _ | refine Below.drew ?_ | refine Below.setCell ?_ (by simp) _ | refine old_alloc ?_ _ | refine old_trans ?_ (by assumption)))⟩

theorem iPart_64 (n : Int) (h1 : -9218868437227405312 < n) (h2 : n < 9218868437227405312) (w : World) :
    Calls Tryz.prog 44 #[.int .i64 64, .int .i64 n] w fun e w' => e = .returned (partV 4503599627370496 (-1074) n) ∧ Below w.heap.size w w' := by
  by_cases hn : n < 0
  · have e1 : absI n = -n := by unfold absI; rw [if_pos hn]
    have e2 : decide (n < 0) = true := by simp; omega
    unfold partV
    rw [e1, e2]
    obtain ⟨s, rfl⟩ : ∃ s, n = -s := ⟨-n, by omega⟩
    rw [Int.neg_neg]
    by_cases hs : s < 4503599627370496
    · have e3 : pSize 4503599627370496 s = s := by unfold pSize; rw [if_pos hs]
      have e4 : pPow 4503599627370496 (-1074) s = (-1074) := by unfold pPow; rw [if_pos hs]
      rw [e3, e4]
      exact iPart_64_neg_small s (by omega) hs w
    · have e3 : pSize 4503599627370496 s = 4503599627370496 + s % 4503599627370496 := by unfold pSize; rw [if_neg hs]
      have e4 : pPow 4503599627370496 (-1074) s = (-1074) + (s / 4503599627370496 - 1) := by unfold pPow; rw [if_neg hs]
      rw [e3, e4]
      exact iPart_64_neg_common s (s / 4503599627370496) (s % 4503599627370496) (by omega) (by omega) (by omega) (by omega) (by omega) w
  · have e1 : absI n = n := by unfold absI; rw [if_neg hn]
    have e2 : decide (n < 0) = false := by simp; omega
    unfold partV
    rw [e1, e2]
    by_cases hs : n < 4503599627370496
    · have e3 : pSize 4503599627370496 n = n := by unfold pSize; rw [if_pos hs]
      have e4 : pPow 4503599627370496 (-1074) n = (-1074) := by unfold pPow; rw [if_pos hs]
      rw [e3, e4]
      exact iPart_64_pos_small n (by omega) hs w
    · have e3 : pSize 4503599627370496 n = 4503599627370496 + n % 4503599627370496 := by unfold pSize; rw [if_neg hs]
      have e4 : pPow 4503599627370496 (-1074) n = (-1074) + (n / 4503599627370496 - 1) := by unfold pPow; rw [if_neg hs]
      rw [e3, e4]
      exact iPart_64_pos_common n (n / 4503599627370496) (n % 4503599627370496) (by omega) (by omega) (by omega) (by omega) (by omega) w
theorem iPart_64_not (n : Int) (h : ¬ (-9218868437227405312 < n ∧ n < 9218868437227405312)) (w : World) :
    Calls Tryz.prog 44 #[.int .i64 64, .int .i64 n] w fun e w' => e = .returned partNo ∧ Below w.heap.size w w' := by
  by_cases c1 : n = 9218868437227405312
  · subst c1; exact iPart_64_top w
  by_cases c2 : n = -9218868437227405312
  · subst c2; exact iPart_64_bot w
  exact iPart_64_out n (by omega) w

theorem sPart_64 (n : Int) (h1 : -9218868437227405312 < n) (h2 : n < 9218868437227405312) (w : World) :
    Calls Tryz.prog 40 #[.int .i64 64, .int .i64 n] w fun e w' => e = .returned (partV 4503599627370496 (-1074) n) ∧ Below w.heap.size w w' := by
  by_cases hn : n < 0
  · have e1 : absI n = -n := by unfold absI; rw [if_pos hn]
    have e2 : decide (n < 0) = true := by simp; omega
    unfold partV
    rw [e1, e2]
    obtain ⟨s, rfl⟩ : ∃ s, n = -s := ⟨-n, by omega⟩
    rw [Int.neg_neg]
    by_cases hs : s < 4503599627370496
    · have e3 : pSize 4503599627370496 s = s := by unfold pSize; rw [if_pos hs]
      have e4 : pPow 4503599627370496 (-1074) s = (-1074) := by unfold pPow; rw [if_pos hs]
      rw [e3, e4]
      exact sPart_64_neg_small s (by omega) hs w
    · have e3 : pSize 4503599627370496 s = 4503599627370496 + s % 4503599627370496 := by unfold pSize; rw [if_neg hs]
      have e4 : pPow 4503599627370496 (-1074) s = (-1074) + (s / 4503599627370496 - 1) := by unfold pPow; rw [if_neg hs]
      rw [e3, e4]
      exact sPart_64_neg_common s (s / 4503599627370496) (s % 4503599627370496) (by omega) (by omega) (by omega) (by omega) (by omega) w
  · have e1 : absI n = n := by unfold absI; rw [if_neg hn]
    have e2 : decide (n < 0) = false := by simp; omega
    unfold partV
    rw [e1, e2]
    by_cases hs : n < 4503599627370496
    · have e3 : pSize 4503599627370496 n = n := by unfold pSize; rw [if_pos hs]
      have e4 : pPow 4503599627370496 (-1074) n = (-1074) := by unfold pPow; rw [if_pos hs]
      rw [e3, e4]
      exact sPart_64_pos_small n (by omega) hs w
    · have e3 : pSize 4503599627370496 n = 4503599627370496 + n % 4503599627370496 := by unfold pSize; rw [if_neg hs]
      have e4 : pPow 4503599627370496 (-1074) n = (-1074) + (n / 4503599627370496 - 1) := by unfold pPow; rw [if_neg hs]
      rw [e3, e4]
      exact sPart_64_pos_common n (n / 4503599627370496) (n % 4503599627370496) (by omega) (by omega) (by omega) (by omega) (by omega) w
theorem sPart_64_not (n : Int) (h : ¬ (-9218868437227405312 < n ∧ n < 9218868437227405312)) (w : World) :
    Calls Tryz.prog 40 #[.int .i64 64, .int .i64 n] w fun e w' => e = .returned partNo ∧ Below w.heap.size w w' := by
  by_cases c1 : n = 9218868437227405312
  · subst c1; exact sPart_64_top w
  by_cases c2 : n = -9218868437227405312
  · subst c2; exact sPart_64_bot w
  exact sPart_64_out n (by omega) w

set_option maxHeartbeats 800000 in
theorem iPart_no (wd n : Int) (g1 : wd ≠ 32) (g2 : wd ≠ 64) (w : World) :
    Calls Tryz.prog 44 #[.int .i64 wd, .int .i64 n] w fun e w' => e = .returned (partNo) ∧ Below w.heap.size w w' := by
  go_enter Tryz.func44, Tryz.ntmps44
  go_wp2_with (go_at_call 85; refine (formWith_no wd _ _ g1 g2).mono ?_; rintro e w1 ⟨rfl, hb1⟩; obtain ⟨hc, hf⟩ := bcell hb1; obtain ⟨z0, z1, z2, z3, z4, z5⟩ := bsize hb1)
  exact bodyPost_ret (v := partNo) (by simp [results, Tryz.results44, go_sem, partNo, hc]) rfl ⟨rfl, (by repeat (first | exact Below.refl _ _ | refine Below.drew ?_ | refine Below.setCell ?_ (by simp) _ | refine old_alloc ?_ _ | refine old_trans ?_ (by assumption)))⟩

set_option maxHeartbeats 800000 in
theorem sPart_no (wd n : Int) (g1 : wd ≠ 32) (g2 : wd ≠ 64) (w : World) :
    Calls Tryz.prog 40 #[.int .i64 wd, .int .i64 n] w fun e w' => e = .returned (partNo) ∧ Below w.heap.size w w' := by
  go_enter Tryz.func40, Tryz.ntmps40
  go_wp2_with (go_at_call 39; refine (sBitOk_no wd _ _ g1 g2).mono ?_; rintro e w1 ⟨rfl, hb1⟩; obtain ⟨hc, hf⟩ := bcell hb1; obtain ⟨z0, z1, z2, z3, z4, z5⟩ := bsize hb1)
  exact bodyPost_ret (v := partNo) (by simp [results, Tryz.results40, go_sem, partNo, hc]) rfl ⟨rfl, (by repeat (first | exact Below.refl _ _ | refine Below.drew ?_ | refine Below.setCell ?_ (by simp) _ | refine old_alloc ?_ _ | refine old_trans ?_ (by assumption)))⟩
end Go.Proofs.YtpjababikpakoaaGreatDoor
