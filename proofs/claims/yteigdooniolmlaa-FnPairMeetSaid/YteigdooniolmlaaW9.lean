/- The contract of the specification's BitMake at width 64 and a size below 2^24, and of its BitWiden: 'widI' again; nothing that was there is written. -/
import Derived.Test.YteigdooniolmlaaPA
import Derived.Test.YteigdooniolmlaaM2
namespace Go.Proofs.Yteigdooniolmlaa
open Go.RowKit

theorem dbl_lt (sz k : Nat) (hl : sz.log2 ≤ 51) (hk : k < 52 - sz.log2) : sz * 2 ^ k < 4503599627370496 := by
  have := Nat.lt_log2_self (n := sz)
  calc sz * 2 ^ k < 2 ^ (sz.log2 + 1) * 2 ^ k := Nat.mul_lt_mul_of_pos_right this (Nat.two_pow_pos _)
    _ = 2 ^ (sz.log2 + 1 + k) := by rw [← Nat.pow_add]
    _ ≤ 2 ^ 52 := Nat.pow_le_pow_right (by omega) (by omega)
theorem dbl_ge (sz : Nat) (h0 : sz ≠ 0) (hl : sz.log2 ≤ 51) : 4503599627370496 ≤ sz * 2 ^ (52 - sz.log2) ∧ sz * 2 ^ (52 - sz.log2) < 9007199254740992 := by
  have h1 := Nat.lt_log2_self (n := sz)
  have h2 := Nat.log2_self_le h0
  constructor
  · calc 4503599627370496 = 2 ^ sz.log2 * 2 ^ (52 - sz.log2) := by rw [← Nat.pow_add, show sz.log2 + (52 - sz.log2) = 52 by omega]
      _ ≤ sz * 2 ^ (52 - sz.log2) := Nat.mul_le_mul_right _ h2
  · calc sz * 2 ^ (52 - sz.log2) < 2 ^ (sz.log2 + 1) * 2 ^ (52 - sz.log2) := Nat.mul_lt_mul_of_pos_right h1 (Nat.two_pow_pos _)
      _ = 9007199254740992 := by rw [← Nat.pow_add, show sz.log2 + 1 + (52 - sz.log2) = 53 by omega]

set_option maxRecDepth 100000 in
set_option maxHeartbeats 1000000 in
theorem sMake_true_true (s pw : Int) (K : Nat) (D : Nat → Int) (w : World) (h1 : 0 < s) (h2 : s < 16777216) (p1 : -149 ≤ pw) (p2 : pw ≤ 104) (od : (s % 2 == 0) = true)
    (D0 : Hid (D 0 = s)) (DS : Hid (∀ k, D (k + 1) = D k * 2)) (DP : Hid (∀ k, 0 < D k)) (DL : Hid (∀ k, k < K → D k < 4503599627370496)) (DG : Hid (4503599627370496 ≤ D K)) (DH : Hid (D K < 9007199254740992)) (kk : K ≤ 52) :
    Calls Try.prog 74 #[.int .i64 64, .agg #[.bool true, .int .u64 s, .int .i64 pw]] w fun e w' => e = .returned (.tuple #[.int .i64 (-((pw - K + 1074) * 4503599627370496 + D K)), .bool true]) ∧ Below w.heap.size w w' := by
  have t0 : (s == 0) = false := by simp; omega
  have t1 : decide (9007199254740992 ≤ s) = false := by simp; omega
  have t2 : decide (pw < -1074) = false := by simp; omega
  have t3 : decide (pw < -2000) = false := by simp; omega
  have t4 : decide (2000 < pw) = false := by simp; omega
  go_enter Try.func74, Try.ntmps74
  go_wp2
  refine wp_loop_rounds 1 ?_
  rw [rounds_succ]
  go_wp2
  go_loop [6, 7] (fun a b => ∃ k : Nat, k ≤ K ∧ a = .int .u64 (D k) ∧ b = .int .i64 (pw - k)) (fun _ b => (intOf b + 1000).toNat)
  case atStart => exact ⟨0, Nat.zero_le _, by rw [D0.out], by simp⟩
  case round =>
    obtain ⟨k, hk, rfl, rfl⟩ := hrel
    have d0 := DP.out k
    by_cases hlt : k < K
    · have d1 := DL.out k hlt
      have d2 : Hid (D (k + 1) = D k * 2) := DS.out k
      go_wp2
      go_round
      case rel => exact ⟨k + 1, by omega, by rw [d2.out], by go_num⟩
      case measure => simp [intOf]; omega
    · have e : k = K := by omega
      subst e
      have d1 := DG.out
      have d2 := DH.out
      have u1 : decide (D k < 4503599627370496) = false := by simp; omega
      have u2 : decide (9007199254740992 ≤ D k) = false := by simp; omega
      have u3 : decide (pw - k < -1074) = false := by simp; omega
      have u4 : decide (4503599627370496 ≤ D k) = true := by simp; omega
      go_wp2
      go_ret2
      refine ⟨ret_ib ?_ rfl, (by repeat (first | exact Below.refl _ _ | refine Below.drew ?_ | refine Below.setCell ?_ (by simp) _ | refine old_alloc ?_ _ | refine old_trans ?_ (by assumption)))⟩
      omega
set_option maxRecDepth 100000 in
set_option maxHeartbeats 1000000 in
theorem sMake_true_false (s pw : Int) (K : Nat) (D : Nat → Int) (w : World) (h1 : 0 < s) (h2 : s < 16777216) (p1 : -149 ≤ pw) (p2 : pw ≤ 104) (od : (s % 2 == 0) = true)
    (D0 : Hid (D 0 = s)) (DS : Hid (∀ k, D (k + 1) = D k * 2)) (DP : Hid (∀ k, 0 < D k)) (DL : Hid (∀ k, k < K → D k < 4503599627370496)) (DG : Hid (4503599627370496 ≤ D K)) (DH : Hid (D K < 9007199254740992)) (kk : K ≤ 52) :
    Calls Try.prog 74 #[.int .i64 64, .agg #[.bool false, .int .u64 s, .int .i64 pw]] w fun e w' => e = .returned (.tuple #[.int .i64 (((pw - K + 1074) * 4503599627370496 + D K)), .bool true]) ∧ Below w.heap.size w w' := by
  have t0 : (s == 0) = false := by simp; omega
  have t1 : decide (9007199254740992 ≤ s) = false := by simp; omega
  have t2 : decide (pw < -1074) = false := by simp; omega
  have t3 : decide (pw < -2000) = false := by simp; omega
  have t4 : decide (2000 < pw) = false := by simp; omega
  go_enter Try.func74, Try.ntmps74
  go_wp2
  refine wp_loop_rounds 1 ?_
  rw [rounds_succ]
  go_wp2
  go_loop [6, 7] (fun a b => ∃ k : Nat, k ≤ K ∧ a = .int .u64 (D k) ∧ b = .int .i64 (pw - k)) (fun _ b => (intOf b + 1000).toNat)
  case atStart => exact ⟨0, Nat.zero_le _, by rw [D0.out], by simp⟩
  case round =>
    obtain ⟨k, hk, rfl, rfl⟩ := hrel
    have d0 := DP.out k
    by_cases hlt : k < K
    · have d1 := DL.out k hlt
      have d2 : Hid (D (k + 1) = D k * 2) := DS.out k
      go_wp2
      go_round
      case rel => exact ⟨k + 1, by omega, by rw [d2.out], by go_num⟩
      case measure => simp [intOf]; omega
    · have e : k = K := by omega
      subst e
      have d1 := DG.out
      have d2 := DH.out
      have u1 : decide (D k < 4503599627370496) = false := by simp; omega
      have u2 : decide (9007199254740992 ≤ D k) = false := by simp; omega
      have u3 : decide (pw - k < -1074) = false := by simp; omega
      have u4 : decide (4503599627370496 ≤ D k) = true := by simp; omega
      go_wp2
      go_ret2
      refine ⟨ret_ib ?_ rfl, (by repeat (first | exact Below.refl _ _ | refine Below.drew ?_ | refine Below.setCell ?_ (by simp) _ | refine old_alloc ?_ _ | refine old_trans ?_ (by assumption)))⟩
      omega
set_option maxRecDepth 100000 in
set_option maxHeartbeats 1000000 in
theorem sMake_false_true (s pw : Int) (K : Nat) (D : Nat → Int) (w : World) (h1 : 0 < s) (h2 : s < 16777216) (p1 : -149 ≤ pw) (p2 : pw ≤ 104) (od : (s % 2 == 0) = false)
    (D0 : Hid (D 0 = s)) (DS : Hid (∀ k, D (k + 1) = D k * 2)) (DP : Hid (∀ k, 0 < D k)) (DL : Hid (∀ k, k < K → D k < 4503599627370496)) (DG : Hid (4503599627370496 ≤ D K)) (DH : Hid (D K < 9007199254740992)) (kk : K ≤ 52) :
    Calls Try.prog 74 #[.int .i64 64, .agg #[.bool true, .int .u64 s, .int .i64 pw]] w fun e w' => e = .returned (.tuple #[.int .i64 (-((pw - K + 1074) * 4503599627370496 + D K)), .bool true]) ∧ Below w.heap.size w w' := by
  have t0 : (s == 0) = false := by simp; omega
  have t1 : decide (9007199254740992 ≤ s) = false := by simp; omega
  have t2 : decide (pw < -1074) = false := by simp; omega
  have t3 : decide (pw < -2000) = false := by simp; omega
  have t4 : decide (2000 < pw) = false := by simp; omega
  go_enter Try.func74, Try.ntmps74
  go_wp2
  refine wp_loop_rounds 1 ?_
  rw [rounds_succ]
  go_wp2
  go_loop [6, 7] (fun a b => ∃ k : Nat, k ≤ K ∧ a = .int .u64 (D k) ∧ b = .int .i64 (pw - k)) (fun _ b => (intOf b + 1000).toNat)
  case atStart => exact ⟨0, Nat.zero_le _, by rw [D0.out], by simp⟩
  case round =>
    obtain ⟨k, hk, rfl, rfl⟩ := hrel
    have d0 := DP.out k
    by_cases hlt : k < K
    · have d1 := DL.out k hlt
      have d2 : Hid (D (k + 1) = D k * 2) := DS.out k
      go_wp2
      go_round
      case rel => exact ⟨k + 1, by omega, by rw [d2.out], by go_num⟩
      case measure => simp [intOf]; omega
    · have e : k = K := by omega
      subst e
      have d1 := DG.out
      have d2 := DH.out
      have u1 : decide (D k < 4503599627370496) = false := by simp; omega
      have u2 : decide (9007199254740992 ≤ D k) = false := by simp; omega
      have u3 : decide (pw - k < -1074) = false := by simp; omega
      have u4 : decide (4503599627370496 ≤ D k) = true := by simp; omega
      go_wp2
      go_ret2
      refine ⟨ret_ib ?_ rfl, (by repeat (first | exact Below.refl _ _ | refine Below.drew ?_ | refine Below.setCell ?_ (by simp) _ | refine old_alloc ?_ _ | refine old_trans ?_ (by assumption)))⟩
      omega
set_option maxRecDepth 100000 in
set_option maxHeartbeats 1000000 in
theorem sMake_false_false (s pw : Int) (K : Nat) (D : Nat → Int) (w : World) (h1 : 0 < s) (h2 : s < 16777216) (p1 : -149 ≤ pw) (p2 : pw ≤ 104) (od : (s % 2 == 0) = false)
    (D0 : Hid (D 0 = s)) (DS : Hid (∀ k, D (k + 1) = D k * 2)) (DP : Hid (∀ k, 0 < D k)) (DL : Hid (∀ k, k < K → D k < 4503599627370496)) (DG : Hid (4503599627370496 ≤ D K)) (DH : Hid (D K < 9007199254740992)) (kk : K ≤ 52) :
    Calls Try.prog 74 #[.int .i64 64, .agg #[.bool false, .int .u64 s, .int .i64 pw]] w fun e w' => e = .returned (.tuple #[.int .i64 (((pw - K + 1074) * 4503599627370496 + D K)), .bool true]) ∧ Below w.heap.size w w' := by
  have t0 : (s == 0) = false := by simp; omega
  have t1 : decide (9007199254740992 ≤ s) = false := by simp; omega
  have t2 : decide (pw < -1074) = false := by simp; omega
  have t3 : decide (pw < -2000) = false := by simp; omega
  have t4 : decide (2000 < pw) = false := by simp; omega
  go_enter Try.func74, Try.ntmps74
  go_wp2
  refine wp_loop_rounds 1 ?_
  rw [rounds_succ]
  go_wp2
  go_loop [6, 7] (fun a b => ∃ k : Nat, k ≤ K ∧ a = .int .u64 (D k) ∧ b = .int .i64 (pw - k)) (fun _ b => (intOf b + 1000).toNat)
  case atStart => exact ⟨0, Nat.zero_le _, by rw [D0.out], by simp⟩
  case round =>
    obtain ⟨k, hk, rfl, rfl⟩ := hrel
    have d0 := DP.out k
    by_cases hlt : k < K
    · have d1 := DL.out k hlt
      have d2 : Hid (D (k + 1) = D k * 2) := DS.out k
      go_wp2
      go_round
      case rel => exact ⟨k + 1, by omega, by rw [d2.out], by go_num⟩
      case measure => simp [intOf]; omega
    · have e : k = K := by omega
      subst e
      have d1 := DG.out
      have d2 := DH.out
      have u1 : decide (D k < 4503599627370496) = false := by simp; omega
      have u2 : decide (9007199254740992 ≤ D k) = false := by simp; omega
      have u3 : decide (pw - k < -1074) = false := by simp; omega
      have u4 : decide (4503599627370496 ≤ D k) = true := by simp; omega
      go_wp2
      go_ret2
      refine ⟨ret_ib ?_ rfl, (by repeat (first | exact Below.refl _ _ | refine Below.drew ?_ | refine Below.setCell ?_ (by simp) _ | refine old_alloc ?_ _ | refine old_trans ?_ (by assumption)))⟩
      omega
end Go.Proofs.Yteigdooniolmlaa
