/- The contract of the specification's BitMake at width 64 and a size below 2^24, and of its BitWiden: 'widI' again; nothing that was there is written. -/
import Derived.Test.YtpnfkigeagbhpaaPK04
import Derived.Test.YtpnfkigeagbhpaaPK11
import Derived.Test.YtpnfkigeagbhpaaPK03
namespace Go.Proofs.Ytpnfkigeagbhpaa
open Go.RowKit

theorem dbl_lt (sz k : Nat) (hl : sz.log2 ≤ 51) (hk : k < 52 - sz.log2) : sz * 2 ^ k < 4503599627370496 := by
  have := Nat.lt_log2_self (n := sz)
  calc sz * 2 ^ k < 2 ^ (sz.log2 + 1) * 2 ^ k := Nat.mul_lt_mul_of_pos_right this (Nat.two_pow_pos _)
    _ = 2 ^ (sz.log2 + 1 + k) := by rw [← Nat.pow_add]
    _ ≤ 2 ^ 52 := Nat.pow_le_pow_right (by omega) (by omega)
theorem dbl_ge (sz : Nat) (h0 : sz ≠ 0) (hl : sz.log2 ≤ 51) : 4503599627370496 ≤ sz * 2 ^ (52 - sz.log2) ∧ sz * 2 ^ (52 - sz.log2) < 9007199254740992 := by
  have h1 := Nat.lt_log2_self (n := sz)
  have h2 := Nat.log2_self_le h0
  constructor
  · calc 4503599627370496 = 2 ^ sz.log2 * 2 ^ (52 - sz.log2) := by rw [← Nat.pow_add, show sz.log2 + (52 - sz.log2) = 52 by omega]
      _ ≤ sz * 2 ^ (52 - sz.log2) := Nat.mul_le_mul_right _ h2
  · calc sz * 2 ^ (52 - sz.log2) < 2 ^ (sz.log2 + 1) * 2 ^ (52 - sz.log2) := Nat.mul_lt_mul_of_pos_right h1 (Nat.two_pow_pos _)
      _ = 9007199254740992 := by rw [← Nat.pow_add, show sz.log2 + 1 + (52 - sz.log2) = 53 by omega]

set_option maxRecDepth 100000 in
set_option maxHeartbeats 1000000 in
theorem sMake_true_true (s pw : Int) (K : Nat) (D : Nat → Int) (w : World) (h1 : 0 < s) (h2 : s < 16777216) (p1 : -149 ≤ pw) (p2 : pw ≤ 104) (od : (s % 2 == 0) = true)
    (D0 : Hid (D 0 = s)) (DS : Hid (∀ k, D (k + 1) = D k * 2)) (DP : Hid (∀ k, 0 < D k)) (DL : Hid (∀ k, k < K → D k < 4503599627370496)) (DG : Hid (4503599627370496 ≤ D K)) (DH : Hid (D K < 9007199254740992)) (kk : K ≤ 52) :
    Calls Try.prog 95 #[.int .i64 64, .agg #[.bool true, .int .u64 s, .int .i64 pw]] w fun e w' => e = .returned (.tuple #[.int .i64 (-((pw - K + 1074) * 4503599627370496 + D K)), .bool true]) ∧ Below w.heap.size w w' := by
  have t0 : (s == 0) = false := by simp; omega
  have t1 : decide (9007199254740992 ≤ s) = false := by simp; omega
  have t2 : decide (pw < -1074) = false := by simp; omega
  have t3 : decide (pw < -2000) = false := by simp; omega
  have t4 : decide (2000 < pw) = false := by simp; omega
  go_enter Try.func95, Try.ntmps95
  go_wp2
  refine wp_loop_rounds 1 ?_
  rw [rounds_succ]
  go_wp2
  go_loop [6, 7] (fun a b => ∃ k : Nat, k ≤ K ∧ a = .int .u64 (D k) ∧ b = .int .i64 (pw - k)) (fun _ b => (intOf b + 1000).toNat)
  case atStart => exact ⟨0, Nat.zero_le _, by rw [D0.out], by simp⟩
  case round =>
    obtain ⟨k, hk, rfl, rfl⟩ := hrel
    have d0 := DP.out k
    by_cases hlt : k < K
    · have d1 := DL.out k hlt
      have d2 : Hid (D (k + 1) = D k * 2) := DS.out k
      go_wp2
      go_round
      case rel => exact ⟨k + 1, by omega, by rw [d2.out], by go_num⟩
      case measure => simp [intOf]; omega
    · have e : k = K := by omega
      subst e
      have d1 := DG.out
      have d2 := DH.out
      have u1 : decide (D k < 4503599627370496) = false := by simp; omega
      have u2 : decide (9007199254740992 ≤ D k) = false := by simp; omega
      have u3 : decide (pw - k < -1074) = false := by simp; omega
      have u4 : decide (4503599627370496 ≤ D k) = true := by simp; omega
      go_wp2
      go_ret2
      refine ⟨ret_ib ?_ rfl, (by repeat (first | exact Below.refl _ _ | refine Below.drew ?_ | refine Below.setCell ?_ (by simp) _ | refine old_alloc ?_ _ | refine old_trans ?_ (by assumption)))⟩
      omega
set_option maxRecDepth 100000 in
set_option maxHeartbeats 1000000 in
theorem sMake_true_false (s pw : Int) (K : Nat) (D : Nat → Int) (w : World) (h1 : 0 < s) (h2 : s < 16777216) (p1 : -149 ≤ pw) (p2 : pw ≤ 104) (od : (s % 2 == 0) = true)
    (D0 : Hid (D 0 = s)) (DS : Hid (∀ k, D (k + 1) = D k * 2)) (DP : Hid (∀ k, 0 < D k)) (DL : Hid (∀ k, k < K → D k < 4503599627370496)) (DG : Hid (4503599627370496 ≤ D K)) (DH : Hid (D K < 9007199254740992)) (kk : K ≤ 52) :
    Calls Try.prog 95 #[.int .i64 64, .agg #[.bool false, .int .u64 s, .int .i64 pw]] w fun e w' => e = .returned (.tuple #[.int .i64 (((pw - K + 1074) * 4503599627370496 + D K)), .bool true]) ∧ Below w.heap.size w w' := by
  have t0 : (s == 0) = false := by simp; omega
  have t1 : decide (9007199254740992 ≤ s) = false := by simp; omega
  have t2 : decide (pw < -1074) = false := by simp; omega
  have t3 : decide (pw < -2000) = false := by simp; omega
  have t4 : decide (2000 < pw) = false := by simp; omega
  go_enter Try.func95, Try.ntmps95
  go_wp2
  refine wp_loop_rounds 1 ?_
  rw [rounds_succ]
  go_wp2
  go_loop [6, 7] (fun a b => ∃ k : Nat, k ≤ K ∧ a = .int .u64 (D k) ∧ b = .int .i64 (pw - k)) (fun _ b => (intOf b + 1000).toNat)
  case atStart => exact ⟨0, Nat.zero_le _, by rw [D0.out], by simp⟩
  case round =>
    obtain ⟨k, hk, rfl, rfl⟩ := hrel
    have d0 := DP.out k
    by_cases hlt : k < K
    · have d1 := DL.out k hlt
      have d2 : Hid (D (k + 1) = D k * 2) := DS.out k
      go_wp2
      go_round
      case rel => exact ⟨k + 1, by omega, by rw [d2.out], by go_num⟩
      case measure => simp [intOf]; omega
    · have e : k = K := by omega
      subst e
      have d1 := DG.out
      have d2 := DH.out
      have u1 : decide (D k < 4503599627370496) = false := by simp; omega
      have u2 : decide (9007199254740992 ≤ D k) = false := by simp; omega
      have u3 : decide (pw - k < -1074) = false := by simp; omega
      have u4 : decide (4503599627370496 ≤ D k) = true := by simp; omega
      go_wp2
      go_ret2
      refine ⟨ret_ib ?_ rfl, (by repeat (first | exact Below.refl _ _ | refine Below.drew ?_ | refine Below.setCell ?_ (by simp) _ | refine old_alloc ?_ _ | refine old_trans ?_ (by assumption)))⟩
      omega
set_option maxRecDepth 100000 in
set_option maxHeartbeats 1000000 in
theorem sMake_false_true (s pw : Int) (K : Nat) (D : Nat → Int) (w : World) (h1 : 0 < s) (h2 : s < 16777216) (p1 : -149 ≤ pw) (p2 : pw ≤ 104) (od : (s % 2 == 0) = false)
    (D0 : Hid (D 0 = s)) (DS : Hid (∀ k, D (k + 1) = D k * 2)) (DP : Hid (∀ k, 0 < D k)) (DL : Hid (∀ k, k < K → D k < 4503599627370496)) (DG : Hid (4503599627370496 ≤ D K)) (DH : Hid (D K < 9007199254740992)) (kk : K ≤ 52) :
    Calls Try.prog 95 #[.int .i64 64, .agg #[.bool true, .int .u64 s, .int .i64 pw]] w fun e w' => e = .returned (.tuple #[.int .i64 (-((pw - K + 1074) * 4503599627370496 + D K)), .bool true]) ∧ Below w.heap.size w w' := by
  have t0 : (s == 0) = false := by simp; omega
  have t1 : decide (9007199254740992 ≤ s) = false := by simp; omega
  have t2 : decide (pw < -1074) = false := by simp; omega
  have t3 : decide (pw < -2000) = false := by simp; omega
  have t4 : decide (2000 < pw) = false := by simp; omega
  go_enter Try.func95, Try.ntmps95
  go_wp2
  refine wp_loop_rounds 1 ?_
  rw [rounds_succ]
  go_wp2
  go_loop [6, 7] (fun a b => ∃ k : Nat, k ≤ K ∧ a = .int .u64 (D k) ∧ b = .int .i64 (pw - k)) (fun _ b => (intOf b + 1000).toNat)
  case atStart => exact ⟨0, Nat.zero_le _, by rw [D0.out], by simp⟩
  case round =>
    obtain ⟨k, hk, rfl, rfl⟩ := hrel
    have d0 := DP.out k
    by_cases hlt : k < K
    · have d1 := DL.out k hlt
      have d2 : Hid (D (k + 1) = D k * 2) := DS.out k
      go_wp2
      go_round
      case rel => exact ⟨k + 1, by omega, by rw [d2.out], by go_num⟩
      case measure => simp [intOf]; omega
    · have e : k = K := by omega
      subst e
      have d1 := DG.out
      have d2 := DH.out
      have u1 : decide (D k < 4503599627370496) = false := by simp; omega
      have u2 : decide (9007199254740992 ≤ D k) = false := by simp; omega
      have u3 : decide (pw - k < -1074) = false := by simp; omega
      have u4 : decide (4503599627370496 ≤ D k) = true := by simp; omega
      go_wp2
      go_ret2
      refine ⟨ret_ib ?_ rfl, (by repeat (first | exact Below.refl _ _ | refine Below.drew ?_ | refine Below.setCell ?_ (by simp) _ | refine old_alloc ?_ _ | refine old_trans ?_ (by assumption)))⟩
      omega
set_option maxRecDepth 100000 in
set_option maxHeartbeats 1000000 in
theorem sMake_false_false (s pw : Int) (K : Nat) (D : Nat → Int) (w : World) (h1 : 0 < s) (h2 : s < 16777216) (p1 : -149 ≤ pw) (p2 : pw ≤ 104) (od : (s % 2 == 0) = false)
    (D0 : Hid (D 0 = s)) (DS : Hid (∀ k, D (k + 1) = D k * 2)) (DP : Hid (∀ k, 0 < D k)) (DL : Hid (∀ k, k < K → D k < 4503599627370496)) (DG : Hid (4503599627370496 ≤ D K)) (DH : Hid (D K < 9007199254740992)) (kk : K ≤ 52) :
    Calls Try.prog 95 #[.int .i64 64, .agg #[.bool false, .int .u64 s, .int .i64 pw]] w fun e w' => e = .returned (.tuple #[.int .i64 (((pw - K + 1074) * 4503599627370496 + D K)), .bool true]) ∧ Below w.heap.size w w' := by
  have t0 : (s == 0) = false := by simp; omega
  have t1 : decide (9007199254740992 ≤ s) = false := by simp; omega
  have t2 : decide (pw < -1074) = false := by simp; omega
  have t3 : decide (pw < -2000) = false := by simp; omega
  have t4 : decide (2000 < pw) = false := by simp; omega
  go_enter Try.func95, Try.ntmps95
  go_wp2
  refine wp_loop_rounds 1 ?_
  rw [rounds_succ]
  go_wp2
  go_loop [6, 7] (fun a b => ∃ k : Nat, k ≤ K ∧ a = .int .u64 (D k) ∧ b = .int .i64 (pw - k)) (fun _ b => (intOf b + 1000).toNat)
  case atStart => exact ⟨0, Nat.zero_le _, by rw [D0.out], by simp⟩
  case round =>
    obtain ⟨k, hk, rfl, rfl⟩ := hrel
    have d0 := DP.out k
    by_cases hlt : k < K
    · have d1 := DL.out k hlt
      have d2 : Hid (D (k + 1) = D k * 2) := DS.out k
      go_wp2
      go_round
      case rel => exact ⟨k + 1, by omega, by rw [d2.out], by go_num⟩
      case measure => simp [intOf]; omega
    · have e : k = K := by omega
      subst e
      have d1 := DG.out
      have d2 := DH.out
      have u1 : decide (D k < 4503599627370496) = false := by simp; omega
      have u2 : decide (9007199254740992 ≤ D k) = false := by simp; omega
      have u3 : decide (pw - k < -1074) = false := by simp; omega
      have u4 : decide (4503599627370496 ≤ D k) = true := by simp; omega
      go_wp2
      go_ret2
      refine ⟨ret_ib ?_ rfl, (by repeat (first | exact Below.refl _ _ | refine Below.drew ?_ | refine Below.setCell ?_ (by simp) _ | refine old_alloc ?_ _ | refine old_trans ?_ (by assumption)))⟩
      omega
end Go.Proofs.Ytpnfkigeagbhpaa

/- The contract of the specification's BitWiden and l2Wide: 'widI', of every narrow float; nothing that was there is written. -/
namespace Go.Proofs.Ytpnfkigeagbhpaa
open Go.RowKit


set_option maxHeartbeats 400000 in
theorem sMake_zero (pw : Int) (bl : Bool) (w : World) (p1 : -149 ≤ pw) (p2 : pw ≤ 104) :
    Calls Try.prog 95 #[.int .i64 64, .agg #[.bool bl, .int .u64 0, .int .i64 pw]] w fun e w' => e = .returned (.tuple #[.int .i64 0, .bool true]) ∧ Below w.heap.size w w' := by
  have t3 : decide (pw < -2000) = false := by simp; omega
  have t4 : decide (2000 < pw) = false := by simp; omega
  go_enter Try.func95, Try.ntmps95
  go_wp2
  go_ret2
  exact ⟨rfl, (by repeat (first | exact Below.refl _ _ | refine Below.drew ?_ | refine Below.setCell ?_ (by simp) _ | refine old_alloc ?_ _ | refine old_trans ?_ (by assumption)))⟩

theorem sMake_wid (sz : Nat) (pw v : Int) (bl : Bool) (w : World) (h1 : 0 < sz) (h2 : sz < 16777216) (p1 : -149 ≤ pw) (p2 : pw ≤ 104)
    (hv : v = (pw - ((52 - sz.log2 : Nat) : Int) + 1074) * 4503599627370496 + ((sz * 2 ^ (52 - sz.log2) : Nat) : Int)) :
    Calls Try.prog 95 #[.int .i64 64, .agg #[.bool bl, .int .u64 (sz : Int), .int .i64 pw]] w fun e w' => e = .returned (.tuple #[.int .i64 (if bl then -v else v), .bool true]) ∧ Below w.heap.size w w' := by
  have hl : sz.log2 ≤ 51 := by
    have := (Nat.log2_lt (n := sz) (by omega) (k := 24)).2 (by omega)
    omega
  have g := dbl_ge sz (by omega) hl
  have D0 : Hid ((fun k : Nat => ((sz * 2 ^ k : Nat) : Int)) 0 = (sz : Int)) := by show _ = _; simp
  have DS : Hid (∀ k, (fun k : Nat => ((sz * 2 ^ k : Nat) : Int)) (k + 1) = (fun k : Nat => ((sz * 2 ^ k : Nat) : Int)) k * 2) := by
    intro k
    show ((sz * 2 ^ (k + 1) : Nat) : Int) = ((sz * 2 ^ k : Nat) : Int) * 2
    rw [Nat.pow_succ, ← Nat.mul_assoc]; push_cast; rfl
  have DP : Hid (∀ k, 0 < (fun k : Nat => ((sz * 2 ^ k : Nat) : Int)) k) := by
    intro k
    have : 0 < sz * 2 ^ k := Nat.mul_pos h1 (Nat.two_pow_pos k)
    show (0 : Int) < ((sz * 2 ^ k : Nat) : Int)
    omega
  have DL : Hid (∀ k, k < 52 - sz.log2 → (fun k : Nat => ((sz * 2 ^ k : Nat) : Int)) k < 4503599627370496) := by
    intro k hk
    have := dbl_lt sz k hl hk
    show ((sz * 2 ^ k : Nat) : Int) < 4503599627370496
    omega
  have DG : Hid (4503599627370496 ≤ (fun k : Nat => ((sz * 2 ^ k : Nat) : Int)) (52 - sz.log2)) := by
    show 4503599627370496 ≤ ((sz * 2 ^ (52 - sz.log2) : Nat) : Int)
    omega
  have DH : Hid ((fun k : Nat => ((sz * 2 ^ k : Nat) : Int)) (52 - sz.log2) < 9007199254740992) := by
    show ((sz * 2 ^ (52 - sz.log2) : Nat) : Int) < 9007199254740992
    omega
  rw [hv]
  generalize hd : ((sz : Int) % 2 == 0) = od
  cases bl <;> cases od
  · exact sMake_false_false sz pw _ _ w (by omega) (by omega) p1 p2 hd D0 DS DP DL DG DH (by omega)
  · exact sMake_true_false sz pw _ _ w (by omega) (by omega) p1 p2 hd D0 DS DP DL DG DH (by omega)
  · exact sMake_false_true sz pw _ _ w (by omega) (by omega) p1 p2 hd D0 DS DP DL DG DH (by omega)
  · exact sMake_true_true sz pw _ _ w (by omega) (by omega) p1 p2 hd D0 DS DP DL DG DH (by omega)

theorem wid_val (r : Nat) (h0 : r ≠ 0) (h : r < 2139095040) (sz : Nat) (pw : Int) (hs : (sz : Int) = pSize 8388608 r) (hp : pw = pPow 8388608 (-149) r) :
    0 < sz ∧ sz < 16777216 ∧ -149 ≤ pw ∧ pw ≤ 104 ∧ (wid r : Int) = (pw - ((52 - sz.log2 : Nat) : Int) + 1074) * 4503599627370496 + ((sz * 2 ^ (52 - sz.log2) : Nat) : Int) := by
  by_cases h1 : r < 8388608
  · have e1 : sz = r := by unfold pSize at hs; rw [if_pos (by omega)] at hs; omega
    have e2 : pw = -149 := by unfold pPow at hp; rw [if_pos (by omega)] at hp; exact hp
    subst e1 e2
    have hl : sz.log2 < 23 := (Nat.log2_lt h0).2 h1
    refine ⟨by omega, by omega, by omega, by omega, ?_⟩
    rw [wid_small h0 h1]
    generalize sz * 2 ^ (52 - sz.log2) = x
    omega
  · have e1 : sz = 8388608 + r % 8388608 := by unfold pSize at hs; rw [if_neg (by omega)] at hs; omega
    have e2 : pw = -149 + ((r : Int) / 8388608 - 1) := by unfold pPow at hp; rw [if_neg (by omega)] at hp; exact hp
    have hl : sz.log2 = 23 := by rw [Nat.log2_eq_iff (by omega)]; omega
    refine ⟨by omega, by omega, by omega, by omega, ?_⟩
    rw [wid_common (by omega) h, hl]
    omega

theorem sMakeW (n : Int) (h1 : -2139095040 < n) (h2 : n < 2139095040) (w : World) :
    Calls Try.prog 95 #[.int .i64 64, .agg #[.bool (decide (n < 0)), .int .u64 (pSize 8388608 (absI n)), .int .i64 (pPow 8388608 (-149) (absI n))]] w fun e w' => e = .returned (.tuple #[.int .i64 (widI n), .bool true]) ∧ Below w.heap.size w w' := by
  by_cases h0 : n = 0
  · subst h0
    exact sMake_zero (-149) false w (by omega) (by omega)
  obtain ⟨r, hr⟩ : ∃ r : Nat, absI n = r := ⟨(absI n).toNat, by unfold absI; split <;> omega⟩
  have ha : (r : Int) = if n < 0 then -n else n := by rw [← hr]; rfl
  rw [hr]
  obtain ⟨sz, hs⟩ : ∃ sz : Nat, (sz : Int) = pSize 8388608 r := ⟨(pSize 8388608 r).toNat, by unfold pSize; split <;> omega⟩
  obtain ⟨a, b, c, d, e⟩ := wid_val r (by split at ha <;> omega) (by split at ha <;> omega) sz _ hs rfl
  rw [← hs]
  have hw : widI n = if decide (n < 0) then -(wid r : Int) else (wid r : Int) := by
    unfold widI
    by_cases hn : n < 0
    · have : (-n).toNat = r := by rw [if_pos hn] at ha; omega
      simp [hn, this]
    · have : n.toNat = r := by rw [if_neg hn] at ha; omega
      simp [hn, this]
  rw [hw]
  exact sMake_wid sz _ _ _ w a b c d e

set_option maxHeartbeats 400000 in
theorem sBitWiden_fin (n : Int) (h1 : -2139095040 < n) (h2 : n < 2139095040) (w : World) :
    Calls Try.prog 86 #[.int .i64 n] w fun e w' => e = .returned (.tuple #[.int .i64 (widI n), .bool true]) ∧ Below w.heap.size w w' := by
  have k1 : -2139095040 ≤ n := by omega
  have k2 : n ≤ 2139095040 := by omega
  go_enter Try.func86, Try.ntmps86
  go_wp2_with (first | (go_at_call 65; refine (sBitOk_32 n _ k1 k2).mono ?_; rintro e w1 ⟨rfl, hb1⟩) | (go_at_call 94; refine (sPart_32 n h1 h2 _).mono ?_; rintro e w2 ⟨rfl, hb2⟩; unfold partV) | (go_at_call 95; refine (sMakeW n h1 h2 _).mono ?_; rintro e w3 ⟨rfl, hb3⟩))
  go_ret2
  exact ⟨rfl, (by repeat (first | exact Below.refl _ _ | refine Below.drew ?_ | refine Below.setCell ?_ (by simp) _ | refine old_alloc ?_ _ | refine old_trans ?_ (by assumption)))⟩
set_option maxHeartbeats 400000 in
theorem sBitWiden_top (w : World) :
    Calls Try.prog 86 #[.int .i64 2139095040] w fun e w' => e = .returned (.tuple #[.int .i64 9218868437227405312, .bool true]) ∧ Below w.heap.size w w' := by
  go_enter Try.func86, Try.ntmps86
  go_wp2_with (first | (go_at_call 65; refine (sBitOk_32 _ _ (by decide) (by decide)).mono ?_; rintro e w1 ⟨rfl, hb1⟩) | (go_at_call 94; refine (sPart_32_top _).mono ?_; rintro e w2 ⟨rfl, hb2⟩; unfold partNo) | go_in)
  go_ret2
  exact ⟨rfl, (by repeat (first | exact Below.refl _ _ | refine Below.drew ?_ | refine Below.setCell ?_ (by simp) _ | refine old_alloc ?_ _ | refine old_trans ?_ (by assumption)))⟩
set_option maxHeartbeats 400000 in
theorem sBitWiden_bot (w : World) :
    Calls Try.prog 86 #[.int .i64 (-2139095040)] w fun e w' => e = .returned (.tuple #[.int .i64 (-9218868437227405312), .bool true]) ∧ Below w.heap.size w w' := by
  go_enter Try.func86, Try.ntmps86
  go_wp2_with (first | (go_at_call 65; refine (sBitOk_32 _ _ (by decide) (by decide)).mono ?_; rintro e w1 ⟨rfl, hb1⟩) | (go_at_call 94; refine (sPart_32_bot _).mono ?_; rintro e w2 ⟨rfl, hb2⟩; unfold partNo) | go_in)
  go_ret2
  exact ⟨rfl, (by repeat (first | exact Below.refl _ _ | refine Below.drew ?_ | refine Below.setCell ?_ (by simp) _ | refine old_alloc ?_ _ | refine old_trans ?_ (by assumption)))⟩
theorem sBitWiden (n : Int) (h1 : -2139095040 ≤ n) (h2 : n ≤ 2139095040) (w : World) :
    Calls Try.prog 86 #[.int .i64 n] w fun e w' => e = .returned (.tuple #[.int .i64 (widI n), .bool true]) ∧ Below w.heap.size w w' := by
  by_cases c1 : n = 2139095040
  · subst c1
    have : widI 2139095040 = 9218868437227405312 := by unfold widI; rw [if_neg (by decide)]; show ((wid 2139095040 : Nat) : Int) = _; rw [wid_top]; rfl
    rw [this]; exact sBitWiden_top w
  by_cases c2 : n = -2139095040
  · subst c2
    have : widI (-2139095040) = -9218868437227405312 := by unfold widI; rw [if_pos (by decide)]; show -((wid 2139095040 : Nat) : Int) = _; rw [wid_top]; rfl
    rw [this]; exact sBitWiden_bot w
  exact sBitWiden_fin n (by omega) (by omega) w
set_option maxHeartbeats 400000 in
theorem sBitWiden_out (n : Int) (h : ¬ (-2139095040 ≤ n ∧ n ≤ 2139095040)) (w : World) :
    Calls Try.prog 86 #[.int .i64 n] w fun e w' => e = .returned (.tuple #[.int .i64 0, .bool false]) ∧ Below w.heap.size w w' := by
  go_enter Try.func86, Try.ntmps86
  go_wp2_with (go_at_call 65; refine (sBitOk_32_out n _ h).mono ?_; rintro e w1 ⟨rfl, hb1⟩)
  go_ret2
  exact ⟨rfl, (by repeat (first | exact Below.refl _ _ | refine Below.drew ?_ | refine Below.setCell ?_ (by simp) _ | refine old_alloc ?_ _ | refine old_trans ?_ (by assumption)))⟩
end Go.Proofs.Ytpnfkigeagbhpaa

/- The contract of the specification's BitBelow and BitAbove: the greatest narrow float that is not above a wide one, and its mirror; nothing that was there is written. -/
namespace Go.Proofs.Ytpnfkigeagbhpaa
open Go.RowKit

/-- n is the greatest narrow order number whose wide one is not above o -/
def IsBelow (o n : Int) : Prop := -2139095040 ≤ n ∧ n ≤ 2139095040 ∧ widI n ≤ o ∧ (n < 2139095040 → o < widI (n + 1))

theorem IsBelow.one {o a b : Int} (ha : IsBelow o a) (hb : IsBelow o b) : a = b := by
  obtain ⟨a1, a2, a3, a4⟩ := ha
  obtain ⟨b1, b2, b3, b4⟩ := hb
  by_cases h : a < b
  · have x := a4 (by omega)
    have y := widI_le (a := a + 1) (b := b) (by omega) (by omega) b2
    omega
  by_cases h' : b < a
  · have x := b4 (by omega)
    have y := widI_le (a := b + 1) (b := a) (by omega) (by omega) a2
    omega
  omega

theorem widI_bot : widI (-2139095040) = -9218868437227405312 := by unfold widI; rw [if_pos (by decide)]; show -((wid 2139095040 : Nat) : Int) = _; rw [wid_top]; rfl
theorem widI_top : widI 2139095040 = 9218868437227405312 := by unfold widI; rw [if_neg (by decide)]; show ((wid 2139095040 : Nat) : Int) = _; rw [wid_top]; rfl

end Go.Proofs.Ytpnfkigeagbhpaa

/- Contracts of the program's widened and BitWiden: a narrow float among the wide ones is 'widI'; nothing that was there is written. -/
namespace Go.Proofs.Ytpnfkigeagbhpaa
open Go.RowKit

theorem call73 (n : Int) (w : World) : (callFunc 100 #[.int .u32 n]).run Try.prog w = .ok (.value (.float .f32 n.toNat)) w := by
  rw [run_callFunc_extern (e := Extern.MathFloatBits.float32frombits) Try.func100 (by kernel_rfl) (by kernel_rfl) (by kernel_rfl) (by kernel_rfl)]; rfl
theorem call74 (n : Nat) (w : World) : (callFunc 103 #[.float .f64 n]).run Try.prog w = .ok (.value (.int .u64 n)) w := by
  rw [run_callFunc_extern (e := Extern.MathFloatBits.float64bits) Try.func103 (by kernel_rfl) (by kernel_rfl) (by kernel_rfl) (by kernel_rfl)]; rfl
theorem call77 (n : Int) (w : World) : (callFunc 106 #[.int .u64 n]).run Try.prog w = .ok (.value (.float .f64 n.toNat)) w := by
  rw [run_callFunc_extern (e := Extern.MathFloatBits.float64frombits) Try.func106 (by kernel_rfl) (by kernel_rfl) (by kernel_rfl) (by kernel_rfl)]; rfl
theorem call78 (n : Nat) (w : World) : (callFunc 107 #[.float .f32 n]).run Try.prog w = .ok (.value (.int .u32 n)) w := by
  rw [run_callFunc_extern (e := Extern.MathFloatBits.float32bits) Try.func107 (by kernel_rfl) (by kernel_rfl) (by kernel_rfl) (by kernel_rfl)]; rfl

set_option maxHeartbeats 400000 in
theorem widened_core (n b v : Int) (X : Nat) (h1 : -2139095040 ≤ n) (h2 : n ≤ 2139095040) (hb : bitsI 2147483648 n = b) (b0 : 0 ≤ b) (b1 : b < 4294967296)
    (hcv : floatToFloatBits .f32 b.toNat .f64 = some X) (hX : Hid (X < 18446744073709551616)) (hv : Hid (ordN 9223372036854775808 9218868437227405312 X = v)) (w : World) :
    Calls Try.prog 90 #[.int .i64 n] w fun e w' => e = .returned (.int .i64 v) ∧ Below w.heap.size w w' := by
  have c1 := call73
  have c2 := call74
  have cv : ∀ w, (convert 108 113 (.float .f32 b.toNat)).run Try.prog w = .ok (.float .f64 X) w := fun w => run_convert_float_float w 108 113 .f32 .f64 _ _ (by kernel_rfl) (by kernel_rfl) hcv
  clear hcv
  go_enter Try.func90, Try.ntmps90
  go_wp2_with (first | (go_at_call 101; refine (iBitBits_32 n h1 h2 _).mono ?_; rintro e w1 ⟨rfl, hb1⟩) | (go_at_call 102; refine (iBitOrd_64 X (by omega) (by have := hX.out; omega) _).mono ?_; rintro e w2 ⟨rfl, hb2⟩))
  go_ret
  exact ⟨ret_int hv.out, (by repeat (first | exact Below.refl _ _ | refine Below.drew ?_ | refine old_alloc ?_ _ | refine old_trans ?_ (by assumption)))⟩

theorem bitsI_word (n : Int) (h1 : -2139095040 ≤ n) (h2 : n ≤ 2139095040) : (bitsI 2147483648 n).toNat = Ieee.single.word (decide (n < 0)) (if n < 0 then (-n).toNat else n.toNat) := by
  have hs : Ieee.single.signWeight = 2147483648 := by decide
  unfold bitsI Ieee.Format.word
  rw [hs]
  by_cases h : n < 0
  · simp only [h, decide_true, if_true]; omega
  · simp only [h, decide_false]; simp

theorem ord_word (neg : Bool) (R : Nat) (h : R ≤ 9218868437227405312) : ordN 9223372036854775808 9218868437227405312 (Ieee.double.word neg R : Nat) = if neg then -(R : Int) else R := by
  have hs : Ieee.double.signWeight = 9223372036854775808 := by decide
  unfold ordN Ieee.Format.word
  rw [hs]
  cases neg
  · simp only [Bool.false_eq_true, if_false]
    (repeat' split) <;> omega
  · simp only [if_true]
    (repeat' split) <;> omega

theorem iWidened (n : Int) (h1 : -2139095040 ≤ n) (h2 : n ≤ 2139095040) (w : World) :
    Calls Try.prog 90 #[.int .i64 n] w fun e w' => e = .returned (.int .i64 (widI n)) ∧ Below w.heap.size w w' := by
  have hr : (if n < 0 then (-n).toNat else n.toNat) ≤ 2139095040 := by split <;> omega
  have hw := bitsI_word n h1 h2
  have hb := wid_bd hr
  have hc := f2f_widen (decide (n < 0)) _ hr
  rw [← hw] at hc
  have hd : Ieee.double.signWeight = 9223372036854775808 := by decide
  refine widened_core n _ _ _ h1 h2 rfl (by unfold bitsI; split <;> omega) (by unfold bitsI; split <;> omega) hc ?_ ?_ w
  · show _ < _
    unfold Ieee.Format.word
    rw [hd]
    split <;> omega
  · show _ = _
    rw [ord_word _ _ hb]
    unfold widI
    by_cases h : n < 0
    · simp only [h, decide_true, if_true]
    · simp only [h, decide_false]; simp

set_option maxHeartbeats 400000 in
theorem iBitWiden (n : Int) (h1 : -2139095040 ≤ n) (h2 : n ≤ 2139095040) (w : World) :
    Calls Try.prog 66 #[.int .i64 n] w fun e w' => e = .returned (.tuple #[.int .i64 (widI n), .bool true]) ∧ Below w.heap.size w w' := by
  go_enter Try.func66, Try.ntmps66
  go_wp2_with (first | (go_at_call 69; refine (iBitOk_32 n h1 h2 _).mono ?_; rintro e w1 ⟨rfl, hb1⟩) | (go_at_call 90; refine (iWidened n h1 h2 _).mono ?_; rintro e w2 ⟨rfl, hb2⟩))
  go_ret2
  exact ⟨rfl, (by repeat (first | exact Below.refl _ _ | refine Below.drew ?_ | refine old_alloc ?_ _ | refine old_trans ?_ (by assumption)))⟩
end Go.Proofs.Ytpnfkigeagbhpaa

/- Draws of a narrow order number and of a wide one: nothing that was there is written. -/
namespace Go.Proofs.Ytpnfkigeagbhpaa
open Go.RowKit


set_option maxHeartbeats 1000000 in
theorem wide_k (rb k : Nat) (w : World) (h : Rk w rb (k + 15)) :
    Calls Try.prog 61 #[.pointer (some ⟨rb, 0, none⟩)] w fun e w' => (∃ v : Int, (-9223372036854775808 ≤ v ∧ v ≤ 9223372036854775807) ∧ e = .returned (.int .i64 v)) ∧ Rk w' rb k ∧ But rb w w' := by
  go_enter Try.func61, Try.ntmps61
  go_wp2_with fail
  refine (pick_k rb _ _ _ h (by decide)).mono ?_
  rintro e w1 ⟨⟨v, ⟨va, vb⟩, rfl⟩, hR1, hB1⟩
  clear h
  by_cases c : 0 < v
  · go_wp2_with fail
    refine (ord_32 rb (k + 1) _ hR1).mono ?_
    rintro e w2 ⟨⟨o, ⟨o1, o2⟩, rfl⟩, hR2, hB2⟩
    clear hR1
    go_wp2_with fail
    by_cases co : -2139095040 ≤ o ∧ o ≤ 2139095040
    · obtain ⟨g1, g2⟩ := widI_bd co.1 co.2
      refine (sBitWiden o co.1 co.2 _).mono ?_
      rintro e w3 ⟨rfl, hb3⟩
      replace hR2 := hR2.old hb3
      go_wp2_with fail
      refine (pick_k rb k _ _ hR2 (by decide)).mono ?_
      rintro e w4 ⟨⟨u, ⟨ua, ub⟩, rfl⟩, hR4, hB4⟩
      clear hR2
      generalize widI o = x at *
      go_wp2
      go_ret
      exact ⟨⟨_, ⟨by omega, by omega⟩, rfl⟩, hR4, ((hB1.trans hB2).trans (But.of hb3)).trans hB4⟩
    · refine (sBitWiden_out o co _).mono ?_
      rintro e w3 ⟨rfl, hb3⟩
      replace hR2 := hR2.old hb3
      go_wp2_with fail
      refine (pick_k rb k _ _ hR2 (by decide)).mono ?_
      rintro e w4 ⟨⟨u, ⟨ua, ub⟩, rfl⟩, hR4, hB4⟩
      clear hR2
      go_wp2
      go_ret
      exact ⟨⟨_, ⟨by omega, by omega⟩, rfl⟩, hR4, ((hB1.trans hB2).trans (But.of hb3)).trans hB4⟩
  · go_wp2_with fail
    refine (ord_64 rb (k + 1) _ hR1).mono ?_
    rintro e w2 ⟨⟨o, ⟨o1, o2⟩, rfl⟩, hR2, hB2⟩
    go_wp2
    go_ret
    exact ⟨⟨o, ⟨o1, o2⟩, rfl⟩, hR2.mono (by omega), hB1.trans hB2⟩
end Go.Proofs.Ytpnfkigeagbhpaa
