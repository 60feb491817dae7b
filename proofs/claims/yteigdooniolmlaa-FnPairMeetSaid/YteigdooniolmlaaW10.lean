/- The contract of the specification's BitWiden and l2Wide: 'widI', of every narrow float; nothing that was there is written. -/
import Derived.Test.YteigdooniolmlaaW9
namespace Go.Proofs.Yteigdooniolmlaa
open Go.RowKit


set_option maxHeartbeats 400000 in
theorem sMake_zero (pw : Int) (bl : Bool) (w : World) (p1 : -149 ≤ pw) (p2 : pw ≤ 104) :
    Calls Try.prog 74 #[.int .i64 64, .agg #[.bool bl, .int .u64 0, .int .i64 pw]] w fun e w' => e = .returned (.tuple #[.int .i64 0, .bool true]) ∧ Below w.heap.size w w' := by
  have t3 : decide (pw < -2000) = false := by simp; omega
  have t4 : decide (2000 < pw) = false := by simp; omega
  go_enter Try.func74, Try.ntmps74
  go_wp2
  go_ret2
  exact ⟨rfl, (by repeat (first | exact Below.refl _ _ | refine Below.drew ?_ | refine Below.setCell ?_ (by simp) _ | refine old_alloc ?_ _ | refine old_trans ?_ (by assumption)))⟩

theorem sMake_wid (sz : Nat) (pw v : Int) (bl : Bool) (w : World) (h1 : 0 < sz) (h2 : sz < 16777216) (p1 : -149 ≤ pw) (p2 : pw ≤ 104)
    (hv : v = (pw - ((52 - sz.log2 : Nat) : Int) + 1074) * 4503599627370496 + ((sz * 2 ^ (52 - sz.log2) : Nat) : Int)) :
    Calls Try.prog 74 #[.int .i64 64, .agg #[.bool bl, .int .u64 (sz : Int), .int .i64 pw]] w fun e w' => e = .returned (.tuple #[.int .i64 (if bl then -v else v), .bool true]) ∧ Below w.heap.size w w' := by
  have hl : sz.log2 ≤ 51 := by
    have := (Nat.log2_lt (n := sz) (by omega) (k := 24)).2 (by omega)
    omega
  have g := dbl_ge sz (by omega) hl
  have D0 : Hid ((fun k : Nat => ((sz * 2 ^ k : Nat) : Int)) 0 = (sz : Int)) := by show _ = _; simp
  have DS : Hid (∀ k, (fun k : Nat => ((sz * 2 ^ k : Nat) : Int)) (k + 1) = (fun k : Nat => ((sz * 2 ^ k : Nat) : Int)) k * 2) := by
    intro k
    show ((sz * 2 ^ (k + 1) : Nat) : Int) = ((sz * 2 ^ k : Nat) : Int) * 2
    rw [Nat.pow_succ, ← Nat.mul_assoc]; push_cast; rfl
  have DP : Hid (∀ k, 0 < (fun k : Nat => ((sz * 2 ^ k : Nat) : Int)) k) := by
    intro k
    have : 0 < sz * 2 ^ k := Nat.mul_pos h1 (Nat.two_pow_pos k)
    show (0 : Int) < ((sz * 2 ^ k : Nat) : Int)
    omega
  have DL : Hid (∀ k, k < 52 - sz.log2 → (fun k : Nat => ((sz * 2 ^ k : Nat) : Int)) k < 4503599627370496) := by
    intro k hk
    have := dbl_lt sz k hl hk
    show ((sz * 2 ^ k : Nat) : Int) < 4503599627370496
    omega
  have DG : Hid (4503599627370496 ≤ (fun k : Nat => ((sz * 2 ^ k : Nat) : Int)) (52 - sz.log2)) := by
    show 4503599627370496 ≤ ((sz * 2 ^ (52 - sz.log2) : Nat) : Int)
    omega
  have DH : Hid ((fun k : Nat => ((sz * 2 ^ k : Nat) : Int)) (52 - sz.log2) < 9007199254740992) := by
    show ((sz * 2 ^ (52 - sz.log2) : Nat) : Int) < 9007199254740992
    omega
  rw [hv]
  generalize hd : ((sz : Int) % 2 == 0) = od
  cases bl <;> cases od
  · exact sMake_false_false sz pw _ _ w (by omega) (by omega) p1 p2 hd D0 DS DP DL DG DH (by omega)
  · exact sMake_true_false sz pw _ _ w (by omega) (by omega) p1 p2 hd D0 DS DP DL DG DH (by omega)
  · exact sMake_false_true sz pw _ _ w (by omega) (by omega) p1 p2 hd D0 DS DP DL DG DH (by omega)
  · exact sMake_true_true sz pw _ _ w (by omega) (by omega) p1 p2 hd D0 DS DP DL DG DH (by omega)

theorem wid_val (r : Nat) (h0 : r ≠ 0) (h : r < 2139095040) (sz : Nat) (pw : Int) (hs : (sz : Int) = pSize 8388608 r) (hp : pw = pPow 8388608 (-149) r) :
    0 < sz ∧ sz < 16777216 ∧ -149 ≤ pw ∧ pw ≤ 104 ∧ (wid r : Int) = (pw - ((52 - sz.log2 : Nat) : Int) + 1074) * 4503599627370496 + ((sz * 2 ^ (52 - sz.log2) : Nat) : Int) := by
  by_cases h1 : r < 8388608
  · have e1 : sz = r := by unfold pSize at hs; rw [if_pos (by omega)] at hs; omega
    have e2 : pw = -149 := by unfold pPow at hp; rw [if_pos (by omega)] at hp; exact hp
    subst e1 e2
    have hl : sz.log2 < 23 := (Nat.log2_lt h0).2 h1
    refine ⟨by omega, by omega, by omega, by omega, ?_⟩
    rw [wid_small h0 h1]
    generalize sz * 2 ^ (52 - sz.log2) = x
    omega
  · have e1 : sz = 8388608 + r % 8388608 := by unfold pSize at hs; rw [if_neg (by omega)] at hs; omega
    have e2 : pw = -149 + ((r : Int) / 8388608 - 1) := by unfold pPow at hp; rw [if_neg (by omega)] at hp; exact hp
    have hl : sz.log2 = 23 := by rw [Nat.log2_eq_iff (by omega)]; omega
    refine ⟨by omega, by omega, by omega, by omega, ?_⟩
    rw [wid_common (by omega) h, hl]
    omega

theorem sMakeW (n : Int) (h1 : -2139095040 < n) (h2 : n < 2139095040) (w : World) :
    Calls Try.prog 74 #[.int .i64 64, .agg #[.bool (decide (n < 0)), .int .u64 (pSize 8388608 (absI n)), .int .i64 (pPow 8388608 (-149) (absI n))]] w fun e w' => e = .returned (.tuple #[.int .i64 (widI n), .bool true]) ∧ Below w.heap.size w w' := by
  by_cases h0 : n = 0
  · subst h0
    exact sMake_zero (-149) false w (by omega) (by omega)
  obtain ⟨r, hr⟩ : ∃ r : Nat, absI n = r := ⟨(absI n).toNat, by unfold absI; split <;> omega⟩
  have ha : (r : Int) = if n < 0 then -n else n := by rw [← hr]; rfl
  rw [hr]
  obtain ⟨sz, hs⟩ : ∃ sz : Nat, (sz : Int) = pSize 8388608 r := ⟨(pSize 8388608 r).toNat, by unfold pSize; split <;> omega⟩
  obtain ⟨a, b, c, d, e⟩ := wid_val r (by split at ha <;> omega) (by split at ha <;> omega) sz _ hs rfl
  rw [← hs]
  have hw : widI n = if decide (n < 0) then -(wid r : Int) else (wid r : Int) := by
    unfold widI
    by_cases hn : n < 0
    · have : (-n).toNat = r := by rw [if_pos hn] at ha; omega
      simp [hn, this]
    · have : n.toNat = r := by rw [if_neg hn] at ha; omega
      simp [hn, this]
  rw [hw]
  exact sMake_wid sz _ _ _ w a b c d e

set_option maxHeartbeats 400000 in
theorem sBitWiden_fin (n : Int) (h1 : -2139095040 < n) (h2 : n < 2139095040) (w : World) :
    Calls Try.prog 65 #[.int .i64 n] w fun e w' => e = .returned (.tuple #[.int .i64 (widI n), .bool true]) ∧ Below w.heap.size w w' := by
  have k1 : -2139095040 ≤ n := by omega
  have k2 : n ≤ 2139095040 := by omega
  go_enter Try.func65, Try.ntmps65
  go_wp2_with (first | (go_at_call 48; refine (sBitOk_32 n _ k1 k2).mono ?_; rintro e w1 ⟨rfl, hb1⟩) | (go_at_call 73; refine (sPart_32 n h1 h2 _).mono ?_; rintro e w2 ⟨rfl, hb2⟩; unfold partV) | (go_at_call 74; refine (sMakeW n h1 h2 _).mono ?_; rintro e w3 ⟨rfl, hb3⟩))
  go_ret2
  exact ⟨rfl, (by repeat (first | exact Below.refl _ _ | refine Below.drew ?_ | refine Below.setCell ?_ (by simp) _ | refine old_alloc ?_ _ | refine old_trans ?_ (by assumption)))⟩
set_option maxHeartbeats 400000 in
theorem sBitWiden_top (w : World) :
    Calls Try.prog 65 #[.int .i64 2139095040] w fun e w' => e = .returned (.tuple #[.int .i64 9218868437227405312, .bool true]) ∧ Below w.heap.size w w' := by
  go_enter Try.func65, Try.ntmps65
  go_wp2_with (first | (go_at_call 48; refine (sBitOk_32 _ _ (by decide) (by decide)).mono ?_; rintro e w1 ⟨rfl, hb1⟩) | (go_at_call 73; refine (sPart_32_top _).mono ?_; rintro e w2 ⟨rfl, hb2⟩; unfold partNo) | go_in)
  go_ret2
  exact ⟨rfl, (by repeat (first | exact Below.refl _ _ | refine Below.drew ?_ | refine Below.setCell ?_ (by simp) _ | refine old_alloc ?_ _ | refine old_trans ?_ (by assumption)))⟩
set_option maxHeartbeats 400000 in
theorem sBitWiden_bot (w : World) :
    Calls Try.prog 65 #[.int .i64 (-2139095040)] w fun e w' => e = .returned (.tuple #[.int .i64 (-9218868437227405312), .bool true]) ∧ Below w.heap.size w w' := by
  go_enter Try.func65, Try.ntmps65
  go_wp2_with (first | (go_at_call 48; refine (sBitOk_32 _ _ (by decide) (by decide)).mono ?_; rintro e w1 ⟨rfl, hb1⟩) | (go_at_call 73; refine (sPart_32_bot _).mono ?_; rintro e w2 ⟨rfl, hb2⟩; unfold partNo) | go_in)
  go_ret2
  exact ⟨rfl, (by repeat (first | exact Below.refl _ _ | refine Below.drew ?_ | refine Below.setCell ?_ (by simp) _ | refine old_alloc ?_ _ | refine old_trans ?_ (by assumption)))⟩
theorem sBitWiden (n : Int) (h1 : -2139095040 ≤ n) (h2 : n ≤ 2139095040) (w : World) :
    Calls Try.prog 65 #[.int .i64 n] w fun e w' => e = .returned (.tuple #[.int .i64 (widI n), .bool true]) ∧ Below w.heap.size w w' := by
  by_cases c1 : n = 2139095040
  · subst c1
    have : widI 2139095040 = 9218868437227405312 := by unfold widI; rw [if_neg (by decide)]; show ((wid 2139095040 : Nat) : Int) = _; rw [wid_top]; rfl
    rw [this]; exact sBitWiden_top w
  by_cases c2 : n = -2139095040
  · subst c2
    have : widI (-2139095040) = -9218868437227405312 := by unfold widI; rw [if_pos (by decide)]; show -((wid 2139095040 : Nat) : Int) = _; rw [wid_top]; rfl
    rw [this]; exact sBitWiden_bot w
  exact sBitWiden_fin n (by omega) (by omega) w
set_option maxHeartbeats 400000 in
theorem sBitWiden_out (n : Int) (h : ¬ (-2139095040 ≤ n ∧ n ≤ 2139095040)) (w : World) :
    Calls Try.prog 65 #[.int .i64 n] w fun e w' => e = .returned (.tuple #[.int .i64 0, .bool false]) ∧ Below w.heap.size w w' := by
  go_enter Try.func65, Try.ntmps65
  go_wp2_with (go_at_call 48; refine (sBitOk_32_out n _ h).mono ?_; rintro e w1 ⟨rfl, hb1⟩)
  go_ret2
  exact ⟨rfl, (by repeat (first | exact Below.refl _ _ | refine Below.drew ?_ | refine Below.setCell ?_ (by simp) _ | refine old_alloc ?_ _ | refine old_trans ?_ (by assumption)))⟩
set_option maxHeartbeats 400000 in
theorem sWide (n : Int) (h1 : -2139095040 ≤ n) (h2 : n ≤ 2139095040) (w : World) :
    Calls Try.prog 56 #[.int .i64 n] w fun e w' => e = .returned (.int .i64 (widI n)) ∧ Below w.heap.size w w' := by
  go_enter Try.func56, Try.ntmps56
  go_wp2_with (go_at_call 65; refine (sBitWiden n h1 h2 _).mono ?_; rintro e w1 ⟨rfl, hb1⟩)
  go_ret
  exact ⟨rfl, (by repeat (first | exact Below.refl _ _ | refine Below.drew ?_ | refine Below.setCell ?_ (by simp) _ | refine old_alloc ?_ _ | refine old_trans ?_ (by assumption)))⟩
end Go.Proofs.Yteigdooniolmlaa
