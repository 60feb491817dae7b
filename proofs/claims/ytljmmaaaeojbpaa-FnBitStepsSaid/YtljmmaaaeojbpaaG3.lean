/- The contract of the laws' pbLess at the parts of two finite floats of one width: it answers whether the first order number is the lesser one; nothing that was there is written. -/
import Derived.Test.YtljmmaaaeojbpaaG1
import Derived.Test.YtljmmaaaeojbpaaG2
namespace Go.Proofs.Ytljmmaaaeojbpaa
open Go.RowKit


set_option maxHeartbeats 400000 in
theorem pb_00 (a b : Bool) (I J : Int) (w : World) :
    Calls Try.prog 23 #[.agg #[.bool a, .int .u64 0, .int .i64 I], .agg #[.bool b, .int .u64 0, .int .i64 J]] w fun e w' => e = .returned (.bool false) ∧ Below w.heap.size w w' := by
  go_enter Try.func23, Try.ntmps23
  go_wp2
  go_ret
  exact ⟨rfl, (by repeat (first | exact Below.refl _ _ | refine Below.drew ?_ | refine below_drewN ?_ _ | refine Below.setCell ?_ (by simp <;> omega) _ | refine old_alloc ?_ _ | refine old_trans ?_ (by assumption)))⟩
set_option maxHeartbeats 400000 in
theorem pb_0x (a b : Bool) (Q I J : Int) (w : World) (h : 0 < Q) :
    Calls Try.prog 23 #[.agg #[.bool a, .int .u64 0, .int .i64 I], .agg #[.bool b, .int .u64 Q, .int .i64 J]] w fun e w' => e = .returned (.bool !b) ∧ Below w.heap.size w w' := by
  have t2 : (Q == 0) = false := by simp; omega
  go_enter Try.func23, Try.ntmps23
  go_wp2
  go_ret
  exact ⟨rfl, (by repeat (first | exact Below.refl _ _ | refine Below.drew ?_ | refine below_drewN ?_ _ | refine Below.setCell ?_ (by simp <;> omega) _ | refine old_alloc ?_ _ | refine old_trans ?_ (by assumption)))⟩
set_option maxHeartbeats 400000 in
theorem pb_x0 (a b : Bool) (P I J : Int) (w : World) (h : 0 < P) :
    Calls Try.prog 23 #[.agg #[.bool a, .int .u64 P, .int .i64 I], .agg #[.bool b, .int .u64 0, .int .i64 J]] w fun e w' => e = .returned (.bool a) ∧ Below w.heap.size w w' := by
  have t2 : (P == 0) = false := by simp; omega
  go_enter Try.func23, Try.ntmps23
  go_wp2
  go_ret
  exact ⟨rfl, (by repeat (first | exact Below.refl _ _ | refine Below.drew ?_ | refine below_drewN ?_ _ | refine Below.setCell ?_ (by simp <;> omega) _ | refine old_alloc ?_ _ | refine old_trans ?_ (by assumption)))⟩

set_option maxHeartbeats 400000 in
theorem pb_diff_true (P Q I J : Int) (w : World) (h : 0 < P) (h' : 0 < Q) :
    Calls Try.prog 23 #[.agg #[.bool true, .int .u64 P, .int .i64 I], .agg #[.bool false, .int .u64 Q, .int .i64 J]] w fun e w' => e = .returned (.bool true) ∧ Below w.heap.size w w' := by
  have t1 : (P == 0) = false := by simp; omega
  have t2 : (Q == 0) = false := by simp; omega
  go_enter Try.func23, Try.ntmps23
  go_wp2
  go_ret
  exact ⟨rfl, (by repeat (first | exact Below.refl _ _ | refine Below.drew ?_ | refine below_drewN ?_ _ | refine Below.setCell ?_ (by simp <;> omega) _ | refine old_alloc ?_ _ | refine old_trans ?_ (by assumption)))⟩

set_option maxHeartbeats 400000 in
theorem pb_diff_false (P Q I J : Int) (w : World) (h : 0 < P) (h' : 0 < Q) :
    Calls Try.prog 23 #[.agg #[.bool false, .int .u64 P, .int .i64 I], .agg #[.bool true, .int .u64 Q, .int .i64 J]] w fun e w' => e = .returned (.bool false) ∧ Below w.heap.size w w' := by
  have t1 : (P == 0) = false := by simp; omega
  have t2 : (Q == 0) = false := by simp; omega
  go_enter Try.func23, Try.ntmps23
  go_wp2
  go_ret
  exact ⟨rfl, (by repeat (first | exact Below.refl _ _ | refine Below.drew ?_ | refine below_drewN ?_ _ | refine Below.setCell ?_ (by simp <;> omega) _ | refine old_alloc ?_ _ | refine old_trans ?_ (by assumption)))⟩

theorem pos_cast {P : Nat} (h : 0 < P) : (0 : Int) < (P : Int) := by omega
theorem dd_lt (sz k : Nat) (hl : sz.log2 ≤ 63) (hk : k < 63 - sz.log2) : sz * 2 ^ k < 9223372036854775808 := by
  have := Nat.lt_log2_self (n := sz)
  calc sz * 2 ^ k < 2 ^ (sz.log2 + 1) * 2 ^ k := Nat.mul_lt_mul_of_pos_right this (Nat.two_pow_pos _)
    _ = 2 ^ (sz.log2 + 1 + k) := by rw [← Nat.pow_add]
    _ ≤ 2 ^ 63 := Nat.pow_le_pow_right (by omega) (by omega)
theorem dd_ge (sz : Nat) (h0 : sz ≠ 0) (hl : sz.log2 ≤ 63) : 9223372036854775808 ≤ sz * 2 ^ (63 - sz.log2) := by
  have h2 := Nat.log2_self_le h0
  calc 9223372036854775808 = 2 ^ sz.log2 * 2 ^ (63 - sz.log2) := by rw [← Nat.pow_add, show sz.log2 + (63 - sz.log2) = 63 by omega]
    _ ≤ sz * 2 ^ (63 - sz.log2) := Nat.mul_le_mul_right _ h2

/-- sizes, doubled -/
def dd (sz : Nat) (k : Nat) : Int := ((sz * 2 ^ k : Nat) : Int)
theorem dd_facts (sz : Nat) (h0 : 0 < sz) (hl : sz.log2 ≤ 63) : Hid (dd sz 0 = (sz : Int)) ∧ Hid (∀ k, dd sz (k + 1) = dd sz k * 2) ∧ Hid (∀ k, 0 < dd sz k) ∧ Hid (∀ k, k < 63 - sz.log2 → dd sz k < 9223372036854775808) ∧ Hid (9223372036854775808 ≤ dd sz (63 - sz.log2)) := by
  refine ⟨?_, ?_, ?_, ?_, ?_⟩
  · show _ = _; simp [dd]
  · intro k; unfold dd; rw [Nat.pow_succ, ← Nat.mul_assoc]; push_cast; rfl
  · intro k; unfold dd; have : 0 < sz * 2 ^ k := Nat.mul_pos h0 (Nat.two_pow_pos k); omega
  · intro k hk; unfold dd; have := dd_lt sz k hl hk; omega
  · show _ ≤ _; unfold dd; have := dd_ge sz (by omega) hl; omega

/-- how two sizes with their powers stand, as pbLess compares them -/
def cmpB (P Q : Nat) (I J : Int) : Bool := decide (I - ((63 - P.log2 : Nat) : Int) < J - ((63 - Q.log2 : Nat) : Int)) || (I - ((63 - P.log2 : Nat) : Int) == J - ((63 - Q.log2 : Nat) : Int) && decide (dd P (63 - P.log2) < dd Q (63 - Q.log2)))

theorem pb_same (bl : Bool) (P Q : Nat) (I J : Int) (w : World) (p1 : 0 < P) (p2 : P < 9007199254740992) (q1 : 0 < Q) (q2 : Q < 9007199254740992) (i1 : -2000 ≤ I) (i2 : I ≤ 2000) (j1 : -2000 ≤ J) (j2 : J ≤ 2000) :
    Calls Try.prog 23 #[.agg #[.bool bl, .int .u64 (P : Int), .int .i64 I], .agg #[.bool bl, .int .u64 (Q : Int), .int .i64 J]] w fun e w' => e = .returned (.bool (if bl then cmpB Q P J I else cmpB P Q I J)) ∧ Below w.heap.size w w' := by
  have lp : P.log2 < 53 := (Nat.log2_lt (by omega)).2 p2
  have lq : Q.log2 < 53 := (Nat.log2_lt (by omega)).2 q2
  obtain ⟨a1, a2, a3, a4, a5⟩ := dd_facts P p1 (by omega)
  obtain ⟨b1, b2, b3, b4, b5⟩ := dd_facts Q q1 (by omega)
  cases bl
  · exact pb_pos P Q I J _ _ _ _ _ w (by omega) (by omega) i1 i2 j1 j2 (by omega) (by omega) a1 a2 a3 a4 a5 b1 b2 b3 b4 b5 rfl
  · exact pb_neg P Q I J _ _ _ _ _ w (by omega) (by omega) i1 i2 j1 j2 (by omega) (by omega) b1 b2 b3 b4 b5 a1 a2 a3 a4 a5 rfl

theorem log2_le_of_lt {s t : Nat} (h0 : s ≠ 0) (h : s < t) : s.log2 ≤ t.log2 := by
  apply Nat.le_of_not_lt
  intro hl
  have a := Nat.lt_log2_self (n := t)
  have b := Nat.log2_self_le h0
  have c : 2 ^ (t.log2 + 1) ≤ 2 ^ s.log2 := Nat.pow_le_pow_right (by omega) (by omega)
  omega

theorem cmpB_of {P Q : Nat} {I J : Int} (h : I - ((63 - P.log2 : Nat) : Int) < J - ((63 - Q.log2 : Nat) : Int) ∨ (I - ((63 - P.log2 : Nat) : Int) = J - ((63 - Q.log2 : Nat) : Int) ∧ P * 2 ^ (63 - P.log2) < Q * 2 ^ (63 - Q.log2))) : cmpB P Q I J = true ∧ cmpB Q P J I = false := by
  unfold cmpB dd
  generalize P * 2 ^ (63 - P.log2) = x at *
  generalize Q * 2 ^ (63 - Q.log2) = y at *
  generalize I - ((63 - P.log2 : Nat) : Int) = a at *
  generalize J - ((63 - Q.log2 : Nat) : Int) = b at *
  rcases h with h | ⟨h, g⟩
  · constructor
    · simp [h]
    · have h1 : ¬ b < a := by omega
      have h2 : ¬ b = a := by omega
      simp [h1, h2]
  · subst h
    constructor
    · simp; omega
    · simp; omega
theorem cmpB_self (P : Nat) (I : Int) : cmpB P P I I = false := by unfold cmpB; simp

theorem lex_32 (s t : Nat) (P Q : Nat) (I J : Int) (h0 : s ≠ 0) (h : s < t) (hP : (P : Int) = pSize 8388608 s) (hQ : (Q : Int) = pSize 8388608 t) (hI : I = pPow 8388608 (-149) s) (hJ : J = pPow 8388608 (-149) t) :
    I - ((63 - P.log2 : Nat) : Int) < J - ((63 - Q.log2 : Nat) : Int) ∨ (I - ((63 - P.log2 : Nat) : Int) = J - ((63 - Q.log2 : Nat) : Int) ∧ P * 2 ^ (63 - P.log2) < Q * 2 ^ (63 - Q.log2)) := by
  by_cases h1 : t < 8388608
  · have e1 : P = s := by unfold pSize at hP; rw [if_pos (by omega)] at hP; omega
    have e2 : Q = t := by unfold pSize at hQ; rw [if_pos (by omega)] at hQ; omega
    have e3 : I = -149 := by unfold pPow at hI; rw [if_pos (by omega)] at hI; exact hI
    have e4 : J = -149 := by unfold pPow at hJ; rw [if_pos (by omega)] at hJ; exact hJ
    subst e1 e2 e3 e4
    have l1 := log2_le_of_lt h0 h
    have l2 : Q.log2 < 23 := (Nat.log2_lt (by omega)).2 h1
    by_cases hl : P.log2 = Q.log2
    · right
      rw [hl]
      exact ⟨rfl, Nat.mul_lt_mul_of_pos_right h (Nat.two_pow_pos _)⟩
    · left; omega
  · have e2 : Q = 8388608 + t % 8388608 := by unfold pSize at hQ; rw [if_neg (by omega)] at hQ; omega
    have e4 : J = -149 + ((t : Int) / 8388608 - 1) := by unfold pPow at hJ; rw [if_neg (by omega)] at hJ; exact hJ
    have lq : Q.log2 = 23 := by rw [Nat.log2_eq_iff (by omega)]; omega
    by_cases h2 : s < 8388608
    · have e1 : P = s := by unfold pSize at hP; rw [if_pos (by omega)] at hP; omega
      have e3 : I = -149 := by unfold pPow at hI; rw [if_pos (by omega)] at hI; exact hI
      subst e1
      have l2 : P.log2 < 23 := (Nat.log2_lt h0).2 h2
      left
      rw [lq]
      omega
    · have e1 : P = 8388608 + s % 8388608 := by unfold pSize at hP; rw [if_neg (by omega)] at hP; omega
      have e3 : I = -149 + ((s : Int) / 8388608 - 1) := by unfold pPow at hI; rw [if_neg (by omega)] at hI; exact hI
      have lp : P.log2 = 23 := by rw [Nat.log2_eq_iff (by omega)]; omega
      rw [lp, lq]
      by_cases h3 : s / 8388608 < t / 8388608
      · left; omega
      · right
        refine ⟨by omega, Nat.mul_lt_mul_of_pos_right (by omega) (Nat.two_pow_pos _)⟩

theorem part_bd_32 (n : Int) (h1 : -2139095040 < n) (h2 : n < 2139095040) (h0 : n ≠ 0) : ∃ s P : Nat, (s : Int) = absI n ∧ s ≠ 0 ∧ (P : Int) = pSize 8388608 s ∧ 0 < P ∧ P < 9007199254740992 ∧ -2000 ≤ pPow 8388608 (-149) s ∧ pPow 8388608 (-149) s ≤ 2000 := by
  have ha : absI n = if n < 0 then -n else n := rfl
  obtain ⟨s, hs⟩ : ∃ s : Nat, (s : Int) = absI n := ⟨(absI n).toNat, by rw [ha]; split <;> omega⟩
  have hs' : (s : Int) = if n < 0 then -n else n := by rw [hs, ha]
  have s0 : s ≠ 0 := by split at hs' <;> omega
  have s1 : s < 2139095040 := by split at hs' <;> omega
  refine ⟨s, (pSize 8388608 s).toNat, hs, s0, ?_⟩
  unfold pSize pPow
  by_cases h : (s : Int) < 8388608
  · rw [if_pos h, if_pos h]; omega
  · rw [if_neg h, if_neg h]; omega

theorem pbLess_32 (n m : Int) (n1 : -2139095040 < n) (n2 : n < 2139095040) (m1 : -2139095040 < m) (m2 : m < 2139095040) (w : World) :
    Calls Try.prog 23 #[.agg #[.bool (decide (n < 0)), .int .u64 (pSize 8388608 (absI n)), .int .i64 (pPow 8388608 (-149) (absI n))], .agg #[.bool (decide (m < 0)), .int .u64 (pSize 8388608 (absI m)), .int .i64 (pPow 8388608 (-149) (absI m))]] w fun e w' => e = .returned (.bool (decide (n < m))) ∧ Below w.heap.size w w' := by
  have z : pSize 8388608 (absI 0) = 0 := by decide
  by_cases hn : n = 0
  · subst hn
    rw [z]
    by_cases hm : m = 0
    · subst hm
      rw [z]
      exact pb_00 _ _ _ _ w
    · obtain ⟨t, Q, ht, t0, hQ, q1, q2, j1, j2⟩ := part_bd_32 m m1 m2 hm
      rw [← ht, ← hQ]
      have e : decide ((0 : Int) < m) = !decide (m < 0) := by
        by_cases c : m < 0
        · simp [c]; omega
        · simp [c]; omega
      rw [e]
      exact pb_0x _ _ Q _ _ w (by omega)
  · obtain ⟨s, P, hs, s0, hP, p1, p2, i1, i2⟩ := part_bd_32 n n1 n2 hn
    rw [← hs, ← hP]
    by_cases hm : m = 0
    · subst hm
      rw [z]
      exact pb_x0 _ _ P _ _ w (by omega)
    · obtain ⟨t, Q, ht, t0, hQ, q1, q2, j1, j2⟩ := part_bd_32 m m1 m2 hm
      rw [← ht, ← hQ]
      have hs' : (s : Int) = if n < 0 then -n else n := hs
      have ht' : (t : Int) = if m < 0 then -m else m := ht
      by_cases cn : n < 0
      · rw [if_pos cn] at hs'
        by_cases cm : m < 0
        · rw [if_pos cm] at ht'
          have e1 : decide (n < 0) = true := by simpa using cn
          have e2 : decide (m < 0) = true := by simpa using cm
          rw [e1, e2]
          have h := pb_same true P Q _ _ w p1 p2 q1 q2 i1 i2 j1 j2
          rw [if_pos rfl] at h
          by_cases c : n < m
          · have e3 : decide (n < m) = true := by simpa using c
            rw [e3]
            rw [(cmpB_of (lex_32 t s Q P _ _ t0 (by omega) hQ hP rfl rfl)).1] at h
            exact h
          · have e3 : decide (n < m) = false := by simpa using c
            rw [e3]
            by_cases c' : n = m
            · have es : s = t := by omega
              subst es
              have ep : P = Q := by omega
              subst ep
              rw [cmpB_self] at h
              exact h
            · rw [(cmpB_of (lex_32 s t P Q _ _ s0 (by omega) hP hQ rfl rfl)).2] at h
              exact h
        · have e1 : decide (n < 0) = true := by simpa using cn
          have e2 : decide (m < 0) = false := by simpa using cm
          have e3 : decide (n < m) = true := by simp; omega
          rw [e1, e2, e3]
          exact pb_diff_true P Q _ _ w (pos_cast p1) (pos_cast q1)
      · rw [if_neg cn] at hs'
        have e1 : decide (n < 0) = false := by simpa using cn
        by_cases cm : m < 0
        · have e2 : decide (m < 0) = true := by simpa using cm
          have e3 : decide (n < m) = false := by simp; omega
          rw [e1, e2, e3]
          exact pb_diff_false P Q _ _ w (pos_cast p1) (pos_cast q1)
        · rw [if_neg cm] at ht'
          have e2 : decide (m < 0) = false := by simpa using cm
          rw [e1, e2]
          have h := pb_same false P Q _ _ w p1 p2 q1 q2 i1 i2 j1 j2
          rw [if_neg (by decide)] at h
          by_cases c : n < m
          · have e3 : decide (n < m) = true := by simpa using c
            rw [e3]
            rw [(cmpB_of (lex_32 s t P Q _ _ s0 (by omega) hP hQ rfl rfl)).1] at h
            exact h
          · have e3 : decide (n < m) = false := by simpa using c
            rw [e3]
            by_cases c' : n = m
            · have es : s = t := by omega
              subst es
              have ep : P = Q := by omega
              subst ep
              rw [cmpB_self] at h
              exact h
            · rw [(cmpB_of (lex_32 t s Q P _ _ t0 (by omega) hQ hP rfl rfl)).2] at h
              exact h

theorem lex_64 (s t : Nat) (P Q : Nat) (I J : Int) (h0 : s ≠ 0) (h : s < t) (hP : (P : Int) = pSize 4503599627370496 s) (hQ : (Q : Int) = pSize 4503599627370496 t) (hI : I = pPow 4503599627370496 (-1074) s) (hJ : J = pPow 4503599627370496 (-1074) t) :
    I - ((63 - P.log2 : Nat) : Int) < J - ((63 - Q.log2 : Nat) : Int) ∨ (I - ((63 - P.log2 : Nat) : Int) = J - ((63 - Q.log2 : Nat) : Int) ∧ P * 2 ^ (63 - P.log2) < Q * 2 ^ (63 - Q.log2)) := by
  by_cases h1 : t < 4503599627370496
  · have e1 : P = s := by unfold pSize at hP; rw [if_pos (by omega)] at hP; omega
    have e2 : Q = t := by unfold pSize at hQ; rw [if_pos (by omega)] at hQ; omega
    have e3 : I = -1074 := by unfold pPow at hI; rw [if_pos (by omega)] at hI; exact hI
    have e4 : J = -1074 := by unfold pPow at hJ; rw [if_pos (by omega)] at hJ; exact hJ
    subst e1 e2 e3 e4
    have l1 := log2_le_of_lt h0 h
    have l2 : Q.log2 < 52 := (Nat.log2_lt (by omega)).2 h1
    by_cases hl : P.log2 = Q.log2
    · right
      rw [hl]
      exact ⟨rfl, Nat.mul_lt_mul_of_pos_right h (Nat.two_pow_pos _)⟩
    · left; omega
  · have e2 : Q = 4503599627370496 + t % 4503599627370496 := by unfold pSize at hQ; rw [if_neg (by omega)] at hQ; omega
    have e4 : J = -1074 + ((t : Int) / 4503599627370496 - 1) := by unfold pPow at hJ; rw [if_neg (by omega)] at hJ; exact hJ
    have lq : Q.log2 = 52 := by rw [Nat.log2_eq_iff (by omega)]; omega
    by_cases h2 : s < 4503599627370496
    · have e1 : P = s := by unfold pSize at hP; rw [if_pos (by omega)] at hP; omega
      have e3 : I = -1074 := by unfold pPow at hI; rw [if_pos (by omega)] at hI; exact hI
      subst e1
      have l2 : P.log2 < 52 := (Nat.log2_lt h0).2 h2
      left
      rw [lq]
      omega
    · have e1 : P = 4503599627370496 + s % 4503599627370496 := by unfold pSize at hP; rw [if_neg (by omega)] at hP; omega
      have e3 : I = -1074 + ((s : Int) / 4503599627370496 - 1) := by unfold pPow at hI; rw [if_neg (by omega)] at hI; exact hI
      have lp : P.log2 = 52 := by rw [Nat.log2_eq_iff (by omega)]; omega
      rw [lp, lq]
      by_cases h3 : s / 4503599627370496 < t / 4503599627370496
      · left; omega
      · right
        refine ⟨by omega, Nat.mul_lt_mul_of_pos_right (by omega) (Nat.two_pow_pos _)⟩

theorem part_bd_64 (n : Int) (h1 : -9218868437227405312 < n) (h2 : n < 9218868437227405312) (h0 : n ≠ 0) : ∃ s P : Nat, (s : Int) = absI n ∧ s ≠ 0 ∧ (P : Int) = pSize 4503599627370496 s ∧ 0 < P ∧ P < 9007199254740992 ∧ -2000 ≤ pPow 4503599627370496 (-1074) s ∧ pPow 4503599627370496 (-1074) s ≤ 2000 := by
  have ha : absI n = if n < 0 then -n else n := rfl
  obtain ⟨s, hs⟩ : ∃ s : Nat, (s : Int) = absI n := ⟨(absI n).toNat, by rw [ha]; split <;> omega⟩
  have hs' : (s : Int) = if n < 0 then -n else n := by rw [hs, ha]
  have s0 : s ≠ 0 := by split at hs' <;> omega
  have s1 : s < 9218868437227405312 := by split at hs' <;> omega
  refine ⟨s, (pSize 4503599627370496 s).toNat, hs, s0, ?_⟩
  unfold pSize pPow
  by_cases h : (s : Int) < 4503599627370496
  · rw [if_pos h, if_pos h]; omega
  · rw [if_neg h, if_neg h]; omega

theorem pbLess_64 (n m : Int) (n1 : -9218868437227405312 < n) (n2 : n < 9218868437227405312) (m1 : -9218868437227405312 < m) (m2 : m < 9218868437227405312) (w : World) :
    Calls Try.prog 23 #[.agg #[.bool (decide (n < 0)), .int .u64 (pSize 4503599627370496 (absI n)), .int .i64 (pPow 4503599627370496 (-1074) (absI n))], .agg #[.bool (decide (m < 0)), .int .u64 (pSize 4503599627370496 (absI m)), .int .i64 (pPow 4503599627370496 (-1074) (absI m))]] w fun e w' => e = .returned (.bool (decide (n < m))) ∧ Below w.heap.size w w' := by
  have z : pSize 4503599627370496 (absI 0) = 0 := by decide
  by_cases hn : n = 0
  · subst hn
    rw [z]
    by_cases hm : m = 0
    · subst hm
      rw [z]
      exact pb_00 _ _ _ _ w
    · obtain ⟨t, Q, ht, t0, hQ, q1, q2, j1, j2⟩ := part_bd_64 m m1 m2 hm
      rw [← ht, ← hQ]
      have e : decide ((0 : Int) < m) = !decide (m < 0) := by
        by_cases c : m < 0
        · simp [c]; omega
        · simp [c]; omega
      rw [e]
      exact pb_0x _ _ Q _ _ w (by omega)
  · obtain ⟨s, P, hs, s0, hP, p1, p2, i1, i2⟩ := part_bd_64 n n1 n2 hn
    rw [← hs, ← hP]
    by_cases hm : m = 0
    · subst hm
      rw [z]
      exact pb_x0 _ _ P _ _ w (by omega)
    · obtain ⟨t, Q, ht, t0, hQ, q1, q2, j1, j2⟩ := part_bd_64 m m1 m2 hm
      rw [← ht, ← hQ]
      have hs' : (s : Int) = if n < 0 then -n else n := hs
      have ht' : (t : Int) = if m < 0 then -m else m := ht
      by_cases cn : n < 0
      · rw [if_pos cn] at hs'
        by_cases cm : m < 0
        · rw [if_pos cm] at ht'
          have e1 : decide (n < 0) = true := by simpa using cn
          have e2 : decide (m < 0) = true := by simpa using cm
          rw [e1, e2]
          have h := pb_same true P Q _ _ w p1 p2 q1 q2 i1 i2 j1 j2
          rw [if_pos rfl] at h
          by_cases c : n < m
          · have e3 : decide (n < m) = true := by simpa using c
            rw [e3]
            rw [(cmpB_of (lex_64 t s Q P _ _ t0 (by omega) hQ hP rfl rfl)).1] at h
            exact h
          · have e3 : decide (n < m) = false := by simpa using c
            rw [e3]
            by_cases c' : n = m
            · have es : s = t := by omega
              subst es
              have ep : P = Q := by omega
              subst ep
              rw [cmpB_self] at h
              exact h
            · rw [(cmpB_of (lex_64 s t P Q _ _ s0 (by omega) hP hQ rfl rfl)).2] at h
              exact h
        · have e1 : decide (n < 0) = true := by simpa using cn
          have e2 : decide (m < 0) = false := by simpa using cm
          have e3 : decide (n < m) = true := by simp; omega
          rw [e1, e2, e3]
          exact pb_diff_true P Q _ _ w (pos_cast p1) (pos_cast q1)
      · rw [if_neg cn] at hs'
        have e1 : decide (n < 0) = false := by simpa using cn
        by_cases cm : m < 0
        · have e2 : decide (m < 0) = true := by simpa using cm
          have e3 : decide (n < m) = false := by simp; omega
          rw [e1, e2, e3]
          exact pb_diff_false P Q _ _ w (pos_cast p1) (pos_cast q1)
        · rw [if_neg cm] at ht'
          have e2 : decide (m < 0) = false := by simpa using cm
          rw [e1, e2]
          have h := pb_same false P Q _ _ w p1 p2 q1 q2 i1 i2 j1 j2
          rw [if_neg (by decide)] at h
          by_cases c : n < m
          · have e3 : decide (n < m) = true := by simpa using c
            rw [e3]
            rw [(cmpB_of (lex_64 s t P Q _ _ s0 (by omega) hP hQ rfl rfl)).1] at h
            exact h
          · have e3 : decide (n < m) = false := by simpa using c
            rw [e3]
            by_cases c' : n = m
            · have es : s = t := by omega
              subst es
              have ep : P = Q := by omega
              subst ep
              rw [cmpB_self] at h
              exact h
            · rw [(cmpB_of (lex_64 t s Q P _ _ t0 (by omega) hQ hP rfl rfl)).2] at h
              exact h
end Go.Proofs.Ytljmmaaaeojbpaa
