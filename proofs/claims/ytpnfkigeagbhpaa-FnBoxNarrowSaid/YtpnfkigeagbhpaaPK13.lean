/- The contract of the program's narrowNear: the nearest narrow float of a wide one is the one below or the next one above; nothing that was there is written. -/
import Derived.Test.YtpnfkigeagbhpaaPK12
import Derived.Deep.RegionWith
namespace Go.Proofs.Ytpnfkigeagbhpaa
open Go.RowKit


set_option maxHeartbeats 400000 in
theorem near_core (o b v : Int) (Y : Nat) (h1 : -9218868437227405312 ≤ o) (h2 : o ≤ 9218868437227405312) (u1 : decide (widI 2139095039 < o) = false) (u2 : decide (o < widI (-2139095039)) = false)
    (hb : bitsI 9223372036854775808 o = b) (_b0 : 0 ≤ b) (_b1 : Hid (b < 18446744073709551616))
    (hcv : floatToFloatBits .f64 b.toNat .f32 = some Y) (hY : Hid (Y < 4294967296)) (hv : Hid (ordN 2147483648 2139095040 Y = v)) (w : World) :
    Calls Try.prog 96 #[.int .i64 o] w fun e w' => e = .returned (.int .i64 v) ∧ Below w.heap.size w w' := by
  have c1 := call77
  have c2 := call78
  have cv : ∀ w, (convert 113 108 (.float .f64 b.toNat)).run Try.prog w = .ok (.float .f32 Y) w := fun w => run_convert_float_float w 113 108 .f64 .f32 _ _ (by kernel_rfl) (by kernel_rfl) hcv
  have y1 : (Y : Int) < 4294967296 := by have := hY.out; omega
  clear hcv
  go_enter Try.func96, Try.ntmps96
  go_wp2_with (first | (go_at_call 68; refine (iBitTop_32 _).mono ?_; rintro e w1 ⟨rfl, hb1⟩) | (go_at_call 90; refine (iWidened _ (by decide) (by decide) _).mono ?_; rintro e w2 ⟨rfl, hb2⟩) | (go_at_call 101; refine (iBitBits_64 o h1 h2 _).mono ?_; rintro e w4 ⟨rfl, hb4⟩) | (go_at_call 102; refine (iBitOrd_32 Y (by omega) (by omega) _).mono ?_; rintro e w5 ⟨rfl, hb5⟩))
  go_ret
  exact ⟨ret_int hv.out, (by repeat (first | exact Below.refl _ _ | refine Below.drew ?_ | refine old_alloc ?_ _ | refine old_trans ?_ (by assumption)))⟩
set_option maxHeartbeats 400000 in
theorem near_hi (o : Int) (u1 : decide (widI 2139095039 < o) = true) (w : World) :
    Calls Try.prog 96 #[.int .i64 o] w fun e w' => e = .returned (.int .i64 2139095040) ∧ Below w.heap.size w w' := by
  go_enter Try.func96, Try.ntmps96
  go_wp2_with (first | (go_at_call 68; refine (iBitTop_32 _).mono ?_; rintro e w1 ⟨rfl, hb1⟩) | (go_at_call 90; refine (iWidened _ (by decide) (by decide) _).mono ?_; rintro e w2 ⟨rfl, hb2⟩))
  go_ret
  exact ⟨rfl, (by repeat (first | exact Below.refl _ _ | refine Below.drew ?_ | refine old_alloc ?_ _ | refine old_trans ?_ (by assumption)))⟩
set_option maxHeartbeats 400000 in
theorem near_lo (o : Int) (u1 : decide (widI 2139095039 < o) = false) (u2 : decide (o < widI (-2139095039)) = true) (w : World) :
    Calls Try.prog 96 #[.int .i64 o] w fun e w' => e = .returned (.int .i64 (-2139095040)) ∧ Below w.heap.size w w' := by
  go_enter Try.func96, Try.ntmps96
  go_wp2_with (first | (go_at_call 68; refine (iBitTop_32 _).mono ?_; rintro e w1 ⟨rfl, hb1⟩) | (go_at_call 90; refine (iWidened _ (by decide) (by decide) _).mono ?_; rintro e w2 ⟨rfl, hb2⟩))
  go_ret
  exact ⟨rfl, (by repeat (first | exact Below.refl _ _ | refine Below.drew ?_ | refine old_alloc ?_ _ | refine old_trans ?_ (by assumption)))⟩

/-- n lies next to o: it is the one below, or the next one above it -/
def IsNear (o n : Int) : Prop := IsBelow o n ∨ (-2139095040 < n ∧ n ≤ 2139095040 ∧ IsBelow o (n - 1) ∧ o < widI n)

theorem bits_word (o : Int) (h1 : -9218868437227405312 ≤ o) (h2 : o ≤ 9218868437227405312) : (bitsI 9223372036854775808 o).toNat = Ieee.double.word (decide (o < 0)) (if o < 0 then (-o).toNat else o.toNat) := by
  have hs : Ieee.double.signWeight = 9223372036854775808 := by decide
  unfold bitsI Ieee.Format.word
  rw [hs]
  by_cases h : o < 0
  · simp only [h, decide_true, if_true]; omega
  · simp only [h, decide_false]; simp
theorem ord_sword (neg : Bool) (R : Nat) (h : R ≤ 2139095040) : ordN 2147483648 2139095040 (Ieee.single.word neg R : Nat) = if neg then -(R : Int) else R := by
  have hs : Ieee.single.signWeight = 2147483648 := by decide
  unfold ordN Ieee.Format.word
  rw [hs]
  cases neg
  · simp only [Bool.false_eq_true, if_false]
    (repeat' split) <;> omega
  · simp only [if_true]
    (repeat' split) <;> omega

theorem widI_nat (r : Nat) : widI (r : Int) = wid r := by
  unfold widI; rw [if_neg (by omega)]; rfl
theorem widI_natneg (r : Nat) : widI (-(r : Int)) = -(wid r : Int) := by rw [widI_neg, widI_nat]

theorem near_is (o : Int) (R : Nat) (hR : (R : Int) = if o < 0 then -o else o) (h : R ≤ wid 2139095039) : IsNear o (if o < 0 then -(nar R : Int) else (nar R : Int)) := by
  obtain ⟨F, f1, f2, f3, f4, f5⟩ := nar_near R h
  clear h
  by_cases hn : o < 0
  · rw [if_pos hn] at hR ⊢
    have x1 := widI_natneg F
    have x2 := widI_natneg (F + 1)
    generalize nar R = N at *
    generalize hA : wid F = A at *
    generalize hB : wid (F + 1) = B at *
    rcases f4 with rfl | ⟨rfl, f6⟩
    · by_cases he : R = A
      · left
        refine ⟨by omega, by omega, by rw [x1]; omega, fun hlt => ?_⟩
        have := widI_mono (a := -(N : Int)) (b := -(N : Int) + 1) (by omega) (by omega) (by omega)
        rw [x1] at this
        omega
      · right
        refine ⟨by omega, by omega, ⟨by omega, by omega, ?_, fun _ => ?_⟩, by rw [x1]; omega⟩
        · have e : -(N : Int) - 1 = -((N + 1 : Nat) : Int) := by omega
          rw [e, x2]; omega
        · have e : -(N : Int) - 1 + 1 = -(N : Int) := by omega
          rw [e, x1]; omega
    · left
      refine ⟨by omega, by omega, by rw [x2]; omega, fun _ => ?_⟩
      have e : -((F + 1 : Nat) : Int) + 1 = -(F : Int) := by omega
      rw [e, x1]; omega
  · rw [if_neg hn] at hR ⊢
    have x1 := widI_nat F
    have x2 := widI_nat (F + 1)
    generalize nar R = N at *
    generalize hA : wid F = A at *
    generalize hB : wid (F + 1) = B at *
    rcases f4 with rfl | ⟨rfl, f6⟩
    · left
      refine ⟨by omega, by omega, by rw [x1]; omega, fun _ => ?_⟩
      have e : (N : Int) + 1 = ((N + 1 : Nat) : Int) := by omega
      rw [e, x2]; omega
    · right
      have e : ((F + 1 : Nat) : Int) - 1 = (F : Int) := by omega
      refine ⟨by omega, by omega, ?_, by rw [x2]; omega⟩
      rw [e]
      refine ⟨by omega, by omega, by rw [x1]; omega, fun _ => ?_⟩
      have e2 : (F : Int) + 1 = ((F + 1 : Nat) : Int) := by omega
      rw [e2, x2]; omega

theorem x39 : widI 2139095039 = (wid 2139095039 : Int) := by unfold widI; rw [if_neg (by decide)]; rfl
theorem x39n : widI (-2139095039) = -(wid 2139095039 : Int) := by rw [widI_neg, x39]

theorem near_hi_is (o : Int) (c1 : widI 2139095039 < o) (h2 : o ≤ 9218868437227405312) : IsNear o 2139095040 := by
  by_cases ce : o = 9218868437227405312
  · left
    refine ⟨by decide, by decide, ?_, fun h => absurd h (by decide)⟩
    rw [widI_top, ce]; exact Int.le_refl _
  · right
    have e : (2139095040 : Int) - 1 = 2139095039 := by decide
    have e2 : (2139095039 : Int) + 1 = 2139095040 := by decide
    have lt : o < widI 2139095040 := by rw [widI_top]; clear c1; omega
    refine ⟨by decide, by decide, ?_, lt⟩
    rw [e]
    refine ⟨by decide, by decide, Int.le_of_lt c1, fun _ => ?_⟩
    rw [e2]; exact lt

theorem near_lo_is (o : Int) (c2 : o < widI (-2139095039)) (h1 : -9218868437227405312 ≤ o) : IsNear o (-2139095040) := by
  left
  have e2 : (-2139095040 : Int) + 1 = -2139095039 := by decide
  refine ⟨by decide, by decide, ?_, fun _ => ?_⟩
  · rw [widI_bot]; exact h1
  · rw [e2]; exact c2

theorem near_R (o : Int) (M : Nat) (c1 : ¬ (M : Int) < o) (c2 : ¬ o < -(M : Int)) : (if o < 0 then (-o).toNat else o.toNat) ≤ M := by
  split <;> omega

theorem iNear (o : Int) (h1 : -9218868437227405312 ≤ o) (h2 : o ≤ 9218868437227405312) (w : World) :
    Calls Try.prog 96 #[.int .i64 o] w fun e w' => (∃ n, IsNear o n ∧ e = .returned (.int .i64 n)) ∧ Below w.heap.size w w' := by
  by_cases c1 : widI 2139095039 < o
  · refine (near_hi o (decide_eq_true c1) w).mono ?_
    rintro e w' ⟨rfl, hb⟩
    exact ⟨⟨2139095040, near_hi_is o c1 h2, rfl⟩, hb⟩
  · have u1 : decide (widI 2139095039 < o) = false := decide_eq_false c1
    by_cases c2 : o < widI (-2139095039)
    · refine (near_lo o u1 (decide_eq_true c2) w).mono ?_
      rintro e w' ⟨rfl, hb⟩
      exact ⟨⟨-2139095040, near_lo_is o c2 h1, rfl⟩, hb⟩
    · have u2 : decide (o < widI (-2139095039)) = false := decide_eq_false c2
      rw [x39] at c1
      rw [x39n] at c2
      have hR := near_R o _ c1 c2
      clear c1 c2
      have hw := bits_word o h1 h2
      have hc := f2f_narrow (decide (o < 0)) _ hR
      rw [← hw] at hc
      obtain ⟨-, -, -, -, -, hn⟩ := nar_near _ hR
      have hq : Hid (Ieee.single.word (decide (o < 0)) (nar (if o < 0 then (-o).toNat else o.toNat)) < 4294967296) := by
        have hd : Ieee.single.signWeight = 2147483648 := by decide
        show _ < _
        clear u1 u2 hR hc hw
        unfold Ieee.Format.word
        rw [hd]
        generalize nar _ = z at *
        split <;> omega
      have hb0 : 0 ≤ bitsI 9223372036854775808 o := by clear u1 u2 hR hc hw hn hq; unfold bitsI; split <;> omega
      have hb1 : Hid (bitsI 9223372036854775808 o < 18446744073709551616) := by clear u1 u2 hR hc hw hn hq; show _ < _; unfold bitsI; split <;> omega
      refine (near_core o _ _ _ h1 h2 u1 u2 rfl hb0 hb1 hc hq (ord_sword _ _ (Nat.le_of_lt hn)) w).mono ?_
      rintro e w' ⟨rfl, hb⟩
      have hi := near_is o _ (by clear u1 u2 hR hc hw hn hq; split <;> omega) hR
      refine ⟨⟨_, hi, ?_⟩, hb⟩
      apply ret_int
      by_cases h : o < 0
      · simp only [h, decide_true, if_true]
      · simp only [h, decide_false]; simp
end Go.Proofs.Ytpnfkigeagbhpaa

/- The contract of the program's narrowBelow, with its closure and lastThat: the greatest narrow float that is not above a wide one; nothing that was there is written. -/
namespace Go.Proofs.Ytpnfkigeagbhpaa
open Go.RowKit


theorem nat_or_and (a b : Nat) : (a ||| b) + (a &&& b) = a + b ∧ (a ^^^ b) + 2 * (a &&& b) = a + b := by
  induction a using Nat.strongRecOn generalizing b with
  | _ a ih =>
    by_cases h0 : a = 0
    · subst h0; simp
    · have h := ih (a / 2) (by omega) (b / 2)
      have o1 : (a ||| b) / 2 = a / 2 ||| b / 2 := Nat.or_div_two
      have o2 : (a &&& b) / 2 = a / 2 &&& b / 2 := Nat.and_div_two
      have o3 : (a ^^^ b) / 2 = a / 2 ^^^ b / 2 := Nat.xor_div_two
      have m1 : (a ||| b) % 2 = if a % 2 = 1 ∨ b % 2 = 1 then 1 else 0 := by
        have := @Nat.or_mod_two_eq_one a b
        split <;> omega
      have m2 : (a &&& b) % 2 = if a % 2 = 1 ∧ b % 2 = 1 then 1 else 0 := by
        have := @Nat.and_mod_two_eq_one a b
        split <;> omega
      have m3 : (a ^^^ b) % 2 = (a + b) % 2 := by have := @Nat.xor_mod_two_eq_one a b; omega
      rw [← o1, ← o2, ← o3] at h
      obtain ⟨h1, h2⟩ := h
      generalize (a ||| b) = x at *
      generalize (a &&& b) = y at *
      generalize (a ^^^ b) = z at *
      split at m1 <;> split at m2 <;> omega

theorem wrap_i64 (N : Nat) (h : N < 18446744073709551616) : IntKind.i64.wrap (N : Int) = if 9223372036854775808 ≤ N then (N : Int) - 18446744073709551616 else N := by
  have hx : (N : Int) % 2 ^ 64 = N := by omega
  simp only [IntKind.wrap, IntKind.bits, IntKind.signed, hx]
  by_cases h : 9223372036854775808 ≤ N
  · rw [if_pos (by simp; omega), if_pos h]; rfl
  · rw [if_neg (by simp; omega), if_neg h]

theorem mid_bits (n : Int) (h1 : -4294967296 ≤ n) (h2 : n ≤ 4294967296) : ∃ x y : Int, bits .xor .i64 (n - 1) n = x ∧ bits .or .i64 (n - 1) n = y ∧ -17179869184 ≤ x ∧ x ≤ 17179869184 ∧ -17179869184 ≤ y ∧ y ≤ 17179869184 ∧ y - x / 2 = n := by
  refine ⟨_, _, rfl, rfl, ?_⟩
  have ex : bits .xor .i64 (n - 1) n = IntKind.i64.wrap (((BitVec.ofInt 64 (n - 1) ^^^ BitVec.ofInt 64 n).toNat : Nat) : Int) := rfl
  have ey : bits .or .i64 (n - 1) n = IntKind.i64.wrap (((BitVec.ofInt 64 (n - 1) ||| BitVec.ofInt 64 n).toNat : Nat) : Int) := rfl
  rw [ex, ey, BitVec.toNat_xor, BitVec.toNat_or]
  have ha : (BitVec.ofInt 64 (n - 1)).toNat = ((n - 1) % 18446744073709551616).toNat := by rw [BitVec.toNat_ofInt]; rfl
  have hb : (BitVec.ofInt 64 n).toNat = (n % 18446744073709551616).toNat := by rw [BitVec.toNat_ofInt]; rfl
  have la := (BitVec.ofInt 64 (n - 1)).isLt
  have lb := (BitVec.ofInt 64 n).isLt
  generalize (BitVec.ofInt 64 (n - 1)).toNat = A at *
  generalize (BitVec.ofInt 64 n).toNat = B at *
  have g := nat_or_and A B
  have l1 : A ≤ A ||| B := Nat.left_le_or
  have l2 : A &&& B ≤ B := Nat.and_le_right
  have l3 : A ||| B < 2 ^ 64 := Nat.or_lt_two_pow la lb
  have l4 : A ^^^ B < 2 ^ 64 := Nat.xor_lt_two_pow la lb
  rw [wrap_i64 _ (by omega), wrap_i64 _ (by omega)]
  generalize A ||| B = O at *
  generalize A ^^^ B = X at *
  generalize A &&& B = C at *
  obtain ⟨g1, g2⟩ := g
  clear ex ey
  by_cases c1 : 1 ≤ n
  · have eA : (A : Int) = n - 1 := by omega
    have eB : (B : Int) = n := by omega
    rw [if_neg (by omega), if_neg (by omega)]
    omega
  by_cases c2 : n ≤ -1
  · have eA : (A : Int) = 18446744073709551616 + n - 1 := by omega
    have eB : (B : Int) = 18446744073709551616 + n := by omega
    rw [if_neg (by omega), if_pos (by omega)]
    omega
  have e0 : n = 0 := by omega
  subst e0
  rw [if_pos (by omega), if_pos (by omega)]
  omega

set_option maxHeartbeats 400000 in
theorem fits_any (o m : Int) (cb : Nat) (w : World) (k1 : -2139095040 ≤ m) (k2 : m ≤ 2139095040) (hcb : cb < w.heap.size) (hc : w.cell? ⟨cb, 0, none⟩ = some (.int .i64 o)) :
    Calls Try.prog 99 #[.int .i64 m, .pointer (some ⟨cb, 0, none⟩)] w fun e w' => e = .returned (.bool (decide (widI m ≤ o))) ∧ Below w.heap.size w w' := by
  go_enter Try.func99, Try.ntmps99
  go_wp2
  go_region_with (go_at_call 90; refine (iWidened m k1 k2 _).mono ?_; rintro e w1 ⟨rfl, hb1⟩; have hc1 : w1.cell? ⟨cb, 0, none⟩ = some (.int .i64 o) := (hb1.cell (p := ⟨cb, 0, none⟩) hcb).trans hc)
  all_goals
    go_wp2
    go_ret
    exact ⟨rfl, (by repeat (first | exact Below.refl _ _ | refine Below.drew ?_ | refine old_alloc ?_ _ | refine old_trans ?_ (by assumption)))⟩

theorem fits_yes (o m : Int) (cb : Nat) (w : World) (k1 : -2139095040 ≤ m) (k2 : m ≤ 2139095040) (hcb : cb < w.heap.size) (hc : w.cell? ⟨cb, 0, none⟩ = some (.int .i64 o)) (h : widI m ≤ o) :
    Calls Try.prog 99 #[.int .i64 m, .pointer (some ⟨cb, 0, none⟩)] w fun e w' => e = .returned (.bool true) ∧ Below w.heap.size w w' := by
  have := fits_any o m cb w k1 k2 hcb hc
  rw [decide_eq_true h] at this
  exact this
theorem fits_no (o m : Int) (cb : Nat) (w : World) (k1 : -2139095040 ≤ m) (k2 : m ≤ 2139095040) (hcb : cb < w.heap.size) (hc : w.cell? ⟨cb, 0, none⟩ = some (.int .i64 o)) (h : o < widI m) :
    Calls Try.prog 99 #[.int .i64 m, .pointer (some ⟨cb, 0, none⟩)] w fun e w' => e = .returned (.bool false) ∧ Below w.heap.size w w' := by
  have := fits_any o m cb w k1 k2 hcb hc
  rw [decide_eq_false (by exact Int.not_le.2 h)] at this
  exact this

set_option maxHeartbeats 400000 in
theorem last_same (n : Int) (v : Value) (w : World) :
    Calls Try.prog 97 #[.int .i64 n, .int .i64 n, v] w fun e w' => e = .returned (.int .i64 n) ∧ Below w.heap.size w w' := by
  have t1 : decide (n < n) = false := by simp
  go_enter Try.func97, Try.ntmps97
  go_wp2_with fail
  refine wp_loop_rounds 1 ?_
  rw [rounds_succ]
  go_wp2_with fail
  go_ret
  exact ⟨rfl, (by repeat (first | exact Below.refl _ _ | refine Below.drew ?_ | refine old_alloc ?_ _ | refine old_trans ?_ (by assumption)))⟩
set_option maxHeartbeats 400000 in
theorem last_yes (o n x y : Int) (cb : Nat) (w : World) (k1 : -2139095040 ≤ n - 1) (k2 : n ≤ 2139095040) (hcb : cb < w.heap.size) (hc : w.cell? ⟨cb, 0, none⟩ = some (.int .i64 o)) (hx : bits .xor .i64 (n - 1) n = x) (hy : bits .or .i64 (n - 1) n = y)
    (x1 : -17179869184 ≤ x) (x2 : x ≤ 17179869184) (y1 : -17179869184 ≤ y) (y2 : y ≤ 17179869184) (hm : Hid (y - x / 2 = n)) (hf : Hid (widI n ≤ o)) :
    Calls Try.prog 97 #[.int .i64 (n - 1), .int .i64 n, .func (Fn.func 99) #[] #[.pointer (some ⟨cb, 0, none⟩)]] w fun e w' => e = .returned (.int .i64 n) ∧ Below w.heap.size w w' := by
  have t1 : decide (n - 1 < n) = true := by simp; omega
  have t2 : decide (n < n) = false := by simp
  go_enter Try.func97, Try.ntmps97
  go_wp2_with fail
  refine wp_loop_rounds 2 ?_
  rw [rounds_succ]
  go_wp2_with fail
  rw [hm.out]
  refine (fits_yes o n cb _ (by omega) k2 hcb hc hf.out).mono ?_
  rintro e w1 ⟨rfl, hb1⟩
  go_wp2_with fail
  rw [rounds_succ]
  go_wp2_with fail
  go_ret
  exact ⟨rfl, (by repeat (first | exact Below.refl _ _ | refine Below.drew ?_ | refine old_alloc ?_ _ | refine old_trans ?_ (by assumption)))⟩
set_option maxHeartbeats 400000 in
theorem last_no (o n x y : Int) (cb : Nat) (w : World) (k1 : -2139095040 ≤ n - 1) (k2 : n ≤ 2139095040) (hcb : cb < w.heap.size) (hc : w.cell? ⟨cb, 0, none⟩ = some (.int .i64 o)) (hx : bits .xor .i64 (n - 1) n = x) (hy : bits .or .i64 (n - 1) n = y)
    (x1 : -17179869184 ≤ x) (x2 : x ≤ 17179869184) (y1 : -17179869184 ≤ y) (y2 : y ≤ 17179869184) (hm : Hid (y - x / 2 = n)) (hf : Hid (o < widI n)) :
    Calls Try.prog 97 #[.int .i64 (n - 1), .int .i64 n, .func (Fn.func 99) #[] #[.pointer (some ⟨cb, 0, none⟩)]] w fun e w' => e = .returned (.int .i64 (n - 1)) ∧ Below w.heap.size w w' := by
  have t1 : decide (n - 1 < n) = true := by simp; omega
  have t2 : decide (n - 1 < n - 1) = false := by simp
  go_enter Try.func97, Try.ntmps97
  go_wp2_with fail
  refine wp_loop_rounds 2 ?_
  rw [rounds_succ]
  go_wp2_with fail
  rw [hm.out]
  refine (fits_no o n cb _ (by omega) k2 hcb hc hf.out).mono ?_
  rintro e w1 ⟨rfl, hb1⟩
  go_wp2_with fail
  rw [rounds_succ]
  go_wp2_with fail
  go_ret
  exact ⟨rfl, (by repeat (first | exact Below.refl _ _ | refine Below.drew ?_ | refine old_alloc ?_ _ | refine old_trans ?_ (by assumption)))⟩

theorem iLast (o n lo : Int) (hn : IsNear o n) (hl : lo = max (n - 1) (-2139095040)) (cb : Nat) (w : World) (hcb : cb < w.heap.size) (hc : w.cell? ⟨cb, 0, none⟩ = some (.int .i64 o)) :
    Calls Try.prog 97 #[.int .i64 lo, .int .i64 n, .func (Fn.func 99) #[] #[.pointer (some ⟨cb, 0, none⟩)]] w fun e w' => (∃ m, IsBelow o m ∧ e = .returned (.int .i64 m)) ∧ Below w.heap.size w w' := by
  have k : -2139095040 ≤ n ∧ n ≤ 2139095040 := by
    rcases hn with h | ⟨a, b, _, _⟩
    · exact ⟨h.1, h.2.1⟩
    · exact ⟨Int.le_of_lt a, b⟩
  obtain ⟨k1, k2⟩ := k
  by_cases hb : n = -2139095040
  · have e : lo = n := by clear hn; omega
    rw [e]
    refine (last_same n _ w).mono ?_
    rintro e w' ⟨rfl, hbb⟩
    rcases hn with h | ⟨a, _, _, _⟩
    · exact ⟨⟨n, h, rfl⟩, hbb⟩
    · exact absurd hb (by clear hbb; intro hc; rw [hc] at a; exact absurd a (by decide))
  · have e : lo = n - 1 := by clear hn; omega
    have k3 : -2139095040 ≤ n - 1 := by clear hn; omega
    rw [e]
    obtain ⟨x, y, a1, a2, a3, a4, a5, a6, a7⟩ := mid_bits n (by clear hn; omega) (by clear hn; omega)
    rcases hn with h | ⟨_, _, h, hlt⟩
    · refine (last_yes o n x y cb w k3 k2 hcb hc a1 a2 a3 a4 a5 a6 a7 h.2.2.1).mono ?_
      rintro e w' ⟨rfl, hbb⟩
      exact ⟨⟨n, h, rfl⟩, hbb⟩
    · refine (last_no o n x y cb w k3 k2 hcb hc a1 a2 a3 a4 a5 a6 a7 hlt).mono ?_
      rintro e w' ⟨rfl, hbb⟩
      exact ⟨⟨n - 1, h, rfl⟩, hbb⟩

set_option maxHeartbeats 400000 in
theorem iNarrowBelow (o : Int) (h1 : -9218868437227405312 ≤ o) (h2 : o ≤ 9218868437227405312) (w : World) :
    Calls Try.prog 88 #[.int .i64 o] w fun e w' => (∃ n, IsBelow o n ∧ e = .returned (.int .i64 n)) ∧ Below w.heap.size w w' := by
  go_enter Try.func88, Try.ntmps88
  go_wp2_with fail
  refine (iNear o h1 h2 _).mono ?_
  rintro e w1 ⟨⟨n, hn, rfl⟩, hb1⟩
  have k : -2139095040 ≤ n ∧ n ≤ 2139095040 := by
    rcases hn with h | ⟨a, b, _, _⟩
    · exact ⟨h.1, h.2.1⟩
    · exact ⟨Int.le_of_lt a, b⟩
  obtain ⟨k1, k2⟩ := k
  go_wp2_with fail
  refine (iBitDown_32 n k1 k2 _).mono ?_
  rintro e w2 ⟨rfl, hb2⟩
  obtain ⟨lo, hl0⟩ : ∃ lo : Int, lo = max (n - 1) (-2139095040) := ⟨_, rfl⟩
  rw [← hl0]
  have hl : Hid (lo = max (n - 1) (-2139095040)) := hl0
  clear hl0
  go_wp2_with fail
  have z := bsize hb1
  have hs : w.heap.size < w2.heap.size := Nat.lt_of_lt_of_le z.1 hb2.size
  have hc : w2.cell? ⟨w.heap.size, 0, none⟩ = some (.int .i64 o) := by
    rw [hb2.cell (p := ⟨w.heap.size, 0, none⟩) z.1, hb1.cell (p := ⟨w.heap.size, 0, none⟩) (by simp)]
    simp
  refine (iLast o n lo hn hl.out _ _ hs hc).mono ?_
  rintro e w3 ⟨⟨m, hm, rfl⟩, hb3⟩
  go_wp2
  go_ret
  exact ⟨⟨m, hm, rfl⟩, (by repeat (first | exact Below.refl _ _ | refine Below.drew ?_ | refine Below.setCell ?_ (by simp) _ | refine old_alloc ?_ _ | refine old_trans ?_ (by assumption)))⟩
set_option maxHeartbeats 400000 in
theorem iBitBelow (o : Int) (h1 : -9218868437227405312 ≤ o) (h2 : o ≤ 9218868437227405312) (w : World) :
    Calls Try.prog 62 #[.int .i64 o] w fun e w' => (∃ n, IsBelow o n ∧ e = .returned (.tuple #[.int .i64 n, .bool true])) ∧ Below w.heap.size w w' := by
  go_enter Try.func62, Try.ntmps62
  go_wp2_with (go_at_call 69; refine (iBitOk_64 o h1 h2 _).mono ?_; rintro e w1 ⟨rfl, hb1⟩)
  refine (iNarrowBelow o h1 h2 _).mono ?_
  rintro e w2 ⟨⟨m, hm, rfl⟩, hb2⟩
  go_wp2
  go_ret2
  exact ⟨⟨m, hm, rfl⟩, (by repeat (first | exact Below.refl _ _ | refine Below.drew ?_ | refine Below.setCell ?_ (by simp) _ | refine old_alloc ?_ _ | refine old_trans ?_ (by assumption)))⟩
set_option maxHeartbeats 400000 in
theorem iBitAbove (o : Int) (h1 : -9218868437227405312 ≤ o) (h2 : o ≤ 9218868437227405312) (w : World) :
    Calls Try.prog 63 #[.int .i64 o] w fun e w' => (∃ n, IsBelow (-o) n ∧ e = .returned (.tuple #[.int .i64 (-n), .bool true])) ∧ Below w.heap.size w w' := by
  go_enter Try.func63, Try.ntmps63
  go_wp2_with (go_at_call 69; refine (iBitOk_64 o h1 h2 _).mono ?_; rintro e w1 ⟨rfl, hb1⟩)
  refine (iNarrowBelow (-o) (by omega) (by omega) _).mono ?_
  rintro e w2 ⟨⟨m, hm, rfl⟩, hb2⟩
  have n1 := hm.1
  have n2 := hm.2.1
  go_wp2
  go_ret2
  exact ⟨⟨m, hm, rfl⟩, (by repeat (first | exact Below.refl _ _ | refine Below.drew ?_ | refine Below.setCell ?_ (by simp) _ | refine old_alloc ?_ _ | refine old_trans ?_ (by assumption)))⟩
end Go.Proofs.Ytpnfkigeagbhpaa
