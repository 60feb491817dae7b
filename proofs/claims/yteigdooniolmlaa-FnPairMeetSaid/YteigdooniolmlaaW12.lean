/- The contract of the program's narrowNear: the nearest narrow float of a wide one is the one below or the next one above; nothing that was there is written. -/
import Derived.Test.YteigdooniolmlaaW11
import Derived.Test.YteigdooniolmlaaW8
import Derived.Deep.RegionWith
namespace Go.Proofs.Yteigdooniolmlaa
open Go.RowKit


set_option maxHeartbeats 400000 in
theorem near_core (o b v : Int) (Y : Nat) (h1 : -9218868437227405312 ≤ o) (h2 : o ≤ 9218868437227405312) (u1 : decide (widI 2139095039 < o) = false) (u2 : decide (o < widI (-2139095039)) = false)
    (hb : bitsI 9223372036854775808 o = b) (_b0 : 0 ≤ b) (_b1 : Hid (b < 18446744073709551616))
    (hcv : floatToFloatBits .f64 b.toNat .f32 = some Y) (hY : Hid (Y < 4294967296)) (hv : Hid (ordN 2147483648 2139095040 Y = v)) (w : World) :
    Calls Try.prog 69 #[.int .i64 o] w fun e w' => e = .returned (.int .i64 v) ∧ Below w.heap.size w w' := by
  have c1 := call77
  have c2 := call78
  have cv : ∀ w, (convert 90 85 (.float .f64 b.toNat)).run Try.prog w = .ok (.float .f32 Y) w := fun w => run_convert_float_float w 90 85 .f64 .f32 _ _ (by kernel_rfl) (by kernel_rfl) hcv
  have y1 : (Y : Int) < 4294967296 := by have := hY.out; omega
  clear hcv
  go_enter Try.func69, Try.ntmps69
  go_wp2_with (first | (go_at_call 42; refine (iBitTop_32 _).mono ?_; rintro e w1 ⟨rfl, hb1⟩) | (go_at_call 66; refine (iWidened _ (by decide) (by decide) _).mono ?_; rintro e w2 ⟨rfl, hb2⟩) | (go_at_call 76; refine (iBitBits_64 o h1 h2 _).mono ?_; rintro e w4 ⟨rfl, hb4⟩) | (go_at_call 77; refine (iBitOrd_32 Y (by omega) (by omega) _).mono ?_; rintro e w5 ⟨rfl, hb5⟩))
  go_ret
  exact ⟨ret_int hv.out, (by repeat (first | exact Below.refl _ _ | refine Below.drew ?_ | refine old_alloc ?_ _ | refine old_trans ?_ (by assumption)))⟩
set_option maxHeartbeats 400000 in
theorem near_hi (o : Int) (u1 : decide (widI 2139095039 < o) = true) (w : World) :
    Calls Try.prog 69 #[.int .i64 o] w fun e w' => e = .returned (.int .i64 2139095040) ∧ Below w.heap.size w w' := by
  go_enter Try.func69, Try.ntmps69
  go_wp2_with (first | (go_at_call 42; refine (iBitTop_32 _).mono ?_; rintro e w1 ⟨rfl, hb1⟩) | (go_at_call 66; refine (iWidened _ (by decide) (by decide) _).mono ?_; rintro e w2 ⟨rfl, hb2⟩))
  go_ret
  exact ⟨rfl, (by repeat (first | exact Below.refl _ _ | refine Below.drew ?_ | refine old_alloc ?_ _ | refine old_trans ?_ (by assumption)))⟩
set_option maxHeartbeats 400000 in
theorem near_lo (o : Int) (u1 : decide (widI 2139095039 < o) = false) (u2 : decide (o < widI (-2139095039)) = true) (w : World) :
    Calls Try.prog 69 #[.int .i64 o] w fun e w' => e = .returned (.int .i64 (-2139095040)) ∧ Below w.heap.size w w' := by
  go_enter Try.func69, Try.ntmps69
  go_wp2_with (first | (go_at_call 42; refine (iBitTop_32 _).mono ?_; rintro e w1 ⟨rfl, hb1⟩) | (go_at_call 66; refine (iWidened _ (by decide) (by decide) _).mono ?_; rintro e w2 ⟨rfl, hb2⟩))
  go_ret
  exact ⟨rfl, (by repeat (first | exact Below.refl _ _ | refine Below.drew ?_ | refine old_alloc ?_ _ | refine old_trans ?_ (by assumption)))⟩

/-- n lies next to o: it is the one below, or the next one above it -/
def IsNear (o n : Int) : Prop := IsBelow o n ∨ (-2139095040 < n ∧ n ≤ 2139095040 ∧ IsBelow o (n - 1) ∧ o < widI n)

theorem bits_word (o : Int) (h1 : -9218868437227405312 ≤ o) (h2 : o ≤ 9218868437227405312) : (bitsI 9223372036854775808 o).toNat = Ieee.double.word (decide (o < 0)) (if o < 0 then (-o).toNat else o.toNat) := by
  have hs : Ieee.double.signWeight = 9223372036854775808 := by decide
  unfold bitsI Ieee.Format.word
  rw [hs]
  by_cases h : o < 0
  · simp only [h, decide_true, if_true]; omega
  · simp only [h, decide_false]; simp
theorem ord_sword (neg : Bool) (R : Nat) (h : R ≤ 2139095040) : ordN 2147483648 2139095040 (Ieee.single.word neg R : Nat) = if neg then -(R : Int) else R := by
  have hs : Ieee.single.signWeight = 2147483648 := by decide
  unfold ordN Ieee.Format.word
  rw [hs]
  cases neg
  · simp only [Bool.false_eq_true, if_false]
    (repeat' split) <;> omega
  · simp only [if_true]
    (repeat' split) <;> omega

theorem widI_nat (r : Nat) : widI (r : Int) = wid r := by
  unfold widI; rw [if_neg (by omega)]; rfl
theorem widI_natneg (r : Nat) : widI (-(r : Int)) = -(wid r : Int) := by rw [widI_neg, widI_nat]

theorem near_is (o : Int) (R : Nat) (hR : (R : Int) = if o < 0 then -o else o) (h : R ≤ wid 2139095039) : IsNear o (if o < 0 then -(nar R : Int) else (nar R : Int)) := by
  obtain ⟨F, f1, f2, f3, f4, f5⟩ := nar_near R h
  clear h
  by_cases hn : o < 0
  · rw [if_pos hn] at hR ⊢
    have x1 := widI_natneg F
    have x2 := widI_natneg (F + 1)
    generalize nar R = N at *
    generalize hA : wid F = A at *
    generalize hB : wid (F + 1) = B at *
    rcases f4 with rfl | ⟨rfl, f6⟩
    · by_cases he : R = A
      · left
        refine ⟨by omega, by omega, by rw [x1]; omega, fun hlt => ?_⟩
        have := widI_mono (a := -(N : Int)) (b := -(N : Int) + 1) (by omega) (by omega) (by omega)
        rw [x1] at this
        omega
      · right
        refine ⟨by omega, by omega, ⟨by omega, by omega, ?_, fun _ => ?_⟩, by rw [x1]; omega⟩
        · have e : -(N : Int) - 1 = -((N + 1 : Nat) : Int) := by omega
          rw [e, x2]; omega
        · have e : -(N : Int) - 1 + 1 = -(N : Int) := by omega
          rw [e, x1]; omega
    · left
      refine ⟨by omega, by omega, by rw [x2]; omega, fun _ => ?_⟩
      have e : -((F + 1 : Nat) : Int) + 1 = -(F : Int) := by omega
      rw [e, x1]; omega
  · rw [if_neg hn] at hR ⊢
    have x1 := widI_nat F
    have x2 := widI_nat (F + 1)
    generalize nar R = N at *
    generalize hA : wid F = A at *
    generalize hB : wid (F + 1) = B at *
    rcases f4 with rfl | ⟨rfl, f6⟩
    · left
      refine ⟨by omega, by omega, by rw [x1]; omega, fun _ => ?_⟩
      have e : (N : Int) + 1 = ((N + 1 : Nat) : Int) := by omega
      rw [e, x2]; omega
    · right
      have e : ((F + 1 : Nat) : Int) - 1 = (F : Int) := by omega
      refine ⟨by omega, by omega, ?_, by rw [x2]; omega⟩
      rw [e]
      refine ⟨by omega, by omega, by rw [x1]; omega, fun _ => ?_⟩
      have e2 : (F : Int) + 1 = ((F + 1 : Nat) : Int) := by omega
      rw [e2, x2]; omega

theorem x39 : widI 2139095039 = (wid 2139095039 : Int) := by unfold widI; rw [if_neg (by decide)]; rfl
theorem x39n : widI (-2139095039) = -(wid 2139095039 : Int) := by rw [widI_neg, x39]

theorem near_hi_is (o : Int) (c1 : widI 2139095039 < o) (h2 : o ≤ 9218868437227405312) : IsNear o 2139095040 := by
  by_cases ce : o = 9218868437227405312
  · left
    refine ⟨by decide, by decide, ?_, fun h => absurd h (by decide)⟩
    rw [widI_top, ce]; exact Int.le_refl _
  · right
    have e : (2139095040 : Int) - 1 = 2139095039 := by decide
    have e2 : (2139095039 : Int) + 1 = 2139095040 := by decide
    have lt : o < widI 2139095040 := by rw [widI_top]; clear c1; omega
    refine ⟨by decide, by decide, ?_, lt⟩
    rw [e]
    refine ⟨by decide, by decide, Int.le_of_lt c1, fun _ => ?_⟩
    rw [e2]; exact lt

theorem near_lo_is (o : Int) (c2 : o < widI (-2139095039)) (h1 : -9218868437227405312 ≤ o) : IsNear o (-2139095040) := by
  left
  have e2 : (-2139095040 : Int) + 1 = -2139095039 := by decide
  refine ⟨by decide, by decide, ?_, fun _ => ?_⟩
  · rw [widI_bot]; exact h1
  · rw [e2]; exact c2

theorem near_R (o : Int) (M : Nat) (c1 : ¬ (M : Int) < o) (c2 : ¬ o < -(M : Int)) : (if o < 0 then (-o).toNat else o.toNat) ≤ M := by
  split <;> omega

theorem iNear (o : Int) (h1 : -9218868437227405312 ≤ o) (h2 : o ≤ 9218868437227405312) (w : World) :
    Calls Try.prog 69 #[.int .i64 o] w fun e w' => (∃ n, IsNear o n ∧ e = .returned (.int .i64 n)) ∧ Below w.heap.size w w' := by
  by_cases c1 : widI 2139095039 < o
  · refine (near_hi o (decide_eq_true c1) w).mono ?_
    rintro e w' ⟨rfl, hb⟩
    exact ⟨⟨2139095040, near_hi_is o c1 h2, rfl⟩, hb⟩
  · have u1 : decide (widI 2139095039 < o) = false := decide_eq_false c1
    by_cases c2 : o < widI (-2139095039)
    · refine (near_lo o u1 (decide_eq_true c2) w).mono ?_
      rintro e w' ⟨rfl, hb⟩
      exact ⟨⟨-2139095040, near_lo_is o c2 h1, rfl⟩, hb⟩
    · have u2 : decide (o < widI (-2139095039)) = false := decide_eq_false c2
      rw [x39] at c1
      rw [x39n] at c2
      have hR := near_R o _ c1 c2
      clear c1 c2
      have hw := bits_word o h1 h2
      have hc := f2f_narrow (decide (o < 0)) _ hR
      rw [← hw] at hc
      obtain ⟨-, -, -, -, -, hn⟩ := nar_near _ hR
      have hq : Hid (Ieee.single.word (decide (o < 0)) (nar (if o < 0 then (-o).toNat else o.toNat)) < 4294967296) := by
        have hd : Ieee.single.signWeight = 2147483648 := by decide
        show _ < _
        clear u1 u2 hR hc hw
        unfold Ieee.Format.word
        rw [hd]
        generalize nar _ = z at *
        split <;> omega
      have hb0 : 0 ≤ bitsI 9223372036854775808 o := by clear u1 u2 hR hc hw hn hq; unfold bitsI; split <;> omega
      have hb1 : Hid (bitsI 9223372036854775808 o < 18446744073709551616) := by clear u1 u2 hR hc hw hn hq; show _ < _; unfold bitsI; split <;> omega
      refine (near_core o _ _ _ h1 h2 u1 u2 rfl hb0 hb1 hc hq (ord_sword _ _ (Nat.le_of_lt hn)) w).mono ?_
      rintro e w' ⟨rfl, hb⟩
      have hi := near_is o _ (by clear u1 u2 hR hc hw hn hq; split <;> omega) hR
      refine ⟨⟨_, hi, ?_⟩, hb⟩
      apply ret_int
      by_cases h : o < 0
      · simp only [h, decide_true, if_true]
      · simp only [h, decide_false]; simp
end Go.Proofs.Yteigdooniolmlaa
