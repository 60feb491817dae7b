/- The value of a finite float as a fraction in lowest terms, by the program. Conditions: the library's table and its handle of errors hold what their texts lay. -/
import Derived.Test.YtmhifokmncfgeaaGreatDoorXC
import Derived.Test.YtmhifokmncfgeaaGreatDoorW3
namespace Go.Proofs.YtmhifokmncfgeaaGreatDoor
open Go.RowKit
set_option linter.unusedVariables false
set_option maxRecDepth 100000

theorem absI_nat (n : Int) : absI n = (n.natAbs : Int) := by unfold absI; split <;> omega
theorem widI_fin {n : Int} (h1 : -2139095040 < n) (h2 : n < 2139095040) : decide (widI n < 0) = decide (n < 0) ∧ absI (widI n) = (wid n.natAbs : Nat) ∧ -9218868437227405312 < widI n ∧ widI n < 9218868437227405312 := by
  have hl := @wid_lt n.natAbs (by omega)
  unfold widI
  by_cases h : n < 0
  · have e : (-n).toNat = n.natAbs := by omega
    have hp : 0 < wid n.natAbs := by
      have := @wid_mono 0 n.natAbs (by omega) (by omega)
      rw [wid_zero] at this
      exact this
    rw [if_pos h, e]
    refine ⟨by rw [decide_eq_decide]; omega, ?_, by omega, by omega⟩
    unfold absI
    rw [if_pos (by omega)]
    omega
  · have e : n.toNat = n.natAbs := by omega
    rw [if_neg h, e]
    refine ⟨by rw [decide_eq_decide]; omega, ?_, by omega, by omega⟩
    unfold absI
    rw [if_neg (by omega)]

theorem bitsI_wordF (n : Int) (h1 : -2139095040 ≤ n) (h2 : n ≤ 2139095040) : (bitsI 2147483648 n).toNat = Ieee.single.word (decide (n < 0)) (if n < 0 then (-n).toNat else n.toNat) := by
  have hs : Ieee.single.signWeight = 2147483648 := by decide
  unfold bitsI Ieee.Format.word
  rw [hs]
  by_cases h : n < 0
  · simp only [h, decide_true, if_true]; omega
  · simp only [h, decide_false]; simp

theorem ord_wordF (neg : Bool) (R : Nat) (h : R ≤ 9218868437227405312) : ordN 9223372036854775808 9218868437227405312 (Ieee.double.word neg R : Nat) = if neg then -(R : Int) else R := by
  have hs : Ieee.double.signWeight = 9223372036854775808 := by decide
  unfold ordN Ieee.Format.word
  rw [hs]
  cases neg
  · simp only [Bool.false_eq_true, if_false]
    (repeat' split) <;> omega
  · simp only [if_true]
    (repeat' split) <;> omega

/-- what value answers: a size without the twos in it, and its power -/
def ValRes (w' : World) (base : Nat) (e : Ending) (g : Bool) (A B : Nat) : Prop :=
  ∃ (o : Nat) (p : Int) (av bv : Option Addr) (cv dv : Nat), e = .returned (.agg #[.bool g, .slice av (natL o).length cv, .slice bv (natL 1).length dv, .int .i64 p]) ∧ OI w' base av cv (natL o) ∧ OI w' base bv dv (natL 1) ∧ o < 9007199254740992 ∧ (-2000 ≤ p ∧ p ≤ 2000) ∧ SameF (vA o p) (vB p) A B

theorem o_le {s o e : Nat} (h : s = o * 2 ^ e) (hs : s < 9007199254740992) : o < 9007199254740992 := by
  have : o ≤ s := by rw [h]; exact Nat.le_mul_of_pos_right _ (Nat.pow_pos (by omega))
  omega
theorem iValue64 (v : Value) (n : Int) (h1 : -9218868437227405312 < n) (h2 : n < 9218868437227405312) (w : World) (hT : Tab w) :
    Calls Tryz.prog 196 #[v, .int .i64 n] w fun e w' => ValRes w' w.heap.size e (decide (n < 0)) (vA (sz 4503599627370496 n.natAbs) (pw 4503599627370496 (-1074) n.natAbs)) (vB (pw 4503599627370496 (-1074) n.natAbs)) ∧ Below w.heap.size w w' := by
  have hm : n.natAbs < 9218868437227405312 := by omega
  have hs := @sz_bd n.natAbs
  have hp := pw_bd hm
  obtain ⟨o, ee, q1, q2, q3, q4, q5⟩ := twos_size _ hs
  have PT := fun w => iPart_64 n h1 h2 w
  unfold partV at PT
  rw [absI_nat, show (4503599627370496 : Int) = ((4503599627370496 : Nat) : Int) from rfl, pSize_nat, pPow_nat] at PT
  have hb0 : 0 ≤ bitsI 9223372036854775808 n := by unfold bitsI; split <;> omega
  have hb1 : bitsI 9223372036854775808 n < 18446744073709551616 := by unfold bitsI; split <;> omega
  have hN : ordN 9223372036854775808 9218868437227405312 ((bitsI 9223372036854775808 n).toNat : Nat) = n := by
    rw [Int.toNat_of_nonneg hb0]
    unfold ordN bitsI
    (repeat' split) <;> omega
  have BO := fun w => iBitOrd_64 ((bitsI 9223372036854775808 n).toNat : Nat) (by omega) (by omega) w
  rw [hN] at BO
  refine (value_core64 v n n _ _ _ o ee _ _ w hT (hd (fun w => iFloat64 v n (by omega) (by omega) w)) (hd BO) (hd PT) (hd q5) (shr_u64 _ _ _ q3 q2) (div_pow q3) q4 (by omega) (by omega)).mono ?_
  rintro e w' ⟨⟨av, cv, bv, dv, rfl, A, B⟩, hb⟩
  exact ⟨⟨o, _, av, bv, cv, dv, rfl, A, B, o_le q1 hs, by omega, same_own q1⟩, hb⟩
theorem iValue32 (v : Value) (n : Int) (h1 : -2139095040 < n) (h2 : n < 2139095040) (w : World) (hT : Tab w) :
    Calls Tryz.prog 169 #[v, .int .i64 n] w fun e w' => ValRes w' w.heap.size e (decide (n < 0)) (vA (sz 8388608 n.natAbs) (pw 8388608 (-149) n.natAbs)) (vB (pw 8388608 (-149) n.natAbs)) ∧ Below w.heap.size w w' := by
  have hm : n.natAbs < 2139095040 := by omega
  obtain ⟨g1, g2, g3, g4⟩ := widI_fin h1 h2
  have hM : wid n.natAbs < 9218868437227405312 := wid_lt hm
  have hs := @sz_bd (wid n.natAbs)
  have hp := pw_bd hM
  obtain ⟨o, ee, q1, q2, q3, q4, q5⟩ := twos_size _ hs
  have PT := fun w => iPart_64 (widI n) g3 g4 w
  unfold partV at PT
  rw [g1, g2, show (4503599627370496 : Int) = ((4503599627370496 : Nat) : Int) from rfl, pSize_nat, pPow_nat] at PT
  have hr : (if n < 0 then (-n).toNat else n.toNat) ≤ 2139095040 := by split <;> omega
  have hw := bitsI_wordF n (by omega) (by omega)
  have hb := wid_bd hr
  have hc := f2f_widen (decide (n < 0)) _ hr
  rw [← hw] at hc
  have hsw : Ieee.double.signWeight = 9223372036854775808 := by decide
  have hX : Ieee.double.word (decide (n < 0)) (wid (if n < 0 then (-n).toNat else n.toNat)) < 18446744073709551616 := by
    unfold Ieee.Format.word
    rw [hsw]
    split <;> omega
  have hN : ordN 9223372036854775808 9218868437227405312 (Ieee.double.word (decide (n < 0)) (wid (if n < 0 then (-n).toNat else n.toNat)) : Nat) = widI n := by
    rw [ord_wordF _ _ hb]
    unfold widI
    by_cases h : n < 0
    · simp only [h, decide_true, if_true]
    · simp only [h, decide_false]; simp
  have BO := fun w => iBitOrd_64 (Ieee.double.word (decide (n < 0)) (wid (if n < 0 then (-n).toNat else n.toNat)) : Nat) (by omega) (by omega) w
  rw [hN] at BO
  refine (value_core32 v n (widI n) _ _ _ _ o ee _ _ w hT (hd (fun w => iFloat32 v n (by omega) (by omega) w)) (fun w => run_convert_float_float w 223 228 .f32 .f64 _ _ (by kernel_rfl) (by kernel_rfl) hc) (hd BO) (hd PT) (hd q5) (shr_u64 _ _ _ q3 q2) (div_pow q3) q4 (by omega) (by omega)).mono ?_
  rintro e w' ⟨⟨av, cv, bv, dv, rfl, A, B⟩, hb⟩
  exact ⟨⟨o, _, av, bv, cv, dv, rfl, A, B, o_le q1 hs, by omega, same_wide hm q1⟩, hb⟩
end Go.Proofs.YtmhifokmncfgeaaGreatDoor
