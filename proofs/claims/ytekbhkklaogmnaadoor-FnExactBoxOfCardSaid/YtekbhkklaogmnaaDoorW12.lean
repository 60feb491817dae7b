/- The contract of the program's narrowNear: the nearest narrow float of a wide one is the one below or the next one above; nothing that was there is written. -/
import Derived.Test.YtekbhkklaogmnaaDoorW11
import Derived.Test.YtekbhkklaogmnaaDoorW8
import Derived.Deep.RegionWith
namespace Go.Proofs.YtekbhkklaogmnaaDoor
open Go.RowKit


/-- n lies next to o: it is the one below, or the next one above it -/
def IsNear (o n : Int) : Prop := IsBelow o n ∨ (-2139095040 < n ∧ n ≤ 2139095040 ∧ IsBelow o (n - 1) ∧ o < widI n)

theorem bits_word (o : Int) (h1 : -9218868437227405312 ≤ o) (h2 : o ≤ 9218868437227405312) : (bitsI 9223372036854775808 o).toNat = Ieee.double.word (decide (o < 0)) (if o < 0 then (-o).toNat else o.toNat) := by
  have hs : Ieee.double.signWeight = 9223372036854775808 := by decide
  unfold bitsI Ieee.Format.word
  rw [hs]
  by_cases h : o < 0
  · simp only [h, decide_true, if_true]; omega
  · simp only [h, decide_false]; simp
theorem ord_sword (neg : Bool) (R : Nat) (h : R ≤ 2139095040) : ordN 2147483648 2139095040 (Ieee.single.word neg R : Nat) = if neg then -(R : Int) else R := by
  have hs : Ieee.single.signWeight = 2147483648 := by decide
  unfold ordN Ieee.Format.word
  rw [hs]
  cases neg
  · simp only [Bool.false_eq_true, if_false]
    (repeat' split) <;> omega
  · simp only [if_true]
    (repeat' split) <;> omega

theorem widI_nat (r : Nat) : widI (r : Int) = wid r := by
  unfold widI; rw [if_neg (by omega)]; rfl
theorem widI_natneg (r : Nat) : widI (-(r : Int)) = -(wid r : Int) := by rw [widI_neg, widI_nat]

theorem near_is (o : Int) (R : Nat) (hR : (R : Int) = if o < 0 then -o else o) (h : R ≤ wid 2139095039) : IsNear o (if o < 0 then -(nar R : Int) else (nar R : Int)) := by
  obtain ⟨F, f1, f2, f3, f4, f5⟩ := nar_near R h
  clear h
  by_cases hn : o < 0
  · rw [if_pos hn] at hR ⊢
    have x1 := widI_natneg F
    have x2 := widI_natneg (F + 1)
    generalize nar R = N at *
    generalize hA : wid F = A at *
    generalize hB : wid (F + 1) = B at *
    rcases f4 with rfl | ⟨rfl, f6⟩
    · by_cases he : R = A
      · left
        refine ⟨by omega, by omega, by rw [x1]; omega, fun hlt => ?_⟩
        have := widI_mono (a := -(N : Int)) (b := -(N : Int) + 1) (by omega) (by omega) (by omega)
        rw [x1] at this
        omega
      · right
        refine ⟨by omega, by omega, ⟨by omega, by omega, ?_, fun _ => ?_⟩, by rw [x1]; omega⟩
        · have e : -(N : Int) - 1 = -((N + 1 : Nat) : Int) := by omega
          rw [e, x2]; omega
        · have e : -(N : Int) - 1 + 1 = -(N : Int) := by omega
          rw [e, x1]; omega
    · left
      refine ⟨by omega, by omega, by rw [x2]; omega, fun _ => ?_⟩
      have e : -((F + 1 : Nat) : Int) + 1 = -(F : Int) := by omega
      rw [e, x1]; omega
  · rw [if_neg hn] at hR ⊢
    have x1 := widI_nat F
    have x2 := widI_nat (F + 1)
    generalize nar R = N at *
    generalize hA : wid F = A at *
    generalize hB : wid (F + 1) = B at *
    rcases f4 with rfl | ⟨rfl, f6⟩
    · left
      refine ⟨by omega, by omega, by rw [x1]; omega, fun _ => ?_⟩
      have e : (N : Int) + 1 = ((N + 1 : Nat) : Int) := by omega
      rw [e, x2]; omega
    · right
      have e : ((F + 1 : Nat) : Int) - 1 = (F : Int) := by omega
      refine ⟨by omega, by omega, ?_, by rw [x2]; omega⟩
      rw [e]
      refine ⟨by omega, by omega, by rw [x1]; omega, fun _ => ?_⟩
      have e2 : (F : Int) + 1 = ((F + 1 : Nat) : Int) := by omega
      rw [e2, x2]; omega

theorem x39 : widI 2139095039 = (wid 2139095039 : Int) := by unfold widI; rw [if_neg (by decide)]; rfl
theorem x39n : widI (-2139095039) = -(wid 2139095039 : Int) := by rw [widI_neg, x39]

theorem near_hi_is (o : Int) (c1 : widI 2139095039 < o) (h2 : o ≤ 9218868437227405312) : IsNear o 2139095040 := by
  by_cases ce : o = 9218868437227405312
  · left
    refine ⟨by decide, by decide, ?_, fun h => absurd h (by decide)⟩
    rw [widI_top, ce]; exact Int.le_refl _
  · right
    have e : (2139095040 : Int) - 1 = 2139095039 := by decide
    have e2 : (2139095039 : Int) + 1 = 2139095040 := by decide
    have lt : o < widI 2139095040 := by rw [widI_top]; clear c1; omega
    refine ⟨by decide, by decide, ?_, lt⟩
    rw [e]
    refine ⟨by decide, by decide, Int.le_of_lt c1, fun _ => ?_⟩
    rw [e2]; exact lt

theorem near_lo_is (o : Int) (c2 : o < widI (-2139095039)) (h1 : -9218868437227405312 ≤ o) : IsNear o (-2139095040) := by
  left
  have e2 : (-2139095040 : Int) + 1 = -2139095039 := by decide
  refine ⟨by decide, by decide, ?_, fun _ => ?_⟩
  · rw [widI_bot]; exact h1
  · rw [e2]; exact c2

theorem near_R (o : Int) (M : Nat) (c1 : ¬ (M : Int) < o) (c2 : ¬ o < -(M : Int)) : (if o < 0 then (-o).toNat else o.toNat) ≤ M := by
  split <;> omega

end Go.Proofs.YtekbhkklaogmnaaDoor
