/- Contracts of the program's widened and BitWiden: a narrow float among the wide ones is 'widI'; nothing that was there is written. -/
import Derived.Test.YtekbhkklaogmnaaDoorW3
import Derived.Test.YtekbhkklaogmnaaDoorW4
import Derived.Test.YtekbhkklaogmnaaDoorW6
import Derived.Test.YtekbhkklaogmnaaDoorM2
namespace Go.Proofs.YtekbhkklaogmnaaDoor
open Go.RowKit

theorem bitsI_word (n : Int) (h1 : -2139095040 ≤ n) (h2 : n ≤ 2139095040) : (bitsI 2147483648 n).toNat = Ieee.single.word (decide (n < 0)) (if n < 0 then (-n).toNat else n.toNat) := by
  have hs : Ieee.single.signWeight = 2147483648 := by decide
  unfold bitsI Ieee.Format.word
  rw [hs]
  by_cases h : n < 0
  · simp only [h, decide_true, if_true]; omega
  · simp only [h, decide_false]; simp

theorem ord_word (neg : Bool) (R : Nat) (h : R ≤ 9218868437227405312) : ordN 9223372036854775808 9218868437227405312 (Ieee.double.word neg R : Nat) = if neg then -(R : Int) else R := by
  have hs : Ieee.double.signWeight = 9223372036854775808 := by decide
  unfold ordN Ieee.Format.word
  rw [hs]
  cases neg
  · simp only [Bool.false_eq_true, if_false]
    (repeat' split) <;> omega
  · simp only [if_true]
    (repeat' split) <;> omega

end Go.Proofs.YtekbhkklaogmnaaDoor
