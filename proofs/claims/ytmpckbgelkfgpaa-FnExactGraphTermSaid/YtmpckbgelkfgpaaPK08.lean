/- Literals of the specification: taken apart. Nothing is written. No condition. -/
import Derived.Test.YtmpckbgelkfgpaaPK06
import Derived.Deep.DeepCutAuto
namespace Go.Proofs.Ytmpckbgelkfgpaa
open Go.RowKit
set_option linter.unusedVariables false
set_option maxRecDepth 100000

def tl (s : ByteArray) (a : Nat) (m : Bool) : Bool := if dn s a = 0 ∨ 3 < dn s a ∨ ((1 < dn s a ∨ m = true) ∧ byt s a = 48) then false else decide (nm s a (dn s a) ≤ 400) && decide (a + dn s a = s.size)
theorem exp_no {s : ByteArray} {k : Nat} (h : ¬ (k < s.size ∧ byt s k = 101)) : expS s k = decide (k = s.size) := by unfold expS; rw [if_neg h]
theorem exp_m {s : ByteArray} {k : Nat} (h : k < s.size ∧ byt s k = 101) (hm : k + 1 < s.size ∧ byt s (k + 1) = 45) : expS s k = tl s (k + 1 + 1) true := by
  unfold expS tl
  rw [if_pos h]
  simp only [if_pos hm]
  simp only [hm, or_true, true_and, and_true]
theorem exp_p {s : ByteArray} {k : Nat} (h : k < s.size ∧ byt s k = 101) (hm : ¬ (k + 1 < s.size ∧ byt s (k + 1) = 45)) : expS s k = tl s (k + 1) false := by
  unfold expS tl
  rw [if_pos h]
  simp only [if_neg hm]
  simp only [hm, or_false, Nat.add_zero]
  simp
theorem tl_bad {s : ByteArray} {a : Nat} {m : Bool} (h : dn s a = 0 ∨ 3 < dn s a ∨ ((1 < dn s a ∨ m = true) ∧ byt s a = 48)) : tl s a m = false := by unfold tl; rw [if_pos h]
theorem tl_ok {s : ByteArray} {a : Nat} {m : Bool} (h : ¬ (dn s a = 0 ∨ 3 < dn s a ∨ ((1 < dn s a ∨ m = true) ∧ byt s a = 48))) : tl s a m = (decide (nm s a (dn s a) ≤ 400) && decide (a + dn s a = s.size)) := by unfold tl; rw [if_neg h]
theorem nm_bd {s : ByteArray} {a : Nat} : ∀ (j : Nat), (∀ i, i < j → dig' s (a + i)) → 0 ≤ nm s a j ∧ nm s a j < 10 ^ j
  | 0, _ => by unfold nm; decide
  | j + 1, h => by
    have q := nm_bd j (fun i hi => h i (by omega))
    have d := (h j (by omega)).2
    unfold nm
    rw [Int.pow_succ]
    omega
theorem same_dec (a j n : Nat) : decide (a + j = n) = (((a : Int) + (j : Int)) == (n : Int)) := by
  rw [Bool.eq_iff_iff]; simp; omega
theorem same_dec1 (a n : Nat) : decide (a = n) = ((a : Int) == (n : Int)) := by
  rw [Bool.eq_iff_iff]; simp; omega
end Go.Proofs.Ytmpckbgelkfgpaa
