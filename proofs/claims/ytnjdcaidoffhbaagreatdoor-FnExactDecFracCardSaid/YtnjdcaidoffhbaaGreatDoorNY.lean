/- Numbers read from decimals: what is read, and the specification's reading. No condition but the text's length. -/
import Derived.Test.YtnjdcaidoffhbaaGreatDoorBC
import Derived.Test.YtnjdcaidoffhbaaGreatDoorBB
import Derived.Test.YtnjdcaidoffhbaaGreatDoorZA
import Derived.Deep.RegionHeld3
namespace Go.Proofs.YtnjdcaidoffhbaaGreatDoor
open Go.RowKit
set_option linter.unusedVariables false
set_option maxRecDepth 100000

/-- the number of the first k signs -/
def nv (s : ByteArray) : Nat → Nat
  | 0 => 0
  | k + 1 => nv s k * 10 + ((byt s k).toNat - 48)
theorem nv_lt (s : ByteArray) (k : Nat) : nv s k < 65536 ^ k := by
  induction k with
  | zero => simp [nv]
  | succ k ih =>
    have h := byt_bd s k
    rw [nv, Nat.pow_succ]
    generalize 65536 ^ k = z at *
    omega
def allDg (s : ByteArray) (k : Nat) : Bool := (List.range k).all (fun i => isD (byt s i))
theorem allDg_no {s : ByteArray} {i k : Nat} (h : i < k) (hi : isD (byt s i) = false) : allDg s k = false := by
  unfold allDg
  rw [List.all_eq_false]
  exact ⟨i, by simpa using h, by simpa using hi⟩
theorem allDg_yes {s : ByteArray} {k : Nat} (h : ∀ i, i < k → isD (byt s i) = true) : allDg s k = true := by
  unfold allDg
  rw [List.all_eq_true]
  intro i hi
  exact h i (by simpa using hi)
theorem allDg_at {s : ByteArray} {k i : Nat} (h : allDg s k = true) (hi : i < k) : isD (byt s i) = true := by
  unfold allDg at h
  rw [List.all_eq_true] at h
  exact h i (by simpa using hi)
/-- whether a text is decimals -/
def decB (s : ByteArray) : Bool := decide (s.size ≠ 0) && (decide (s.size = 1 ∨ byt s 0 ≠ 48) && allDg s s.size)
def rdB (s : ByteArray) : Bool := decide (s.size ≤ 1300) && (decB s && fitsB (nv s s.size))
theorem isD_b {n : Int} (h : isD n = true) : 48 ≤ n ∧ n ≤ 57 := by unfold isD at h; simpa using h
theorem isD_n {n : Int} (h : isD n = false) : n < 48 ∨ 57 < n := by unfold isD at h; simp at h; omega
end Go.Proofs.YtnjdcaidoffhbaaGreatDoor
