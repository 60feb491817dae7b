/- A number below 2^64 as one word, by the program: its iterator from the top. No condition. -/
import Derived.Test.YtpamnpdigoikoaaDoorNP
namespace Go.Proofs.YtpamnpdigoikoaaDoor
open Go.RowKit Go.Shelf
attribute [local go_sem] Oper.semAt_some
set_option linter.unusedVariables false
set_option maxRecDepth 100000

def accF (xs : List Int) {len : Nat} (pre : List (Fin len)) : Nat := pre.foldl (fun n y => n * 65536 + (xs.getD y.val 0).toNat) 0
theorem accF_snoc (xs : List Int) {len : Nat} (pre : List (Fin len)) (x : Fin len) : accF xs (pre ++ [x]) = accF xs pre * 65536 + (xs.getD x.val 0).toNat := by simp [accF]
theorem accF_lt {xs : List Int} (h : digs xs) {len : Nat} (n : Nat) : ∀ (pre : List (Fin len)), pre.length = n → accF xs pre < 65536 ^ n := by
  induction n with
  | zero =>
    intro pre hp
    have : pre = [] := List.length_eq_zero_iff.1 hp
    subst this; simp [accF]
  | succ n ih =>
    intro pre hp
    obtain ⟨q, x, rfl⟩ : ∃ q x, pre = q ++ [x] := ⟨pre.dropLast, pre.getLast (by intro e; subst e; simp at hp), (List.dropLast_concat_getLast _).symm⟩
    have := ih q (by simpa using hp)
    have d := digs_getD h x.val
    unfold dig at d
    rw [accF_snoc, Nat.pow_succ]
    omega
theorem accF_val {xs : List Int} {len : Nat} (hp : xs.length = len) (k : Nat) : ∀ (ys : List (Fin len)), k ≤ len → ys.map Fin.val = downR len k → accF xs ys = val (xs.drop (len - k)) := by
  induction k with
  | zero =>
    intro ys hk hy
    have : ys = [] := by simpa [downR] using hy
    subst this
    rw [Nat.sub_zero, List.drop_of_length_le (by omega)]; rfl
  | succ k ih =>
    intro ys hk hy
    have hl : ys.length = k + 1 := by have := congrArg List.length hy; simpa [downR] using this
    obtain ⟨q, x, rfl⟩ : ∃ q x, ys = q ++ [x] := ⟨ys.dropLast, ys.getLast (by intro e; subst e; simp at hl), (List.dropLast_concat_getLast _).symm⟩
    obtain ⟨j, hj, hq, hx⟩ := downR_last hy
    obtain rfl : k = j := by omega
    rw [accF_snoc, ih q (by omega) hq, hx]
    have e := val_drop (xs := xs) (j := len - (k + 1)) (by omega)
    rw [show len - (k + 1) + 1 = len - k by omega, show len - (k + 1) = len - 1 - k by omega] at e
    rw [show len - (k + 1) = len - 1 - k by omega, e]
    omega
theorem or_join {n : Nat} {d : Int} (h1 : n < 281474976710656) (h2 : dig d) : bits .or .u64 ((n : Int) * 65536) d = (n : Int) * 65536 + d := by
  unfold dig at h2
  rw [u64_or _ _ (by omega) (by omega) (by omega) (by omega)]
  have e := nat_join 16 ((n : Int) * 65536).toNat d.toNat (by omega) (by omega)
  rw [e]
  omega
end Go.Proofs.YtpamnpdigoikoaaDoor
