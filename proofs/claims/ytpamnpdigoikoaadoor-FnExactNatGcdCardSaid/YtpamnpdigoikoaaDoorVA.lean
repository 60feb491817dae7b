/- The program's quotient and rest by a number of two digits or more. Conditions: digits, no needless noughts in the divisor. -/
import Derived.Test.YtpamnpdigoikoaaDoorV4
import Derived.Test.YtpamnpdigoikoaaDoorV9
import Derived.Test.YtpamnpdigoikoaaDoorVR
namespace Go.Proofs.YtpamnpdigoikoaaDoor
open Go.RowKit Go.Shelf
attribute [local go_sem] Oper.semAt_some
set_option linter.unusedVariables false
set_option maxRecDepth 100000

/-- quotient and rest of what came, the highest digit ahead: the rest as a number -/
def cutF (xs : List Int) (D : Nat) {len : Nat} (pre : List (Fin len)) : List Int × Nat := pre.foldl (fun s y => (s.1.set y.val (((s.2 * 65536 + (xs.getD y.val 0).toNat) / D : Nat) : Int), (s.2 * 65536 + (xs.getD y.val 0).toNat) % D)) (List.replicate len 0, 0)
theorem cutF_snoc (xs : List Int) (D : Nat) {len : Nat} (pre : List (Fin len)) (y : Fin len) : cutF xs D (pre ++ [y]) = ((cutF xs D pre).1.set y.val ((((cutF xs D pre).2 * 65536 + (xs.getD y.val 0).toNat) / D : Nat) : Int), ((cutF xs D pre).2 * 65536 + (xs.getD y.val 0).toNat) % D) := by simp [cutF]
theorem cutF_bd {xs : List Int} {D : Nat} (hD : 0 < D) {len : Nat} (n : Nat) : ∀ (pre : List (Fin len)), pre.length = n → (cutF xs D pre).1.length = len ∧ (cutF xs D pre).2 < D := by
  induction n with
  | zero =>
    intro pre hp
    have : pre = [] := List.length_eq_zero_iff.1 hp
    subst this; simp [cutF]; omega
  | succ n ih =>
    intro pre hp
    obtain ⟨q, x, rfl⟩ : ∃ q x, pre = q ++ [x] := ⟨pre.dropLast, pre.getLast (by intro e; subst e; simp at hp), (List.dropLast_concat_getLast _).symm⟩
    have := ih q (by simpa using hp)
    rw [cutF_snoc]
    exact ⟨by simpa using this.1, Nat.mod_lt _ hD⟩
theorem cutF_val {xs : List Int} {len D : Nat} (hp : xs.length = len) (hx : digs xs) (hD : 0 < D) (k : Nat) : ∀ (ys : List (Fin len)), k ≤ len → ys.map Fin.val = downR len k → LongI len xs (cutF xs D ys).1 D (len - k) (cutF xs D ys).2 := by
  induction k with
  | zero =>
    intro ys hk hy
    have : ys = [] := by simpa [downR] using hy
    subst this
    refine ⟨by simp [cutF], by simp [cutF]; exact digs_zeros _, by simp [cutF]; omega, ?_⟩
    rw [Nat.sub_zero, List.drop_of_length_le (by omega), List.drop_of_length_le (by simp [cutF])]
    simp [cutF, val]
  | succ k ih =>
    intro ys hk hy
    have hl : ys.length = k + 1 := by have := congrArg List.length hy; simpa [downR] using this
    obtain ⟨q, x, rfl⟩ : ∃ q x, ys = q ++ [x] := ⟨ys.dropLast, ys.getLast (by intro e; subst e; simp at hl), (List.dropLast_concat_getLast _).symm⟩
    obtain ⟨j, hj, hq, hxv⟩ := downR_last hy
    obtain rfl : k = j := by omega
    rw [cutF_snoc]
    have hI := ih q (by omega) hq
    have e1 : len - k = (len - (k + 1)) + 1 := by omega
    rw [e1] at hI
    have e2 : x.val = len - (k + 1) := by omega
    have := (hI.step (by omega) (by omega) hx _ rfl).2
    rw [e2]
    exact this
theorem cutF_all {xs : List Int} {len D : Nat} (hp : xs.length = len) (hx : digs xs) (hD : 0 < D) (ys : List (Fin len)) (hy : ys.map Fin.val = downR len len) : val (cutF xs D ys).1 = val xs / D ∧ (cutF xs D ys).2 = val xs % D ∧ digs (cutF xs D ys).1 := by
  have h := cutF_val hp hx hD len ys (Nat.le_refl _) hy
  rw [Nat.sub_self] at h
  exact ⟨h.all.1, h.all.2, h.dg⟩
/-- digits that move up by one place, a digit comes in below -/
theorem shift_in {rs : List Int} {n : Nat} {d : Int} (hl : rs.length = n + 1) (hd : digs rs) (hv : val rs < 65536 ^ n) (hdd : dig d) : (d :: rs.take n).length = n + 1 ∧ digs (d :: rs.take n) ∧ val (d :: rs.take n) = val rs * 65536 + d.toNat := by
  refine ⟨by simp [hl], digs_cons.2 ⟨hdd, digs_take hd⟩, ?_⟩
  rw [val_cons]
  have hspl := take_snoc (xs := rs) (k := n) (by omega)
  rw [List.take_of_length_le (by omega)] at hspl
  have hv2 : val rs = val (rs.take n) + 65536 ^ n * (rs.getD n 0).toNat := by
    have := congrArg val hspl
    rw [val_append, List.length_take, Nat.min_eq_left (by omega), val_cons, val_nil] at this
    rw [this]; simp
  have ht : (rs.getD n 0).toNat = 0 := by
    rcases Nat.eq_zero_or_pos (rs.getD n 0).toNat with g | g
    · exact g
    · have : 65536 ^ n * 1 ≤ 65536 ^ n * (rs.getD n 0).toNat := Nat.mul_le_mul_left _ g
      generalize 65536 ^ n = P at *
      generalize 65536 ^ n * (rs.getD n 0).toNat = z at *
      omega
  rw [ht, Nat.mul_zero, Nat.add_zero] at hv2
  rw [hv2]
  omega
end Go.Proofs.YtpamnpdigoikoaaDoor
