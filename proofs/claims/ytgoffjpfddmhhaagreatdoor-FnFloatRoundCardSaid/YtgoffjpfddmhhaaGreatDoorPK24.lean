/-
  Plain mathematics of floats of two widths: a narrow rung among the wide ones ('wid'), that it rises strictly, that the format's own writing of a narrow number as a wide one gives it, and that the nearest narrow rung of a wide one ('nar') is the one below or the one above. No condition but the ranges named.
-/
import Ieee.Arith
namespace Go.Proofs.YtgoffjpfddmhhaaGreatDoor
open Ieee

theorem cut_zero (neg : Bool) (n : Nat) : Toward.even.cut neg n 0 = n := by
  simp [Toward.cut, Nat.mod_one]

theorem nearest_exact (f : Format) (neg : Bool) (mag : Nat) (place : Int) (hm : mag ≠ 0) (hl : mag.log2 ≤ f.fractionBits)
    (hp : f.leastPlace ≤ place + mag.log2 - f.fractionBits) :
    f.nearest neg mag place = f.word neg (min ((place + mag.log2 - f.fractionBits - f.leastPlace).toNat * f.binade + mag * 2 ^ (f.fractionBits - mag.log2)) f.infRung) := by
  unfold Format.nearest
  rw [if_neg hm]
  have e1 : max (place + (mag.log2 : Int) - f.fractionBits) f.leastPlace = place + mag.log2 - f.fractionBits := by omega
  simp only [e1]
  have e2 : (place + (mag.log2 : Int) - f.fractionBits - place).toNat = 0 := by omega
  have e3 : (place - (place + (mag.log2 : Int) - f.fractionBits)).toNat = f.fractionBits - mag.log2 := by omega
  rw [e2, cut_zero, e3, Nat.shiftLeft_eq]

def wid (r : Nat) : Nat :=
  if r = 0 then 0 else if r < 8388608 then (r.log2 + 873) * 4503599627370496 + r * 2 ^ (52 - r.log2)
  else if r < 2139095040 then 896 * 4503599627370496 + r * 536870912 else 9218868437227405312

theorem wid_small {r : Nat} (h0 : r ≠ 0) (h1 : r < 8388608) : wid r = (r.log2 + 873) * 4503599627370496 + r * 2 ^ (52 - r.log2) := by
  simp [wid, h0, h1]
theorem wid_common {r : Nat} (h0 : 8388608 ≤ r) (h1 : r < 2139095040) : wid r = 896 * 4503599627370496 + r * 536870912 := by
  have : r ≠ 0 := by omega
  have h : ¬ r < 8388608 := by omega
  simp [wid, this, h, h1]
theorem wid_top : wid 2139095040 = 9218868437227405312 := by simp [wid]
theorem wid_zero : wid 0 = 0 := by simp [wid]

theorem single_read (neg : Bool) (r : Nat) (h : r < 2139095040) : single.read (single.word neg r) =
   if r < 8388608 then .number neg r (-149) else .number neg (8388608 + r % 8388608) (-149 + (r / 8388608 - 1 : Nat)) := by
  have hs : single.signWeight = 2147483648 := by decide
  have hb : single.binade = 8388608 := by decide
  have hi : single.infRung = 2139095040 := by decide
  have hl : single.leastPlace = -149 := by decide
  have e1 : single.word neg r % 2147483648 = r := by unfold Format.word; rw [hs]; split <;> omega
  have e2 : (single.word neg r / 2147483648 % 2 == 1) = neg := by unfold Format.word; rw [hs]; cases neg <;> simp <;> omega
  unfold Format.read
  simp only [hs, hb, hi, hl, e1, e2]
  split
  · rfl
  · rfl

theorem wid_lt {r : Nat} (h : r < 2139095040) : wid r < 9218868437227405312 := by
  by_cases h0 : r = 0
  · subst h0; simp [wid]
  · by_cases h1 : r < 8388608
    · rw [wid_small h0 h1]
      have a : r.log2 < 23 := (Nat.log2_lt h0).2 h1
      have b : r * 2 ^ (52 - r.log2) < 2 ^ 53 := by
        have := Nat.lt_log2_self (n := r)
        calc r * 2 ^ (52 - r.log2) < 2 ^ (r.log2 + 1) * 2 ^ (52 - r.log2) := Nat.mul_lt_mul_of_pos_right this (Nat.two_pow_pos _)
          _ = 2 ^ 53 := by rw [← Nat.pow_add]; congr 1; omega
      omega
    · rw [wid_common (by omega) h]; omega

theorem widen_word (neg : Bool) (r : Nat) (h : r < 2139095040) : double.write (single.read (single.word neg r)) = double.word neg (wid r) := by
  rw [single_read neg r h]
  have hf : double.fractionBits = 52 := by decide
  have hb : double.binade = 4503599627370496 := by decide
  have hi : double.infRung = 9218868437227405312 := by decide
  have hl : double.leastPlace = -1074 := by decide
  have hw := wid_lt h
  by_cases h1 : r < 8388608
  · rw [if_pos h1]
    by_cases h0 : r = 0
    · subst h0; simp [Format.write, Format.nearest, wid]
    · have a : r.log2 < 23 := (Nat.log2_lt h0).2 h1
      unfold Format.write
      simp only []
      rw [nearest_exact _ _ _ _ h0 (by omega) (by omega)]
      congr 1
      rw [hf, hl, hb, hi]
      have e : (-149 + (r.log2 : Int) - (52 : Nat) - -1074).toNat = r.log2 + 873 := by omega
      rw [e, ← wid_small h0 h1]
      omega
  · rw [if_neg h1]
    have hm : 8388608 + r % 8388608 ≠ 0 := by omega
    have hlog : (8388608 + r % 8388608).log2 = 23 := by
      rw [Nat.log2_eq_iff hm]; omega
    unfold Format.write
    simp only []
    rw [nearest_exact _ _ _ _ hm (by omega) (by omega)]
    congr 1
    rw [hf, hl, hb, hi, hlog]
    have e : (-149 + ((r / 8388608 - 1 : Nat) : Int) + (23 : Nat) - (52 : Nat) - -1074).toNat = r / 8388608 - 1 + 896 := by omega
    rw [e, wid_common (by omega) h]
    rw [wid_common (by omega) h] at hw
    omega

/-- between two powers of two the widened rung is linear -/
theorem wid_lin {k r : Nat} (hk : k ≤ 22) (h0 : 2 ^ k ≤ r) (h1 : r ≤ 2 ^ (k + 1)) : wid r = (k + 873) * 4503599627370496 + r * 2 ^ (52 - k) := by
  have hp := Nat.two_pow_pos k
  have hr : r ≠ 0 := by omega
  by_cases h : r < 2 ^ (k + 1)
  · have hl : r.log2 = k := by rw [Nat.log2_eq_iff hr]; exact ⟨h0, h⟩
    have : r < 8388608 := Nat.lt_of_lt_of_le h (by have : 2 ^ (k + 1) ≤ 2 ^ 23 := Nat.pow_le_pow_right (by omega) (by omega); simpa using this)
    rw [wid_small hr this, hl]
  · have hr2 : r = 2 ^ (k + 1) := by omega
    have e1 : 2 ^ (k + 1) * 2 ^ (52 - k) = 2 ^ 53 := by rw [← Nat.pow_add]; congr 1; omega
    have hl : r.log2 = k + 1 := by rw [hr2, Nat.log2_two_pow]
    by_cases h22 : k = 22
    · subst h22
      rw [hr2, wid_common (by decide) (by decide)]
    · have : r < 8388608 := by
        rw [hr2]
        have : 2 ^ (k + 1) < 2 ^ 23 := Nat.pow_lt_pow_right (by omega) (by omega)
        simpa using this
      rw [wid_small hr this, hl, hr2, e1]
      have e2 : 2 ^ (k + 1) * 2 ^ (52 - (k + 1)) = 2 ^ 52 := by rw [← Nat.pow_add]; congr 1; omega
      rw [e2]; omega

theorem wid_step {r : Nat} (h : r < 2139095040) : wid r < wid (r + 1) := by
  by_cases h0 : r = 0
  · subst h0; decide
  by_cases h1 : r < 8388608
  · have a : r.log2 < 23 := (Nat.log2_lt h0).2 h1
    have b := Nat.log2_self_le h0
    have c := Nat.lt_log2_self (n := r)
    rw [wid_lin (k := r.log2) (by omega) b (by omega), wid_lin (k := r.log2) (by omega) (by omega) (by omega)]
    have : 0 < 2 ^ (52 - r.log2) := Nat.two_pow_pos _
    have e : (r + 1) * 2 ^ (52 - r.log2) = r * 2 ^ (52 - r.log2) + 2 ^ (52 - r.log2) := by rw [Nat.add_mul, Nat.one_mul]
    omega
  · by_cases h2 : r + 1 < 2139095040
    · rw [wid_common (by omega) h, wid_common (by omega) h2]; omega
    · have : r + 1 = 2139095040 := by omega
      rw [this, wid_top]; exact wid_lt h

theorem wid_mono {r s : Nat} (h : r < s) (hs : s ≤ 2139095040) : wid r < wid s := by
  induction s with
  | zero => omega
  | succ n ih =>
    by_cases e : r = n
    · subst e; exact wid_step (by omega)
    · exact Nat.lt_trans (ih (by omega) (by omega)) (wid_step (by omega))

theorem wid_le {r s : Nat} (h : r ≤ s) (hs : s ≤ 2139095040) : wid r ≤ wid s := by
  by_cases e : r = s
  · subst e; omega
  · exact Nat.le_of_lt (wid_mono (by omega) hs)

theorem double_read (neg : Bool) (r : Nat) (h : r < 9218868437227405312) : double.read (double.word neg r) =
   .number neg (if r < 4503599627370496 then r else 4503599627370496 + r % 4503599627370496) (if r < 4503599627370496 then -1074 else -1074 + (r / 4503599627370496 - 1 : Nat)) := by
  have hs : double.signWeight = 9223372036854775808 := by decide
  have hb : double.binade = 4503599627370496 := by decide
  have hi : double.infRung = 9218868437227405312 := by decide
  have hl : double.leastPlace = -1074 := by decide
  have e1 : double.word neg r % 9223372036854775808 = r := by unfold Format.word; rw [hs]; split <;> omega
  have e2 : (double.word neg r / 9223372036854775808 % 2 == 1) = neg := by unfold Format.word; rw [hs]; cases neg <;> simp <;> omega
  unfold Format.read
  simp only [hs, hb, hi, hl, e1, e2]
  split
  · rfl
  · rfl

end Go.Proofs.YtgoffjpfddmhhaaGreatDoor
