/-
  Plain mathematics of floats of two widths: a narrow rung among the wide ones ('wid'), that it rises strictly, that the format's own writing of a narrow number as a wide one gives it, and that the nearest narrow rung of a wide one ('nar') is the one below or the one above. No condition but the ranges named.
-/
import Ieee.Arith
namespace Go.Proofs.Ytpnfkigeagbhpaa
open Ieee

theorem cut_zero (neg : Bool) (n : Nat) : Toward.even.cut neg n 0 = n := by
  simp [Toward.cut, Nat.mod_one]

theorem nearest_exact (f : Format) (neg : Bool) (mag : Nat) (place : Int) (hm : mag ≠ 0) (hl : mag.log2 ≤ f.fractionBits)
    (hp : f.leastPlace ≤ place + mag.log2 - f.fractionBits) :
    f.nearest neg mag place = f.word neg (min ((place + mag.log2 - f.fractionBits - f.leastPlace).toNat * f.binade + mag * 2 ^ (f.fractionBits - mag.log2)) f.infRung) := by
  unfold Format.nearest
  rw [if_neg hm]
  have e1 : max (place + (mag.log2 : Int) - f.fractionBits) f.leastPlace = place + mag.log2 - f.fractionBits := by omega
  simp only [e1]
  have e2 : (place + (mag.log2 : Int) - f.fractionBits - place).toNat = 0 := by omega
  have e3 : (place - (place + (mag.log2 : Int) - f.fractionBits)).toNat = f.fractionBits - mag.log2 := by omega
  rw [e2, cut_zero, e3, Nat.shiftLeft_eq]

def wid (r : Nat) : Nat :=
  if r = 0 then 0 else if r < 8388608 then (r.log2 + 873) * 4503599627370496 + r * 2 ^ (52 - r.log2)
  else if r < 2139095040 then 896 * 4503599627370496 + r * 536870912 else 9218868437227405312

theorem wid_small {r : Nat} (h0 : r ≠ 0) (h1 : r < 8388608) : wid r = (r.log2 + 873) * 4503599627370496 + r * 2 ^ (52 - r.log2) := by
  simp [wid, h0, h1]
theorem wid_common {r : Nat} (h0 : 8388608 ≤ r) (h1 : r < 2139095040) : wid r = 896 * 4503599627370496 + r * 536870912 := by
  have : r ≠ 0 := by omega
  have h : ¬ r < 8388608 := by omega
  simp [wid, this, h, h1]
theorem wid_top : wid 2139095040 = 9218868437227405312 := by simp [wid]
theorem wid_zero : wid 0 = 0 := by simp [wid]

theorem single_read (neg : Bool) (r : Nat) (h : r < 2139095040) : single.read (single.word neg r) =
   if r < 8388608 then .number neg r (-149) else .number neg (8388608 + r % 8388608) (-149 + (r / 8388608 - 1 : Nat)) := by
  have hs : single.signWeight = 2147483648 := by decide
  have hb : single.binade = 8388608 := by decide
  have hi : single.infRung = 2139095040 := by decide
  have hl : single.leastPlace = -149 := by decide
  have e1 : single.word neg r % 2147483648 = r := by unfold Format.word; rw [hs]; split <;> omega
  have e2 : (single.word neg r / 2147483648 % 2 == 1) = neg := by unfold Format.word; rw [hs]; cases neg <;> simp <;> omega
  unfold Format.read
  simp only [hs, hb, hi, hl, e1, e2]
  split
  · rfl
  · rfl

theorem wid_lt {r : Nat} (h : r < 2139095040) : wid r < 9218868437227405312 := by
  by_cases h0 : r = 0
  · subst h0; simp [wid]
  · by_cases h1 : r < 8388608
    · rw [wid_small h0 h1]
      have a : r.log2 < 23 := (Nat.log2_lt h0).2 h1
      have b : r * 2 ^ (52 - r.log2) < 2 ^ 53 := by
        have := Nat.lt_log2_self (n := r)
        calc r * 2 ^ (52 - r.log2) < 2 ^ (r.log2 + 1) * 2 ^ (52 - r.log2) := Nat.mul_lt_mul_of_pos_right this (Nat.two_pow_pos _)
          _ = 2 ^ 53 := by rw [← Nat.pow_add]; congr 1; omega
      omega
    · rw [wid_common (by omega) h]; omega

theorem widen_word (neg : Bool) (r : Nat) (h : r < 2139095040) : double.write (single.read (single.word neg r)) = double.word neg (wid r) := by
  rw [single_read neg r h]
  have hf : double.fractionBits = 52 := by decide
  have hb : double.binade = 4503599627370496 := by decide
  have hi : double.infRung = 9218868437227405312 := by decide
  have hl : double.leastPlace = -1074 := by decide
  have hw := wid_lt h
  by_cases h1 : r < 8388608
  · rw [if_pos h1]
    by_cases h0 : r = 0
    · subst h0; simp [Format.write, Format.nearest, wid]
    · have a : r.log2 < 23 := (Nat.log2_lt h0).2 h1
      unfold Format.write
      simp only []
      rw [nearest_exact _ _ _ _ h0 (by omega) (by omega)]
      congr 1
      rw [hf, hl, hb, hi]
      have e : (-149 + (r.log2 : Int) - (52 : Nat) - -1074).toNat = r.log2 + 873 := by omega
      rw [e, ← wid_small h0 h1]
      omega
  · rw [if_neg h1]
    have hm : 8388608 + r % 8388608 ≠ 0 := by omega
    have hlog : (8388608 + r % 8388608).log2 = 23 := by
      rw [Nat.log2_eq_iff hm]; omega
    unfold Format.write
    simp only []
    rw [nearest_exact _ _ _ _ hm (by omega) (by omega)]
    congr 1
    rw [hf, hl, hb, hi, hlog]
    have e : (-149 + ((r / 8388608 - 1 : Nat) : Int) + (23 : Nat) - (52 : Nat) - -1074).toNat = r / 8388608 - 1 + 896 := by omega
    rw [e, wid_common (by omega) h]
    rw [wid_common (by omega) h] at hw
    omega

/-- between two powers of two the widened rung is linear -/
theorem wid_lin {k r : Nat} (hk : k ≤ 22) (h0 : 2 ^ k ≤ r) (h1 : r ≤ 2 ^ (k + 1)) : wid r = (k + 873) * 4503599627370496 + r * 2 ^ (52 - k) := by
  have hp := Nat.two_pow_pos k
  have hr : r ≠ 0 := by omega
  by_cases h : r < 2 ^ (k + 1)
  · have hl : r.log2 = k := by rw [Nat.log2_eq_iff hr]; exact ⟨h0, h⟩
    have : r < 8388608 := Nat.lt_of_lt_of_le h (by have : 2 ^ (k + 1) ≤ 2 ^ 23 := Nat.pow_le_pow_right (by omega) (by omega); simpa using this)
    rw [wid_small hr this, hl]
  · have hr2 : r = 2 ^ (k + 1) := by omega
    have e1 : 2 ^ (k + 1) * 2 ^ (52 - k) = 2 ^ 53 := by rw [← Nat.pow_add]; congr 1; omega
    have hl : r.log2 = k + 1 := by rw [hr2, Nat.log2_two_pow]
    by_cases h22 : k = 22
    · subst h22
      rw [hr2, wid_common (by decide) (by decide)]
    · have : r < 8388608 := by
        rw [hr2]
        have : 2 ^ (k + 1) < 2 ^ 23 := Nat.pow_lt_pow_right (by omega) (by omega)
        simpa using this
      rw [wid_small hr this, hl, hr2, e1]
      have e2 : 2 ^ (k + 1) * 2 ^ (52 - (k + 1)) = 2 ^ 52 := by rw [← Nat.pow_add]; congr 1; omega
      rw [e2]; omega

theorem wid_step {r : Nat} (h : r < 2139095040) : wid r < wid (r + 1) := by
  by_cases h0 : r = 0
  · subst h0; decide
  by_cases h1 : r < 8388608
  · have a : r.log2 < 23 := (Nat.log2_lt h0).2 h1
    have b := Nat.log2_self_le h0
    have c := Nat.lt_log2_self (n := r)
    rw [wid_lin (k := r.log2) (by omega) b (by omega), wid_lin (k := r.log2) (by omega) (by omega) (by omega)]
    have : 0 < 2 ^ (52 - r.log2) := Nat.two_pow_pos _
    have e : (r + 1) * 2 ^ (52 - r.log2) = r * 2 ^ (52 - r.log2) + 2 ^ (52 - r.log2) := by rw [Nat.add_mul, Nat.one_mul]
    omega
  · by_cases h2 : r + 1 < 2139095040
    · rw [wid_common (by omega) h, wid_common (by omega) h2]; omega
    · have : r + 1 = 2139095040 := by omega
      rw [this, wid_top]; exact wid_lt h

theorem wid_mono {r s : Nat} (h : r < s) (hs : s ≤ 2139095040) : wid r < wid s := by
  induction s with
  | zero => omega
  | succ n ih =>
    by_cases e : r = n
    · subst e; exact wid_step (by omega)
    · exact Nat.lt_trans (ih (by omega) (by omega)) (wid_step (by omega))

theorem wid_le {r s : Nat} (h : r ≤ s) (hs : s ≤ 2139095040) : wid r ≤ wid s := by
  by_cases e : r = s
  · subst e; omega
  · exact Nat.le_of_lt (wid_mono (by omega) hs)

theorem cut_near (neg : Bool) (n d : Nat) : Toward.even.cut neg n d = n / 2 ^ d ∨ Toward.even.cut neg n d = n / 2 ^ d + 1 ∧ n % 2 ^ d ≠ 0 := by
  unfold Toward.cut
  simp only []
  by_cases hd : d ≤ n.log2 + 2
  · rw [Nat.min_eq_left hd, Nat.one_shiftLeft]
    generalize hb : (decide (2 ^ d < 2 * (n % 2 ^ d)) || 2 ^ d == 2 * (n % 2 ^ d) && n / 2 ^ d % 2 == 1) = b
    cases b
    · left; simp
    · right; refine ⟨by simp, fun h => ?_⟩
      rw [h] at hb
      have := Nat.two_pow_pos d
      simp at hb
  · rw [Nat.min_eq_right (by omega), Nat.one_shiftLeft]
    left
    by_cases h0 : n = 0
    · subst h0; simp
    have c := Nat.lt_log2_self (n := n)
    have e2 : 2 ^ (n.log2 + 2) = 2 * 2 ^ (n.log2 + 1) := by rw [show n.log2 + 2 = n.log2 + 1 + 1 from rfl, Nat.pow_succ]; omega
    have l : n < 2 ^ (n.log2 + 2) := by omega
    have l2 : n < 2 ^ d := Nat.lt_of_lt_of_le l (Nat.pow_le_pow_right (by omega) (by omega))
    rw [Nat.mod_eq_of_lt l, Nat.div_eq_of_lt l, Nat.div_eq_of_lt l2]
    have x1 : decide (2 ^ (n.log2 + 2) < 2 * n) = false := by simp; omega
    have x2 : (2 ^ (n.log2 + 2) == 2 * n) = false := by simp; omega
    simp [x1, x2]

/-- rounding to narrow rungs -/
def nar (R : Nat) : Nat := single.nearest false (if R < 4503599627370496 then R else 4503599627370496 + R % 4503599627370496) (if R < 4503599627370496 then -1074 else -1074 + (R / 4503599627370496 - 1 : Nat))

theorem nearest_word (f : Format) (neg : Bool) (mag : Nat) (place : Int) : f.nearest neg mag place = f.word neg (f.nearest false mag place) := by
  unfold Format.nearest
  split
  · simp [Format.word]
  · simp [Format.word, Toward.cut]

theorem double_read (neg : Bool) (r : Nat) (h : r < 9218868437227405312) : double.read (double.word neg r) =
   .number neg (if r < 4503599627370496 then r else 4503599627370496 + r % 4503599627370496) (if r < 4503599627370496 then -1074 else -1074 + (r / 4503599627370496 - 1 : Nat)) := by
  have hs : double.signWeight = 9223372036854775808 := by decide
  have hb : double.binade = 4503599627370496 := by decide
  have hi : double.infRung = 9218868437227405312 := by decide
  have hl : double.leastPlace = -1074 := by decide
  have e1 : double.word neg r % 9223372036854775808 = r := by unfold Format.word; rw [hs]; split <;> omega
  have e2 : (double.word neg r / 9223372036854775808 % 2 == 1) = neg := by unfold Format.word; rw [hs]; cases neg <;> simp <;> omega
  unfold Format.read
  simp only [hs, hb, hi, hl, e1, e2]
  split
  · rfl
  · rfl

theorem narrow_word (neg : Bool) (R : Nat) (h : R < 9218868437227405312) : single.write (double.read (double.word neg R)) = single.word neg (nar R) := by
  rw [double_read neg R h]
  unfold Format.write nar
  simp only []
  rw [nearest_word]

theorem near_aux {R e mag F y x : Nat} (h : R ≤ 896 * 4503599627370496 + 2139095039 * 536870912) (hR : R = (e - 1) * 4503599627370496 + mag)
   (_hm1 : 4503599627370496 ≤ mag) (_hmlt : mag < 2 * 4503599627370496) (he : ¬ e ≤ 896) (hF : F = (e - 897) * 8388608 + mag / 536870912) (hFl : F < 2139095040)
   (c : y = mag / 536870912 ∨ y = mag / 536870912 + 1 ∧ mag % 536870912 ≠ 0)
   (hn : x = min ((e - 897) * 8388608 + y) 2139095040) : (x = F ∨ x = F + 1 ∧ 896 * 4503599627370496 + F * 536870912 < R) ∧ x < 2139095040 := by
  obtain ⟨k, rfl⟩ : ∃ k, e = k + 897 := ⟨e - 897, by omega⟩
  have h1 : k + 897 - 897 = k := by omega
  have h2 : k + 897 - 1 = k + 896 := by omega
  rw [h1] at hF hn
  rw [h2] at hR
  rcases c with c | ⟨c, d⟩
  · have hx : x = F := by omega
    exact ⟨.inl hx, by omega⟩
  · have hx1 : F + 1 < 2139095040 := by omega
    have hx : x = F + 1 := by omega
    exact ⟨.inr ⟨hx, by omega⟩, by omega⟩

/-- what is rounded lies next to the value -/
theorem nar_near (R : Nat) (h : R ≤ wid 2139095039) : ∃ F, F < 2139095040 ∧ wid F ≤ R ∧ R < wid (F + 1) ∧ (nar R = F ∨ nar R = F + 1 ∧ wid F < R) ∧ nar R < 2139095040 := by
  have hf : single.fractionBits = 23 := by decide
  have hb : single.binade = 8388608 := by decide
  have hi : single.infRung = 2139095040 := by decide
  have hl : single.leastPlace = -149 := by decide
  have hmax : wid 2139095039 = 896 * 4503599627370496 + 2139095039 * 536870912 := by rw [wid_common (by decide) (by decide)]
  rw [hmax] at h
  clear hmax
  have w1 : wid 1 = 874 * 4503599627370496 := by decide
  by_cases hz : R = 0
  · subst hz
    exact ⟨0, by decide, by decide, by decide, .inl (by decide), by decide⟩
  -- the size and the place
  obtain ⟨e, mag, hmag, hR, hm0, hmlt, he, hmn⟩ : ∃ e mag : Nat, nar R = single.nearest false mag (-1075 + e) ∧ R = (e - 1) * 4503599627370496 + mag ∧ mag ≠ 0 ∧ mag < 2 * 4503599627370496 ∧ 1 ≤ e ∧ (2 ≤ e → 4503599627370496 ≤ mag) := by
    unfold nar
    by_cases h0 : R < 4503599627370496
    · refine ⟨1, R, by rw [if_pos h0, if_pos h0]; rfl, by omega, hz, by omega, by omega, by omega⟩
    · refine ⟨R / 4503599627370496, 4503599627370496 + R % 4503599627370496, ?_, by omega, by omega, by omega, by omega, by omega⟩
      rw [if_neg h0, if_neg h0]
      congr 1
      omega
  have hlog : mag.log2 ≤ 52 := by
    have := (Nat.log2_lt hm0 (k := 53)).2 (by omega)
    omega
  by_cases hsm : e ≤ 896
  · -- below the least common narrow float
    have hn : nar R = min (Toward.even.cut false mag (926 - e)) 2139095040 := by
      rw [hmag]
      unfold Format.nearest
      rw [if_neg hm0, hf, hl, hb, hi]
      have e1 : max (-1075 + (e : Int) + (mag.log2 : Int) - (23 : Nat)) (-149) = -149 := by omega
      simp only [e1]
      have e2 : (-1075 + (e : Int) - -149).toNat = 0 := by omega
      have e3 : (-149 - (-1075 + (e : Int))).toNat = 926 - e := by omega
      rw [e2, e3]
      simp [Format.word]
    by_cases hd : e ≤ 873
    · have hF : mag / 2 ^ (926 - e) = 0 := by
        apply Nat.div_eq_of_lt
        have : (2 : Nat) ^ 53 ≤ 2 ^ (926 - e) := Nat.pow_le_pow_right (by omega) (by omega)
        omega
      have c := cut_near false mag (926 - e)
      rw [hF] at c
      refine ⟨0, by decide, by rw [wid_zero]; omega, ?_, ?_, ?_⟩
      · show R < wid 1
        rw [w1]; omega
      · rw [wid_zero, hn]; omega
      · omega
    · have hk : 926 - e = 52 - (e - 874) := by omega
      have c := cut_near false mag (926 - e)
      rw [hk] at c hn
      generalize hkk : e - 874 = k at c hn
      have hk22 : k ≤ 22 := by omega
      have hp : 2 ^ k * 2 ^ (52 - k) = 4503599627370496 := by rw [← Nat.pow_add, show k + (52 - k) = 52 by omega]
      have hpos := Nat.two_pow_pos (52 - k)
      have hdm := Nat.div_add_mod mag (2 ^ (52 - k))
      have hml := Nat.mod_lt mag hpos
      generalize mag / 2 ^ (52 - k) = F at *
      generalize mag % 2 ^ (52 - k) = q at *
      generalize hD : 2 ^ (52 - k) = D at *
      have hF0 : 2 ^ k ≤ F := by
        have : 2 ^ k < F + 1 := by
          apply Nat.lt_of_mul_lt_mul_right (a := D)
          rw [hp, Nat.add_mul, Nat.one_mul, Nat.mul_comm F D]; omega
        omega
      have hF1 : F < 2 ^ (k + 1) := by
        apply Nat.lt_of_mul_lt_mul_right (a := D)
        rw [Nat.pow_succ, Nat.mul_right_comm, hp, Nat.mul_comm F D]; omega
      have hF23 : 2 ^ (k + 1) ≤ 8388608 := by
        have : (2 : Nat) ^ (k + 1) ≤ 2 ^ 23 := Nat.pow_le_pow_right (by omega) (by omega)
        simpa using this
      have a1 := wid_lin hk22 hF0 (by omega)
      have a2 := wid_lin hk22 (r := F + 1) (by omega) (by omega)
      rw [hD] at a1 a2
      have a3 : (F + 1) * D = D * F + D := by rw [Nat.add_mul, Nat.one_mul, Nat.mul_comm]
      have a4 : F * D = D * F := Nat.mul_comm _ _
      refine ⟨F, by omega, by omega, by omega, ?_, by omega⟩
      omega
  · -- among the common ones
    have hlg : mag.log2 = 52 := by rw [Nat.log2_eq_iff hm0]; omega
    have hn : nar R = min ((e - 897) * 8388608 + Toward.even.cut false mag 29) 2139095040 := by
      rw [hmag]
      unfold Format.nearest
      rw [if_neg hm0, hf, hl, hb, hi, hlg]
      have e1 : max (-1075 + (e : Int) + (52 : Nat) - (23 : Nat)) (-149) = (e : Int) - 1046 := by omega
      simp only [e1]
      have e2 : (-1075 + (e : Int) - ((e : Int) - 1046)).toNat = 0 := by omega
      have e3 : ((e : Int) - 1046 - (-1075 + (e : Int))).toNat = 29 := by omega
      have e4 : ((e : Int) - 1046 - -149).toNat = e - 897 := by omega
      rw [e2, e3, e4]
      simp [Format.word]
    have c := cut_near false mag 29
    have hm1 := hmn (by omega)
    rw [show (2 : Nat) ^ 29 = 536870912 from rfl] at c
    obtain ⟨F, hF⟩ : ∃ F, F = (e - 897) * 8388608 + mag / 536870912 := ⟨_, rfl⟩
    have hFlt : F < 2139095040 := by omega
    have a1 := wid_common (r := F) (by omega) hFlt
    have a2 : R < wid (F + 1) := by
      clear w1
      by_cases ht : F + 1 < 2139095040
      · rw [wid_common (by omega) ht]; omega
      · have : F + 1 = 2139095040 := by omega
        rw [this, wid_top]; omega
    clear w1 hmag
    have b1 : wid F ≤ R := by rw [a1]; clear a1 a2 hn c; omega
    have b2 := near_aux h hR hm1 hmlt hsm hF hFlt c hn
    rw [← a1] at b2
    exact ⟨F, hFlt, b1, a2, b2.1, b2.2⟩
end Go.Proofs.Ytpnfkigeagbhpaa
