/- Mathematics: a fraction is not below a float just if the float below it is not. Conditions: numbers of 256 digits at most. -/
import Derived.Test.YtgoffjpfddmhhaaGreatDoorPK32
namespace Go.Proofs.YtgoffjpfddmhhaaGreatDoor
open Go.RowKit
set_option linter.unusedVariables false
set_option maxRecDepth 100000

/-- how often a unit goes into a fraction -/
def qF (A B : Nat) (p : Int) : Nat := uN A p / uD B p
theorem uD_pos {B : Nat} (h : B ≠ 0) (p : Int) : 0 < uD B p := by
  unfold uD
  split
  · omega
  · exact Nat.mul_pos (Nat.two_pow_pos _) (by omega)
theorem qF_next (A B : Nat) (p : Int) (hB : B ≠ 0) : qF A B (p + 1) = qF A B p / 2 := (half_u A B p hB).1
theorem qF_up (A B : Nat) (hB : B ≠ 0) : ∀ (k : Nat) (p : Int), qF A B (p + k) * 2 ^ k ≤ qF A B p
  | 0, p => by simp
  | k + 1, p => by
    have h := qF_up A B hB k p
    rw [show p + ((k + 1 : Nat) : Int) = (p + (k : Int)) + 1 by push_cast; omega, qF_next A B _ hB]
    have e : qF A B (p + ↑k) / 2 * 2 ^ (k + 1) ≤ qF A B (p + ↑k) * 2 ^ k := by
      rw [Nat.pow_succ, Nat.mul_comm (2 ^ k) 2, ← Nat.mul_assoc]
      exact Nat.mul_le_mul_right _ (by omega)
    omega
/-- more than half of what is a unit below -/
theorem qF_lo (A B : Nat) (hB : B ≠ 0) {p q : Int} (h : p < q) : 2 * qF A B q ≤ qF A B p := by
  obtain ⟨k, hk⟩ : ∃ k : Nat, q = p + ((k + 1 : Nat) : Int) := ⟨(q - p - 1).toNat, by omega⟩
  have g := qF_up A B hB (k + 1) p
  rw [← hk] at g
  have e : qF A B q * 2 ≤ qF A B q * 2 ^ (k + 1) := Nat.mul_le_mul_left _ (by
    rw [Nat.pow_succ]; have := Nat.two_pow_pos k; omega)
  omega
theorem le_iff {A B s : Nat} {p : Int} (hB : B ≠ 0) : s * uD B p ≤ uN A p ↔ s ≤ qF A B p := by
  unfold qF
  rw [Nat.le_div_iff_mul_le (uD_pos hB p)]
theorem ge_iff {A B s : Nat} {p : Int} (hB : B ≠ 0) : uN A p ≤ s * uD B p ↔ (if uN A p % uD B p = 0 then qF A B p ≤ s else qF A B p + 1 ≤ s) := by
  have hd := uD_pos hB p
  have e := Nat.div_add_mod (uN A p) (uD B p)
  have hm := Nat.mod_lt (uN A p) hd
  unfold qF
  generalize uN A p / uD B p = q at *
  generalize uN A p % uD B p = r at *
  generalize uD B p = d at *
  generalize uN A p = n at *
  subst e
  by_cases c : r = 0
  · rw [if_pos c, c, Nat.add_zero, Nat.mul_comm d q]
    constructor
    · intro h; exact Nat.le_of_mul_le_mul_right h hd
    · intro h; exact Nat.mul_le_mul_right _ h
  · rw [if_neg c]
    constructor
    · intro h
      apply Nat.lt_of_mul_lt_mul_right (a := d)
      rw [Nat.mul_comm q d]
      omega
    · intro h
      have : (q + 1) * d ≤ s * d := Nat.mul_le_mul_right _ h
      rw [Nat.add_mul, Nat.mul_comm q d] at this
      omega
/-- parts of an order number -/
theorem sp_num (U : Nat) (L : Int) (m : Nat) (hU : 0 < U) : (m : Int) = (pw U L m - L) * U + sz U m := by
  unfold pw sz
  by_cases c : m < U
  · rw [if_pos c, if_pos c]; simp
  · rw [if_neg c, if_neg c]
    have e := Nat.div_add_mod m U
    have h1 : 1 ≤ m / U := (Nat.le_div_iff_mul_le hU).2 (by omega)
    obtain ⟨k, hk⟩ : ∃ k, m / U = k + 1 := ⟨m / U - 1, by omega⟩
    rw [hk] at e ⊢
    have e2 : L + (((k + 1 : Nat) : Int) - 1) - L = (k : Int) := by push_cast; omega
    rw [e2]
    generalize m % U = r at *
    have hm : (m : Int) = (U : Int) * ((k : Int) + 1) + (r : Int) := by rw [← e]; push_cast; rfl
    rw [hm, Int.mul_add, Int.mul_one, Int.mul_comm (U : Int) (k : Int)]
    push_cast
    omega
theorem sp_shape (U : Nat) (L : Int) (m : Nat) (hU : 0 < U) : L ≤ pw U L m ∧ sz U m < 2 * U ∧ (pw U L m = L ∨ U ≤ sz U m) := by
  unfold pw sz
  by_cases c : m < U
  · rw [if_pos c, if_pos c]; exact ⟨by omega, by omega, .inl rfl⟩
  · rw [if_neg c, if_neg c]
    have hm := Nat.mod_lt m hU
    have h1 : 1 ≤ m / U := (Nat.le_div_iff_mul_le hU).2 (by omega)
    exact ⟨by omega, by omega, .inr (by omega)⟩
/-- the float below a fraction, by parts -/
theorem low_iff {A B U : Nat} {L : Int} {S : Nat} {W : Int} (hB : B ≠ 0) (hU : 0 < U) (eS : S = qF A B W) (hS : S < 2 * U) (hn : W = L ∨ U ≤ S) (hW : L ≤ W) (m : Nat) :
    sz U m * uD B (pw U L m) ≤ uN A (pw U L m) ↔ (m : Int) ≤ (W - L) * U + S := by
  rw [le_iff hB]
  obtain ⟨h1, h2, h3⟩ := sp_shape U L m hU
  have e := sp_num U L m hU
  generalize pw U L m = p at *
  generalize sz U m = s at *
  rcases Int.lt_trichotomy p W with c | c | c
  · have q := qF_lo A B hB c
    rw [← eS] at q
    have g : (p - L) * U + U ≤ (W - L) * U := by
      have : (p - L + 1) * (U : Int) ≤ (W - L) * U := Int.mul_le_mul_of_nonneg_right (by omega) (by omega)
      rw [Int.add_mul, Int.one_mul] at this
      exact this
    constructor
    · intro _; omega
    · intro _; omega
  · subst c
    rw [← eS]
    constructor <;> intro _ <;> omega
  · have q := qF_lo A B hB c
    rw [← eS] at q
    have g : (W - L) * U + U ≤ (p - L) * U := by
      have : (W - L + 1) * (U : Int) ≤ (p - L) * U := Int.mul_le_mul_of_nonneg_right (by omega) (by omega)
      rw [Int.add_mul, Int.one_mul] at this
      exact this
    constructor
    · intro _; omega
    · intro _; omega
theorem high_iff {A B U : Nat} {L : Int} {S : Nat} {W : Int} {X : Bool} (hB : B ≠ 0) (hU : 0 < U) (eS : S = qF A B W) (hS : S < 2 * U) (hn : W = L ∨ U ≤ S) (hW : L ≤ W) (hX : X = decide (uN A W % uD B W = 0)) (m : Nat) :
    uN A (pw U L m) ≤ sz U m * uD B (pw U L m) ↔ (W - L) * U + S + (if X = true then 0 else 1) ≤ (m : Int) := by
  rw [ge_iff hB]
  obtain ⟨h1, h2, h3⟩ := sp_shape U L m hU
  have e := sp_num U L m hU
  generalize pw U L m = p at *
  generalize sz U m = s at *
  rcases Int.lt_trichotomy p W with c | c | c
  · have q := qF_lo A B hB c
    rw [← eS] at q
    have g : (p - L) * U + U ≤ (W - L) * U := by
      have : (p - L + 1) * (U : Int) ≤ (W - L) * U := Int.mul_le_mul_of_nonneg_right (by omega) (by omega)
      rw [Int.add_mul, Int.one_mul] at this
      exact this
    constructor
    · intro h; split at h <;> omega
    · intro h; split at h <;> omega
  · subst c
    rw [← eS]
    by_cases r : uN A p % uD B p = 0
    · rw [decide_eq_true r] at hX
      rw [if_pos r, if_pos hX]
      constructor <;> intro _ <;> omega
    · rw [decide_eq_false r] at hX
      rw [if_neg r, if_neg (by rw [hX]; decide)]
      constructor <;> intro _ <;> omega
  · have q := qF_lo A B hB c
    rw [← eS] at q
    have g : (W - L) * U + U ≤ (p - L) * U := by
      have : (W - L + 1) * (U : Int) ≤ (p - L) * U := Int.mul_le_mul_of_nonneg_right (by omega) (by omega)
      rw [Int.add_mul, Int.one_mul] at this
      exact this
    constructor
    · intro h; split <;> omega
    · intro h; split <;> omega
/-- what partBelow finds, by its own power -/
theorem pb_own {A B room : Nat} {least : Int} (hB : B ≠ 0) : pbS A B room least = qF A B (pbW A B room least) ∧ pbX A B room least = decide (uN A (pbW A B room least) % uD B (pbW A B room least) = 0) := by
  rcases pb_case A B room least hB with ⟨-, h2, h3, h4⟩ | ⟨-, h2, h3, h4⟩
  · rw [h2, h3, h4]; exact ⟨rfl, rfl⟩
  · rw [h2, h3, h4]; exact ⟨rfl, rfl⟩
theorem uN_zero (p : Int) : uN 0 p = 0 := by unfold uN; split <;> simp
/-- the finite floats of a width that are not above a fraction -/
theorem below_iff {A B r : Nat} {L top : Int} {Wm : Int} {M : Int} (lA : (natL A).length ≤ 256) (lB : (natL B).length ≤ 256) (hB : B ≠ 0)
    (hM : M = if pbW A B (r + 1) L ≤ Wm then (if pbS A B (r + 1) L = 0 then 0 else (pbW A B (r + 1) L - L) * ((2 ^ r : Nat) : Int) + pbS A B (r + 1) L) else top - 1)
    (X : Bool) (hX : X = (pbX A B (r + 1) L && decide (pbW A B (r + 1) L ≤ Wm))) (m : Nat) (hm : (m : Int) < top) (hp : pw (2 ^ r) L m ≤ Wm) (h0 : A = 0 → pbW A B (r + 1) L ≤ Wm) :
    (sz (2 ^ r) m * uD B (pw (2 ^ r) L m) ≤ uN A (pw (2 ^ r) L m) ↔ (m : Int) ≤ M) ∧ (uN A (pw (2 ^ r) L m) ≤ sz (2 ^ r) m * uD B (pw (2 ^ r) L m) ↔ M + (if X = true then 0 else 1) ≤ (m : Int)) := by
  have hU : 0 < 2 ^ r := Nat.two_pow_pos r
  obtain ⟨eS, eX⟩ := pb_own (A := A) (B := B) (room := r + 1) (least := L) hB
  have hS : pbS A B (r + 1) L < 2 * 2 ^ r := by have := pbS_lt (room := r + 1) (least := L) lA lB hB; rw [Nat.pow_succ] at this; omega
  have hW := pbW_ge A B (r + 1) L
  by_cases a0 : A = 0
  · subst a0
    have z := pb_zero (B := B) (room := r + 1) (least := L)
    rw [if_pos (h0 rfl), if_pos z.1] at hM
    rw [z.2.2, decide_eq_true (h0 rfl)] at hX
    subst hM hX
    rw [uN_zero]
    have hd := uD_pos hB (pw (2 ^ r) L m)
    have e := sp_num (2 ^ r) L m hU
    obtain ⟨g1, g2, g3⟩ := sp_shape (2 ^ r) L m hU
    constructor
    · constructor
      · intro h
        have s0 : sz (2 ^ r) m = 0 := by
          rcases Nat.eq_zero_or_pos (sz (2 ^ r) m) with h' | h'
          · exact h'
          · have := Nat.mul_pos h' hd; omega
        have p0 : pw (2 ^ r) L m = L := by rcases g3 with h' | h'; exact h'; omega
        rw [s0, p0] at e
        simp at e
        omega
      · intro h
        have m0 : m = 0 := by omega
        subst m0
        have : sz (2 ^ r) 0 = 0 := by unfold sz; rw [if_pos hU]
        rw [this]; simp
    · simp
  have hn := pb_norm (r := r) (least := L) lA lB hB a0
  generalize pbW A B (r + 1) L = W at *
  generalize pbS A B (r + 1) L = S at *
  generalize pbX A B (r + 1) L = x at *
  have lo := low_iff hB hU eS hS hn hW m
  have hi := high_iff hB hU eS hS hn hW eX m
  by_cases c : W ≤ Wm
  · rw [if_pos c] at hM
    rw [decide_eq_true c, Bool.and_true] at hX
    subst hX
    have eM : M = (W - L) * ((2 ^ r : Nat) : Int) + S := by
      by_cases s0 : S = 0
      · rw [if_pos s0] at hM
        rcases hn with h | h
        · rw [hM, h, s0]; simp
        · omega
      · rw [if_neg s0] at hM; exact hM
    rw [eM]
    exact ⟨lo, hi⟩
  · rw [if_neg c] at hM
    rw [decide_eq_false c, Bool.and_false] at hX
    subst hM hX
    -- all finite floats lie below
    have q := qF_lo A B hB (show pw (2 ^ r) L m < W by omega)
    rw [← eS] at q
    obtain ⟨g1, g2, g3⟩ := sp_shape (2 ^ r) L m hU
    have big : sz (2 ^ r) m < qF A B (pw (2 ^ r) L m) := by
      rcases hn with h | h
      · omega
      · omega
    constructor
    · rw [le_iff hB]
      constructor <;> intro _ <;> omega
    · rw [ge_iff hB]
      constructor
      · intro h; split at h <;> omega
      · intro h
        simp at h
        omega
end Go.Proofs.YtgoffjpfddmhhaaGreatDoor
