/- Plain functions and facts of numbers for chapters 1 and 2: what the small functions answer, and a few operations on bits as sums. No condition but the ranges named. -/
import Derived.WalkKit
import Derived.Laws.BitsAllLaws
namespace Go.Proofs.YtmllcpcbaojipaaDoor

theorem ret_int {k : IntKind} {a b : Int} (h : a = b) : Ending.returned (.int k a) = .returned (.int k b) := by rw [h]
theorem ret_ib {k : IntKind} {a a' : Int} {b b' : Bool} (h : a = a') (g : b = b') : Ending.returned (.tuple #[.int k a, .bool b]) = .returned (.tuple #[.int k a', .bool b']) := by rw [h, g]

def ordN (S T b : Int) : Int := if 2 * S ≤ b then 0 else if T < b % S then 0 else if S ≤ b then -(b % S) else b % S
def ordB (S T b : Int) : Bool := decide (b < 2 * S ∧ b % S ≤ T)
def bitsI (S n : Int) : Int := if n < 0 then S - n else n
theorem nat_not_bit (x i : Nat) (hx : x < 2 ^ 64) (hi : i < 64) : x &&& (2 ^ 64 - 1 - 2 ^ i) = x - x / 2 ^ i % 2 * 2 ^ i := by
  have h1 := nat_bit i x
  have hle : 2 ^ i ≤ 2 ^ 64 - 1 := by
    have : 2 ^ i ≤ 2 ^ 63 := Nat.pow_le_pow_right (by omega) (by omega)
    omega
  have hor : x &&& 2 ^ i ||| x &&& (2 ^ 64 - 1 - 2 ^ i) = x := by
    apply Nat.eq_of_testBit_eq
    intro j
    rw [Nat.testBit_or, Nat.testBit_and, Nat.testBit_and, Nat.testBit_two_pow]
    have : (2 ^ 64 - 1 - 2 ^ i).testBit j = (decide (j < 64) && !(2 ^ i).testBit j) := by
      have e : 2 ^ 64 - 1 - 2 ^ i = 2 ^ 64 - (2 ^ i + 1) := by omega
      rw [e, Nat.testBit_two_pow_sub_succ (by have : 2 ^ i ≤ 2 ^ 63 := Nat.pow_le_pow_right (by omega) (by omega); omega)]
    rw [this, Nat.testBit_two_pow]
    by_cases hj : j < 64
    · simp [hj]; cases x.testBit j <;> simp
    · have : x.testBit j = false := Nat.testBit_lt_two_pow (Nat.lt_of_lt_of_le hx (Nat.pow_le_pow_right (by omega) (by omega)))
      simp [this]
  have hand : (x &&& 2 ^ i) &&& (x &&& (2 ^ 64 - 1 - 2 ^ i)) = 0 := by
    apply Nat.eq_of_testBit_eq
    intro j
    have : (2 ^ 64 - 1 - 2 ^ i).testBit j = (decide (j < 64) && !(2 ^ i).testBit j) := by
      have e : 2 ^ 64 - 1 - 2 ^ i = 2 ^ 64 - (2 ^ i + 1) := by omega
      rw [e, Nat.testBit_two_pow_sub_succ (by have : 2 ^ i ≤ 2 ^ 63 := Nat.pow_le_pow_right (by omega) (by omega); omega)]
    rw [Nat.testBit_and, Nat.testBit_and, Nat.testBit_and, this]
    cases x.testBit j <;> cases (2 ^ i).testBit j <;> simp
  have l1 : x &&& 2 ^ i ≤ x := Nat.and_le_left
  have l2 : x &&& (2 ^ 64 - 1 - 2 ^ i) ≤ x := Nat.and_le_left
  generalize x &&& 2 ^ i = p at *
  generalize x &&& (2 ^ 64 - 1 - 2 ^ i) = q at *
  have hv := BitVec.add_eq_or_of_and_eq_zero (BitVec.ofNat 64 p) (BitVec.ofNat 64 q) (by
    apply BitVec.eq_of_toNat_eq
    rw [BitVec.toNat_and, BitVec.toNat_ofNat, BitVec.toNat_ofNat, Nat.mod_eq_of_lt (by omega), Nat.mod_eq_of_lt (by omega), hand]; rfl)
  have hn := congrArg BitVec.toNat hv
  rw [BitVec.toNat_or, BitVec.toNat_add, BitVec.toNat_ofNat, BitVec.toNat_ofNat, Nat.mod_eq_of_lt (a := p) (by omega), Nat.mod_eq_of_lt (a := q) (by omega), hor] at hn
  omega

theorem andNot_32 (b : Int) (h1 : 0 ≤ b) (h2 : b < 18446744073709551616) : bits .andNot .u64 b 2147483648 = b - b / 2147483648 % 2 * 2147483648 := by
  rw [u64_andNot b 2147483648 h1 h2 (by omega) (by omega)]
  have := nat_not_bit b.toNat 31 (by omega) (by omega)
  have e : (18446744073709551615 - (2147483648 : Int).toNat : Nat) = 2 ^ 64 - 1 - 2 ^ 31 := by decide
  rw [e, this]
  omega
theorem andNot_64 (b : Int) (h1 : 0 ≤ b) (h2 : b < 18446744073709551616) : bits .andNot .u64 b 9223372036854775808 = b % 9223372036854775808 := by
  rw [u64_andNot b 9223372036854775808 h1 h2 (by omega) (by omega)]
  have := nat_not_bit b.toNat 63 (by omega) (by omega)
  have e : (18446744073709551615 - (9223372036854775808 : Int).toNat : Nat) = 2 ^ 64 - 1 - 2 ^ 63 := by decide
  rw [e, this]
  omega
theorem or_32 (s : Int) (h1 : 0 ≤ s) (h2 : s < 2147483648) : bits .or .u64 2147483648 s = 2147483648 + s := by
  rw [u64_or 2147483648 s (by omega) (by omega) h1 (by omega)]
  have e : (2147483648 : Int).toNat = 2147483648 := by decide
  rw [e, nat_join 31 2147483648 s.toNat (by decide) (by omega)]
  omega
theorem or_64 (s : Int) (h1 : 0 ≤ s) (h2 : s < 9223372036854775808) : bits .or .u64 9223372036854775808 s = 9223372036854775808 + s := by
  rw [u64_or 9223372036854775808 s (by omega) (by omega) h1 (by omega)]
  have e : (9223372036854775808 : Int).toNat = 9223372036854775808 := by decide
  rw [e, nat_join 63 9223372036854775808 s.toNat (by decide) (by omega)]
  omega
end Go.Proofs.YtmllcpcbaojipaaDoor

/- Plain words for pairs: the top of a width, what an order number is, what an ok pair is. No condition. -/
namespace Go.Proofs.YtmllcpcbaojipaaDoor

def topI (wd : Int) : Int := if wd = 32 then 2139095040 else if wd = 64 then 9218868437227405312 else 0
def okB (wd n : Int) : Bool := decide ((wd = 32 ∨ wd = 64) ∧ -topI wd ≤ n ∧ n ≤ topI wd)
def pokB (wd lo hi : Int) : Bool := okB wd lo && (okB wd hi && (decide (lo ≤ hi) && ((lo != topI wd) && (hi != -topI wd))))

theorem topI_32 : topI 32 = 2139095040 := rfl
theorem topI_64 : topI 64 = 9218868437227405312 := rfl
theorem topI_no {wd : Int} (h1 : wd ≠ 32) (h2 : wd ≠ 64) : topI wd = 0 := by unfold topI; rw [if_neg h1, if_neg h2]
theorem topI_bd (wd : Int) : 0 ≤ topI wd ∧ topI wd ≤ 9218868437227405312 := by unfold topI; split <;> (try split) <;> omega
theorem okB_in {wd n : Int} (h : okB wd n = true) : (wd = 32 ∨ wd = 64) ∧ -topI wd ≤ n ∧ n ≤ topI wd := by unfold okB at h; exact of_decide_eq_true h
theorem okB_32 (n : Int) : okB 32 n = decide (-2139095040 ≤ n ∧ n ≤ 2139095040) := by unfold okB; simp [topI_32]
theorem okB_64 (n : Int) : okB 64 n = decide (-9218868437227405312 ≤ n ∧ n ≤ 9218868437227405312) := by unfold okB; simp [topI_64]
theorem okB_no {wd : Int} (n : Int) (h1 : wd ≠ 32) (h2 : wd ≠ 64) : okB wd n = false := by unfold okB; simp [h1, h2]
theorem pokB_in {wd lo hi : Int} (h : pokB wd lo hi = true) : okB wd lo = true ∧ okB wd hi = true ∧ lo ≤ hi ∧ lo < topI wd ∧ -topI wd < hi := by
  unfold pokB at h
  simp only [Bool.and_eq_true, decide_eq_true_eq, bne_iff_ne] at h
  obtain ⟨h1, h2, h3, h4, h5⟩ := h
  have := okB_in h1; have := okB_in h2
  exact ⟨h1, h2, h3, by omega, by omega⟩
/-- both answers of a test as one word -/
theorem ret_b {b c : Bool} (h : b = c) : Ending.returned (.bool b) = .returned (.bool c) := by rw [h]
end Go.Proofs.YtmllcpcbaojipaaDoor
