/- Plain functions and facts of numbers for chapters 1 and 2: what the small functions answer, and a few operations on bits as sums. No condition but the ranges named. -/
import Derived.WalkKit
import Derived.Laws.BitsAllLaws
namespace Go.Proofs.YtgoffjpfddmhhaaGreatDoor

theorem ret_int {k : IntKind} {a b : Int} (h : a = b) : Ending.returned (.int k a) = .returned (.int k b) := by rw [h]
theorem ret_ib {k : IntKind} {a a' : Int} {b b' : Bool} (h : a = a') (g : b = b') : Ending.returned (.tuple #[.int k a, .bool b]) = .returned (.tuple #[.int k a', .bool b']) := by rw [h, g]

def ordN (S T b : Int) : Int := if 2 * S ≤ b then 0 else if T < b % S then 0 else if S ≤ b then -(b % S) else b % S
def ordB (S T b : Int) : Bool := decide (b < 2 * S ∧ b % S ≤ T)
def bitsI (S n : Int) : Int := if n < 0 then S - n else n
theorem nat_not_bit (x i : Nat) (hx : x < 2 ^ 64) (hi : i < 64) : x &&& (2 ^ 64 - 1 - 2 ^ i) = x - x / 2 ^ i % 2 * 2 ^ i := by
  have h1 := nat_bit i x
  have hle : 2 ^ i ≤ 2 ^ 64 - 1 := by
    have : 2 ^ i ≤ 2 ^ 63 := Nat.pow_le_pow_right (by omega) (by omega)
    omega
  have hor : x &&& 2 ^ i ||| x &&& (2 ^ 64 - 1 - 2 ^ i) = x := by
    apply Nat.eq_of_testBit_eq
    intro j
    rw [Nat.testBit_or, Nat.testBit_and, Nat.testBit_and, Nat.testBit_two_pow]
    have : (2 ^ 64 - 1 - 2 ^ i).testBit j = (decide (j < 64) && !(2 ^ i).testBit j) := by
      have e : 2 ^ 64 - 1 - 2 ^ i = 2 ^ 64 - (2 ^ i + 1) := by omega
      rw [e, Nat.testBit_two_pow_sub_succ (by have : 2 ^ i ≤ 2 ^ 63 := Nat.pow_le_pow_right (by omega) (by omega); omega)]
    rw [this, Nat.testBit_two_pow]
    by_cases hj : j < 64
    · simp [hj]; cases x.testBit j <;> simp
    · have : x.testBit j = false := Nat.testBit_lt_two_pow (Nat.lt_of_lt_of_le hx (Nat.pow_le_pow_right (by omega) (by omega)))
      simp [this]
  have hand : (x &&& 2 ^ i) &&& (x &&& (2 ^ 64 - 1 - 2 ^ i)) = 0 := by
    apply Nat.eq_of_testBit_eq
    intro j
    have : (2 ^ 64 - 1 - 2 ^ i).testBit j = (decide (j < 64) && !(2 ^ i).testBit j) := by
      have e : 2 ^ 64 - 1 - 2 ^ i = 2 ^ 64 - (2 ^ i + 1) := by omega
      rw [e, Nat.testBit_two_pow_sub_succ (by have : 2 ^ i ≤ 2 ^ 63 := Nat.pow_le_pow_right (by omega) (by omega); omega)]
    rw [Nat.testBit_and, Nat.testBit_and, Nat.testBit_and, this]
    cases x.testBit j <;> cases (2 ^ i).testBit j <;> simp
  have l1 : x &&& 2 ^ i ≤ x := Nat.and_le_left
  have l2 : x &&& (2 ^ 64 - 1 - 2 ^ i) ≤ x := Nat.and_le_left
  generalize x &&& 2 ^ i = p at *
  generalize x &&& (2 ^ 64 - 1 - 2 ^ i) = q at *
  have hv := BitVec.add_eq_or_of_and_eq_zero (BitVec.ofNat 64 p) (BitVec.ofNat 64 q) (by
    apply BitVec.eq_of_toNat_eq
    rw [BitVec.toNat_and, BitVec.toNat_ofNat, BitVec.toNat_ofNat, Nat.mod_eq_of_lt (by omega), Nat.mod_eq_of_lt (by omega), hand]; rfl)
  have hn := congrArg BitVec.toNat hv
  rw [BitVec.toNat_or, BitVec.toNat_add, BitVec.toNat_ofNat, BitVec.toNat_ofNat, Nat.mod_eq_of_lt (a := p) (by omega), Nat.mod_eq_of_lt (a := q) (by omega), hor] at hn
  omega

theorem andNot_64 (b : Int) (h1 : 0 ≤ b) (h2 : b < 18446744073709551616) : bits .andNot .u64 b 9223372036854775808 = b % 9223372036854775808 := by
  rw [u64_andNot b 9223372036854775808 h1 h2 (by omega) (by omega)]
  have := nat_not_bit b.toNat 63 (by omega) (by omega)
  have e : (18446744073709551615 - (9223372036854775808 : Int).toNat : Nat) = 2 ^ 64 - 1 - 2 ^ 63 := by decide
  rw [e, this]
  omega
theorem or_32 (s : Int) (h1 : 0 ≤ s) (h2 : s < 2147483648) : bits .or .u64 2147483648 s = 2147483648 + s := by
  rw [u64_or 2147483648 s (by omega) (by omega) h1 (by omega)]
  have e : (2147483648 : Int).toNat = 2147483648 := by decide
  rw [e, nat_join 31 2147483648 s.toNat (by decide) (by omega)]
  omega
theorem or_64 (s : Int) (h1 : 0 ≤ s) (h2 : s < 9223372036854775808) : bits .or .u64 9223372036854775808 s = 9223372036854775808 + s := by
  rw [u64_or 9223372036854775808 s (by omega) (by omega) h1 (by omega)]
  have e : (9223372036854775808 : Int).toNat = 9223372036854775808 := by decide
  rw [e, nat_join 63 9223372036854775808 s.toNat (by decide) (by omega)]
  omega
end Go.Proofs.YtgoffjpfddmhhaaGreatDoor

/- More plain facts: old cells behind a call, masks and sums of bits, the size and the power of a part. -/
namespace Go.Proofs.YtgoffjpfddmhhaaGreatDoor

theorem bcell {W w1 : World} (hb : Go.RowKit.Below W.heap.size W w1) : (∀ b o, b < W.heap.size → w1.cell? ⟨b, o, none⟩ = W.cell? ⟨b, o, none⟩) ∧ (∀ b o, b < W.heap.size → w1.frozen? ⟨b, o, none⟩ = W.frozen? ⟨b, o, none⟩) :=
  ⟨fun b o h => hb.cell (p := ⟨b, o, none⟩) h, fun b o h => hb.frozen (p := ⟨b, o, none⟩) h⟩

theorem bsize {w w1 : World} {o : Obj} (hb : Go.RowKit.Below (w.alloc o).heap.size (w.alloc o) w1) : w.heap.size < w1.heap.size ∧ w.heap.size < w1.heap.size + 1 ∧ w.heap.size < w1.heap.size + 1 + 1 ∧ w.heap.size < w1.heap.size + 1 + 1 + 1 ∧ w.heap.size < w1.heap.size + 1 + 1 + 1 + 1 ∧ w.heap.size < w1.heap.size + 1 + 1 + 1 + 1 + 1 := by
  have := hb.size
  simp at this
  omega

theorem i64_maskF (n : Int) (i : Nat) (hi : i ≤ 62) (h0 : 0 ≤ n) (h1 : n < 9223372036854775808) : bits .and .i64 n (2 ^ i - 1) = n % 2 ^ i := by
  have hp : (2 : Nat) ^ i ≤ 2 ^ 62 := Nat.pow_le_pow_right (by omega) hi
  have hq := Nat.two_pow_pos i
  obtain ⟨a, rfl⟩ := Int.eq_ofNat_of_zero_le h0
  have e1 : ((2 : Int) ^ i - 1) = ((2 ^ i - 1 : Nat) : Int) := by
    have : ((2 ^ i : Nat) : Int) = (2 : Int) ^ i := by push_cast; rfl
    omega
  have e2 : ((a : Int) % 2 ^ i) = ((a % 2 ^ i : Nat) : Int) := by push_cast; rfl
  rw [e1, e2, ← Nat.and_two_pow_sub_one_eq_mod]
  have ha : (BitVec.ofInt 64 (a : Int)).toNat = a := by rw [BitVec.toNat_ofInt]; omega
  have hb : (BitVec.ofInt 64 ((2 ^ i - 1 : Nat) : Int)).toNat = 2 ^ i - 1 := by rw [BitVec.toNat_ofInt]; omega
  have hle : a &&& (2 ^ i - 1) ≤ 2 ^ i - 1 := Nat.and_le_right
  show IntKind.i64.wrap ((BitVec.ofInt 64 (a : Int) &&& BitVec.ofInt 64 ((2 ^ i - 1 : Nat) : Int)).toNat : Int) = _
  rw [BitVec.toNat_and, ha, hb]
  generalize a &&& (2 ^ i - 1) = x at *
  have hx : (x : Int) % 2 ^ 64 = x := by omega
  simp only [IntKind.wrap, IntKind.bits, IntKind.signed, hx]
  rw [if_neg (by simp; omega)]
theorem mask_32 (n : Int) (h0 : 0 ≤ n) (h1 : n < 9223372036854775808) : bits .and .i64 n 8388607 = n % 8388608 := i64_maskF n 23 (by decide) h0 h1
theorem mask_64 (n : Int) (h0 : 0 ≤ n) (h1 : n < 9223372036854775808) : bits .and .i64 n 4503599627370495 = n % 4503599627370496 := i64_maskF n 52 (by decide) h0 h1
theorem hid_32 (q : Int) (h0 : 0 ≤ q) (h1 : q < 8388608) : bits .or .u64 q 8388608 = 8388608 + q := by
  rw [u64_or q 8388608 h0 (by omega) (by omega) (by omega)]
  have e : (8388608 : Int).toNat = 8388608 := by decide
  rw [e, Nat.or_comm, nat_join 23 8388608 q.toNat (by decide) (by omega)]
  omega
theorem hid_64 (q : Int) (h0 : 0 ≤ q) (h1 : q < 4503599627370496) : bits .or .u64 q 4503599627370496 = 4503599627370496 + q := by
  rw [u64_or q 4503599627370496 h0 (by omega) (by omega) (by omega)]
  have e : (4503599627370496 : Int).toNat = 4503599627370496 := by decide
  rw [e, Nat.or_comm, nat_join 52 4503599627370496 q.toNat (by decide) (by omega)]
  omega
/-- the size of a part, and its power, of a float that is s steps from 0 -/
def pSize (U s : Int) : Int := if s < U then s else U + s % U
def pPow (U L s : Int) : Int := if s < U then L else L + (s / U - 1)
end Go.Proofs.YtgoffjpfddmhhaaGreatDoor

/- Plain words for pairs: the top of a width, what an order number is, what an ok pair is. No condition. -/
namespace Go.Proofs.YtgoffjpfddmhhaaGreatDoor

def topI (wd : Int) : Int := if wd = 32 then 2139095040 else if wd = 64 then 9218868437227405312 else 0
def okB (wd n : Int) : Bool := decide ((wd = 32 ∨ wd = 64) ∧ -topI wd ≤ n ∧ n ≤ topI wd)
theorem topI_32 : topI 32 = 2139095040 := rfl
theorem topI_64 : topI 64 = 9218868437227405312 := rfl
theorem topI_no {wd : Int} (h1 : wd ≠ 32) (h2 : wd ≠ 64) : topI wd = 0 := by unfold topI; rw [if_neg h1, if_neg h2]
theorem topI_bd (wd : Int) : 0 ≤ topI wd ∧ topI wd ≤ 9218868437227405312 := by unfold topI; split <;> (try split) <;> omega
theorem okB_32 (n : Int) : okB 32 n = decide (-2139095040 ≤ n ∧ n ≤ 2139095040) := by unfold okB; simp [topI_32]
theorem okB_64 (n : Int) : okB 64 n = decide (-9218868437227405312 ≤ n ∧ n ≤ 9218868437227405312) := by unfold okB; simp [topI_64]
theorem okB_no {wd : Int} (n : Int) (h1 : wd ≠ 32) (h2 : wd ≠ 64) : okB wd n = false := by unfold okB; simp [h1, h2]
end Go.Proofs.YtgoffjpfddmhhaaGreatDoor
