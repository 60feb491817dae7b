/- More plain facts: old cells behind a call, masks and sums of bits, the size and the power of a part. -/
import Derived.Test.YtekbhkklaogmnaaDoorF
namespace Go.Proofs.YtekbhkklaogmnaaDoor

theorem bcell {W w1 : World} (hb : Go.RowKit.Below W.heap.size W w1) : (∀ b o, b < W.heap.size → w1.cell? ⟨b, o, none⟩ = W.cell? ⟨b, o, none⟩) ∧ (∀ b o, b < W.heap.size → w1.frozen? ⟨b, o, none⟩ = W.frozen? ⟨b, o, none⟩) :=
  ⟨fun b o h => hb.cell (p := ⟨b, o, none⟩) h, fun b o h => hb.frozen (p := ⟨b, o, none⟩) h⟩

theorem bsize {w w1 : World} {o : Obj} (hb : Go.RowKit.Below (w.alloc o).heap.size (w.alloc o) w1) : w.heap.size < w1.heap.size ∧ w.heap.size < w1.heap.size + 1 ∧ w.heap.size < w1.heap.size + 1 + 1 ∧ w.heap.size < w1.heap.size + 1 + 1 + 1 ∧ w.heap.size < w1.heap.size + 1 + 1 + 1 + 1 ∧ w.heap.size < w1.heap.size + 1 + 1 + 1 + 1 + 1 := by
  have := hb.size
  simp at this
  omega

theorem i64_maskF (n : Int) (i : Nat) (hi : i ≤ 62) (h0 : 0 ≤ n) (h1 : n < 9223372036854775808) : bits .and .i64 n (2 ^ i - 1) = n % 2 ^ i := by
  have hp : (2 : Nat) ^ i ≤ 2 ^ 62 := Nat.pow_le_pow_right (by omega) hi
  have hq := Nat.two_pow_pos i
  obtain ⟨a, rfl⟩ := Int.eq_ofNat_of_zero_le h0
  have e1 : ((2 : Int) ^ i - 1) = ((2 ^ i - 1 : Nat) : Int) := by
    have : ((2 ^ i : Nat) : Int) = (2 : Int) ^ i := by push_cast; rfl
    omega
  have e2 : ((a : Int) % 2 ^ i) = ((a % 2 ^ i : Nat) : Int) := by push_cast; rfl
  rw [e1, e2, ← Nat.and_two_pow_sub_one_eq_mod]
  have ha : (BitVec.ofInt 64 (a : Int)).toNat = a := by rw [BitVec.toNat_ofInt]; omega
  have hb : (BitVec.ofInt 64 ((2 ^ i - 1 : Nat) : Int)).toNat = 2 ^ i - 1 := by rw [BitVec.toNat_ofInt]; omega
  have hle : a &&& (2 ^ i - 1) ≤ 2 ^ i - 1 := Nat.and_le_right
  show IntKind.i64.wrap ((BitVec.ofInt 64 (a : Int) &&& BitVec.ofInt 64 ((2 ^ i - 1 : Nat) : Int)).toNat : Int) = _
  rw [BitVec.toNat_and, ha, hb]
  generalize a &&& (2 ^ i - 1) = x at *
  have hx : (x : Int) % 2 ^ 64 = x := by omega
  simp only [IntKind.wrap, IntKind.bits, IntKind.signed, hx]
  rw [if_neg (by simp; omega)]
theorem mask_32 (n : Int) (h0 : 0 ≤ n) (h1 : n < 9223372036854775808) : bits .and .i64 n 8388607 = n % 8388608 := i64_maskF n 23 (by decide) h0 h1
theorem mask_64 (n : Int) (h0 : 0 ≤ n) (h1 : n < 9223372036854775808) : bits .and .i64 n 4503599627370495 = n % 4503599627370496 := i64_maskF n 52 (by decide) h0 h1
theorem hid_32 (q : Int) (h0 : 0 ≤ q) (h1 : q < 8388608) : bits .or .u64 q 8388608 = 8388608 + q := by
  rw [u64_or q 8388608 h0 (by omega) (by omega) (by omega)]
  have e : (8388608 : Int).toNat = 8388608 := by decide
  rw [e, Nat.or_comm, nat_join 23 8388608 q.toNat (by decide) (by omega)]
  omega
theorem hid_64 (q : Int) (h0 : 0 ≤ q) (h1 : q < 4503599627370496) : bits .or .u64 q 4503599627370496 = 4503599627370496 + q := by
  rw [u64_or q 4503599627370496 h0 (by omega) (by omega) (by omega)]
  have e : (4503599627370496 : Int).toNat = 4503599627370496 := by decide
  rw [e, Nat.or_comm, nat_join 52 4503599627370496 q.toNat (by decide) (by omega)]
  omega
/-- the size of a part, and its power, of a float that is s steps from 0 -/
def pSize (U s : Int) : Int := if s < U then s else U + s % U
def pPow (U L s : Int) : Int := if s < U then L else L + (s / U - 1)
end Go.Proofs.YtekbhkklaogmnaaDoor
