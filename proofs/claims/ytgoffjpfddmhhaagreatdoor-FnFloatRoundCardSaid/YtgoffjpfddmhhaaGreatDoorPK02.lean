/- Trailing noughts of a word, by the library's table, which must hold what its text lays; how often a number can be halved. -/
import Derived.Test.YtgoffjpfddmhhaaGreatDoorRows
import Derived.WalkKit
import Derived.WalkSpells
import Derived.WalkLawsBesides
import Derived.ProofKit
import Derived.Laws.BitsAllLaws
import Derived.KernelRfl
namespace Go.Proofs.YtgoffjpfddmhhaaGreatDoor
open Go.RowKit
set_option linter.unusedVariables false
set_option maxRecDepth 100000

def tab64 : List Int := [0, 1, 56, 2, 57, 49, 28, 3, 61, 58, 42, 50, 38, 29, 17, 4, 62, 47, 59, 36, 45, 43, 51, 22, 53, 39, 33, 30, 24, 18, 12, 5, 63, 55, 48, 27, 60, 41, 37, 16, 46, 35, 44, 21, 52, 32, 23, 11, 54, 26, 40, 15, 34, 20, 31, 10, 25, 14, 19, 9, 13, 8, 7, 6]

theorem tab64_at : ∀ k : Fin 64, tab64.getD ((2 ^ k.val * 285870213051353865) % 18446744073709551616 / 288230376151711744) 0 = (k.val : Int) := by decide +kernel
theorem tab64_lt : ∀ k : Fin 64, (2 ^ k.val * 285870213051353865) % 18446744073709551616 / 288230376151711744 < 64 := by decide +kernel

/-- x and its negative share the lowest bit alone -/
theorem low_bit (o z : Nat) (ho : o % 2 = 1) (hx : o * 2 ^ z < 2 ^ 64) : (o * 2 ^ z) &&& (2 ^ 64 - o * 2 ^ z) = 2 ^ z := by
  have hz : z < 64 := by
    apply Nat.lt_of_not_le
    intro h
    have : 2 ^ 64 ≤ 2 ^ z := Nat.pow_le_pow_right (by omega) h
    have : 2 ^ z ≤ o * 2 ^ z := Nat.le_mul_of_pos_left _ (by omega)
    omega
  have e : 2 ^ 64 - o * 2 ^ z = (2 ^ (64 - z) - o) * 2 ^ z := by
    rw [Nat.sub_mul, ← Nat.pow_add, show 64 - z + z = 64 by omega]
  have hlt : o < 2 ^ (64 - z) := by
    apply Nat.lt_of_mul_lt_mul_right (a := 2 ^ z)
    rw [← Nat.pow_add, show 64 - z + z = 64 by omega]
    exact hx
  rw [e, ← Nat.shiftLeft_eq, ← Nat.shiftLeft_eq, ← Nat.shiftLeft_and_distrib, Nat.shiftLeft_eq]
  have h1 : o &&& (2 ^ (64 - z) - o) = 1 := by
    apply Nat.eq_of_testBit_eq
    intro j
    rw [Nat.testBit_and]
    have e2 : 2 ^ (64 - z) - o = 2 ^ (64 - z) - ((o - 1) + 1) := by omega
    rw [e2, Nat.testBit_two_pow_sub_succ (by omega)]
    cases j with
    | zero =>
      have a : o.testBit 0 = true := by rw [Nat.testBit_zero]; simp [ho]
      have b : (o - 1).testBit 0 = false := by rw [Nat.testBit_zero]; simp; omega
      simp [a, b]; omega
    | succ j =>
      have a : (o - 1).testBit (j + 1) = o.testBit (j + 1) := by
        rw [Nat.testBit_succ, Nat.testBit_succ, show (o - 1) / 2 = o / 2 by omega]
      have c : (1 : Nat).testBit (j + 1) = false := by rw [Nat.testBit_succ]; simp
      rw [a, c]
      cases o.testBit (j + 1) <;> simp
  rw [h1, Nat.one_mul]

/-- the library's table, as its text lays it -/
def Tab (w : World) : Prop := 2 < w.heap.size ∧ ∀ i, i < 64 → w.cell? ⟨2, i, none⟩ = some (.int .u8 (tab64.getD i 0))
theorem Tab.old {w w' : World} (h : Tab w) (b : Below w.heap.size w w') : Tab w' :=
  ⟨Nat.lt_of_lt_of_le h.1 b.size, fun i hi => (b.cell (p := ⟨2, i, none⟩) h.1).trans (h.2 i hi)⟩

set_option maxHeartbeats 400000 in
theorem ntz_core (x m y i k : Int) (w : World) (h0 : (x == 0) = false) 
    (r1 : bits .and .u64 x (IntKind.u64.wrap (-x)) = m) (r2 : IntKind.u64.wrap (m * 285870213051353865) = y) (r3 : y / 288230376151711744 = i) (i0 : 0 ≤ i) (i1 : i < 64) (k0 : 0 ≤ k) (k1 : k ≤ 64)
    (c : w.cell? ⟨2, i.toNat, none⟩ = some (.int .u8 k)) :
    Calls Tryz.prog 123 #[.int .u64 x] w fun e w' => e = .returned (.int .i64 k) ∧ w' = w := by
  go_enter Tryz.func123, Tryz.ntmps123
  go_wp2
  go_ret
  exact ⟨rfl, rfl⟩

theorem ntz_any (o z : Nat) (w : World) (ho : o % 2 = 1) (hx : o * 2 ^ z < 2 ^ 64) (hT : Tab w) :
    Calls Tryz.prog 123 #[.int .u64 ((o * 2 ^ z : Nat) : Int)] w fun e w' => e = .returned (.int .i64 (z : Int)) ∧ w' = w := by
  have hz : z < 64 := by
    apply Nat.lt_of_not_le
    intro h
    have : 2 ^ 64 ≤ 2 ^ z := Nat.pow_le_pow_right (by omega) h
    have : 2 ^ z ≤ o * 2 ^ z := Nat.le_mul_of_pos_left _ (by omega)
    omega
  have hlow := low_bit o z ho hx
  have h1 := tab64_lt ⟨z, hz⟩
  have h2 := tab64_at ⟨z, hz⟩
  simp only [] at h1 h2
  have hc := hT.2 _ h1
  rw [h2] at hc
  have hpos : 0 < o * 2 ^ z := Nat.mul_pos (by omega) (Nat.two_pow_pos z)
  have hp := Nat.two_pow_pos z
  generalize hX : o * 2 ^ z = X at *
  have hm : bits .and .u64 (X : Int) (IntKind.u64.wrap (-(X : Int))) = ((2 ^ z : Nat) : Int) := by
    have e1 : IntKind.u64.wrap (-(X : Int)) = ((2 ^ 64 - X : Nat) : Int) := by rw [IntKind.wrap_u64]; omega
    rw [e1, u64_and_nat X (2 ^ 64 - X) (by omega) (by omega), hlow]
  generalize 2 ^ z = Z at *
  refine ntz_core (X : Int) (Z : Int) ((Z * 285870213051353865 % 18446744073709551616 : Nat) : Int) ((Z * 285870213051353865 % 18446744073709551616 / 288230376151711744 : Nat) : Int) z w (by simp; omega) hm ?_ ?_ (by omega) (by omega) (by omega) (by omega) ?_
  · rw [IntKind.wrap_u64]; omega
  · omega
  · rw [Int.toNat_natCast]; exact hc

def twosOf (n : Nat) : Nat := if h : n = 0 then 0 else if n % 2 = 1 then 0 else twosOf (n / 2) + 1
termination_by n
decreasing_by omega
theorem twosOf_mul {o : Nat} (ho : o % 2 = 1) (k : Nat) : twosOf (o * 2 ^ k) = k := by
  induction k with
  | zero => rw [Nat.pow_zero, Nat.mul_one, twosOf, dif_neg (by omega), if_pos ho]
  | succ k ih =>
    have hp := Nat.two_pow_pos k
    have h0 : o * 2 ^ (k + 1) = 2 * (o * 2 ^ k) := by rw [Nat.pow_succ, ← Nat.mul_assoc, Nat.mul_comm]
    have h1 : 0 < o * 2 ^ k := Nat.mul_pos (by omega) hp
    rw [twosOf, dif_neg (by omega), if_neg (by omega), show o * 2 ^ (k + 1) / 2 = o * 2 ^ k by omega, ih]
theorem twosOf_ex {n : Nat} (h : n ≠ 0) : ∃ o, o % 2 = 1 ∧ n = o * 2 ^ twosOf n := by
  induction n using Nat.strongRecOn with
  | _ n ih =>
    rw [twosOf, dif_neg h]
    by_cases hn : n % 2 = 1
    · rw [if_pos hn]; exact ⟨n, hn, by simp⟩
    · rw [if_neg hn]
      obtain ⟨o, h1, h2⟩ := ih (n / 2) (by omega) (by omega)
      refine ⟨o, h1, ?_⟩
      rw [Nat.pow_succ, ← Nat.mul_assoc, ← h2]; omega
theorem twosOf_lt {n k : Nat} (h : n ≠ 0) (hn : n < 2 ^ k) : twosOf n < k := by
  obtain ⟨o, h1, h2⟩ := twosOf_ex h
  apply Nat.lt_of_not_le
  intro hk
  have h3 : 2 ^ k ≤ 2 ^ twosOf n := Nat.pow_le_pow_right (by omega) hk
  have h4 : 2 ^ twosOf n ≤ o * 2 ^ twosOf n := Nat.le_mul_of_pos_left _ (by omega)
  omega
theorem twosOf_digit {d r : Nat} (hd : d ≠ 0) (h1 : d < 65536) : twosOf (d + 65536 * r) = twosOf d := by
  obtain ⟨o, ho, e⟩ := twosOf_ex hd
  have hl := twosOf_lt (k := 16) hd (by omega)
  generalize twosOf d = z at *
  have e2 : 65536 * r = (2 ^ (16 - z) * r) * 2 ^ z := by
    rw [Nat.mul_right_comm, ← Nat.pow_add, show 16 - z + z = 16 by omega]
  have e3 : d + 65536 * r = (o + 2 ^ (16 - z) * r) * 2 ^ z := by rw [Nat.add_mul, ← e2, ← e]
  rw [e3]
  refine twosOf_mul ?_ z
  have : 2 ^ (16 - z) = 2 * 2 ^ (15 - z) := by rw [show 16 - z = (15 - z) + 1 by omega, Nat.pow_succ, Nat.mul_comm]
  rw [this, Nat.mul_assoc]
  omega
theorem twosOf_shift {n k : Nat} (h : n ≠ 0) : twosOf (65536 ^ k * n) = 16 * k + twosOf n := by
  obtain ⟨o, ho, e⟩ := twosOf_ex h
  have : 65536 ^ k * n = o * 2 ^ (16 * k + twosOf n) := by
    rw [Nat.pow_add, show (65536 : Nat) = 2 ^ 16 from rfl, ← Nat.pow_mul, Nat.mul_left_comm, ← e]
  rw [this]
  exact twosOf_mul ho _
def oddOf (n : Nat) : Nat := n / 2 ^ twosOf n
theorem oddOf_eq {n : Nat} (h : n ≠ 0) : oddOf n * 2 ^ twosOf n = n ∧ oddOf n % 2 = 1 := by
  obtain ⟨o, ho, e⟩ := twosOf_ex h
  have hp := Nat.two_pow_pos (twosOf n)
  have : oddOf n = o := by
    unfold oddOf
    generalize twosOf n = z at *
    rw [e, Nat.mul_div_cancel _ hp]
  rw [this]
  exact ⟨e.symm, ho⟩
theorem odd_coprime {a : Nat} (h : a % 2 = 1) (k : Nat) : Nat.Coprime a (2 ^ k) := by
  refine Nat.Coprime.pow_right k ?_
  rw [Nat.Coprime, Nat.gcd_comm, Nat.gcd_rec, h]; rfl
theorem gcd_odd {a b : Nat} (ha : a % 2 = 1) (hb : b % 2 = 1) (s t : Nat) : Nat.gcd (a * 2 ^ s) (b * 2 ^ t) = 2 ^ min s t * Nat.gcd a b := by
  by_cases h : s ≤ t
  · rw [Nat.min_eq_left h, show b * 2 ^ t = (b * 2 ^ (t - s)) * 2 ^ s by rw [Nat.mul_assoc, ← Nat.pow_add, show t - s + s = t by omega], Nat.gcd_mul_right, Nat.mul_comm]
    congr 1
    exact Nat.Coprime.gcd_mul_right_cancel_right b (odd_coprime ha _).symm
  · rw [Nat.min_eq_right (by omega), show a * 2 ^ s = (a * 2 ^ (s - t)) * 2 ^ t by rw [Nat.mul_assoc, ← Nat.pow_add, show s - t + t = s by omega], Nat.gcd_mul_right, Nat.mul_comm]
    congr 1
    rw [Nat.gcd_comm, Nat.gcd_comm a b]
    exact Nat.Coprime.gcd_mul_right_cancel_right a (odd_coprime hb _).symm
theorem gcd_parts {A B : Nat} (hA : A ≠ 0) (hB : B ≠ 0) : Nat.gcd A B = 2 ^ min (twosOf A) (twosOf B) * Nat.gcd (oddOf A) (oddOf B) := by
  obtain ⟨a1, a2⟩ := oddOf_eq hA
  obtain ⟨b1, b2⟩ := oddOf_eq hB
  have := gcd_odd a2 b2 (twosOf A) (twosOf B)
  rw [a1, b1] at this
  exact this

set_option maxHeartbeats 400000 in
theorem tz_any (n : Nat) (w : World) (h0 : n ≠ 0) (hx : n < 65536) (hT : Tab w) :
    Calls Tryz.prog 116 #[.int .u64 (n : Int)] w fun e w' => e = .returned (.int .i64 (twosOf n : Int)) ∧ w' = w := by
  obtain ⟨o, ho, e⟩ := twosOf_ex h0
  have C := ntz_any o (twosOf n) w ho (by rw [← e]; omega) hT
  rw [← e] at C
  have hl := twosOf_lt (k := 16) h0 (by omega)
  generalize twosOf n = z at *
  clear e
  go_enter Tryz.func116, Tryz.ntmps116
  go_wp2_with (go_at_call 123; refine C.mono ?_; rintro e w1 ⟨rfl, rfl⟩)
  go_ret
  exact ⟨rfl, rfl⟩
end Go.Proofs.YtgoffjpfddmhhaaGreatDoor
