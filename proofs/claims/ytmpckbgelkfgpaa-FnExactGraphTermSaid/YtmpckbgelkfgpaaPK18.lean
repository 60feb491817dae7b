/- The texts that the laws set as marks. Condition: marks up to 2^25. -/
import Derived.Test.YtmpckbgelkfgpaaPK01
import Derived.Lib.Strings
import Derived.Lib.Slices
namespace Go.Proofs.Ytmpckbgelkfgpaa
open Go.RowKit
set_option linter.unusedVariables false
set_option maxRecDepth 100000

/-- the decimals of a number ahead of a text -/
def mtN (k : Nat) (l : List UInt8) : List UInt8 := if h : k = 0 then l else mtN (k / 10) (UInt8.ofNat (48 + k % 10) :: l)
termination_by k
decreasing_by omega
theorem mtN_zero (l : List UInt8) : mtN 0 l = l := by rw [mtN]; simp
theorem mtN_pos {k : Nat} (h : k ≠ 0) (l : List UInt8) : mtN k l = mtN (k / 10) (UInt8.ofNat (48 + k % 10) :: l) := by rw [mtN, dif_neg h]
def mtx (k : Int) : ByteArray := if k ≤ 0 then ⟨#[109, 48]⟩ else ⟨(109 :: mtN k.toNat []).toArray⟩
theorem mt_b (d : Nat) (h : d ≤ 9) : (UInt8.ofNat (48 + d)).toNat = 48 + d := by
  show (48 + d) % 256 = 48 + d
  omega
set_option maxRecDepth 100000 in
set_option maxHeartbeats 4000000 in
theorem lMarkText (k : Int) (hk : k ≤ 33554432) (w : World) :
    Calls Try.prog 69 #[.int .i64 k] w fun e w' => e = .returned (.string (mtx k)) ∧ Below w.heap.size w w' := by
  by_cases h0 : k ≤ 0
  · have e : mtx k = ⟨#[109, 48]⟩ := by unfold mtx; rw [if_pos h0]
    rw [e]
    go_enter Try.func69, Try.ntmps69
    go_wp2
    go_ret
    exact ⟨rfl, Below.refl _ _⟩
  obtain ⟨n, rfl⟩ := Int.eq_ofNat_of_zero_le (show 0 ≤ k by omega)
  have e : mtx (n : Int) = ⟨(109 :: mtN n []).toArray⟩ := by unfold mtx; rw [if_neg h0]; rfl
  rw [e]
  have hn : n ≤ 33554432 := by omega
  clear e
  go_enter Try.func69, Try.ntmps69
  go_wp2
  go_loopw [0, 3] (fun k o wr => ∃ (m : Nat) (l : List UInt8), 10 ^ l.length * m ≤ n ∧ l.length ≤ 8 ∧ k = .int .i64 (m : Int) ∧ o = .string ⟨l.toArray⟩ ∧ Hid (mtN m l = mtN n []) ∧ Below w.heap.size w wr) (fun k _ _ => (intOf k).toNat)
  case atStart => exact ⟨n, [], by simp, by simp, rfl, rfl, rfl, Below.refl _ _⟩
  case round =>
    obtain ⟨m, l, hm, hl8, rfl, rfl, he', hb⟩ := hrel
    by_cases h0 : m = 0
    · subst h0
      have hl : Hid (mtN n [] = l) := by show _ = _; rw [← he'.out, mtN_zero]
      have hsz : ((⟨l.toArray⟩ : ByteArray).size : Int) ≤ 8 := by show ((l.toArray.size : Nat) : Int) ≤ 8; simp; omega
      go_wp2
      go_ret
      refine ⟨?_, hb⟩
      rw [hl.out]
      first | done | rfl | (congr 2; done) | (congr 2; apply ByteArray.ext; simp)
    · have hst : Hid (mtN (m / 10) (UInt8.ofNat (48 + m % 10) :: l) = mtN n []) := by show _ = _; rw [← he'.out, mtN_pos h0]
      have hp : 10 ^ l.length ≤ n := Nat.le_trans (Nat.le_mul_of_pos_right _ (by omega)) hm
      have hl7 : l.length ≤ 7 := by
        by_cases h : l.length ≤ 7
        · exact h
        · have : 10 ^ 8 ≤ 10 ^ l.length := Nat.pow_le_pow_right (by decide) (by omega)
          omega
      have hm0 : (0 : Int) < (m : Int) := by omega
      have hmn : m ≤ n := Nat.le_trans (Nat.le_mul_of_pos_left _ (Nat.pow_pos (by decide))) hm
      have hm1 : (m : Int) ≤ 33554432 := by omega
      have hrem : (m : Int).tmod 10 = ((m % 10 : Nat) : Int) := by rw [Int.tmod_eq_emod_of_nonneg (by omega)]; omega
      have hquo : (m : Int).tdiv 10 = ((m / 10 : Nat) : Int) := by rw [Int.tdiv_eq_ediv_of_nonneg (by omega)]; omega
      have hd9 : m % 10 ≤ 9 := by omega
      have hstep : 10 ^ (l.length + 1) * (m / 10) ≤ n := by
        rw [Nat.pow_succ, Nat.mul_assoc]
        exact Nat.le_trans (Nat.mul_le_mul_left _ (Nat.mul_div_le m 10)) hm
      have hbt := mt_b (m % 10) hd9
      generalize m % 10 = d at *
      generalize hq : m / 10 = q at *
      have hw1 : IntKind.i64.wrap (48 + (d : Int)) = ((48 + d : Nat) : Int) := by rw [IntKind.wrap_i64]; omega
      have hw2 : IntKind.u8.wrap ((48 + d : Nat) : Int) = ((48 + d : Nat) : Int) := by rw [IntKind.wrap_u8]; omega
      have hw3 : IntKind.i64.wrap ((48 + d : Nat) : Int) = ((48 + d : Nat) : Int) := by rw [IntKind.wrap_i64]; omega
      generalize hc : 48 + d = c at *
      have cv9 : (convert 22 9 (.slice (some ⟨wr.heap.size, 0, none⟩) 1 1)).run Try.prog (wr.alloc (.cells #[.int .u8 (c : Int)] 5)) = .ok (.string ⟨#[UInt8.ofNat c]⟩) (wr.alloc (.cells #[.int .u8 (c : Int)] 5)) := by
        have h := run_convert_bytes_back (P := Try.prog) (wr.alloc (.cells #[.int .u8 (c : Int)] 5)) 22 9 5 ⟨wr.heap.size, 0, none⟩ 1 [UInt8.ofNat c] Try.underlying22 Try.underlying5 Try.underlying9 (fun j hj => by
          obtain rfl : j = 0 := by simp at hj; omega
          simp [Addr.add, hbt])
        exact h
      have hsz : ((⟨l.toArray⟩ : ByteArray).size : Int) ≤ 8 := by show ((l.toArray.size : Nat) : Int) ≤ 8; simp; omega
      have happ : (⟨#[UInt8.ofNat c]⟩ : ByteArray) ++ ⟨l.toArray⟩ = ⟨(UInt8.ofNat c :: l).toArray⟩ := by
        apply ByteArray.ext
        simp
      go_wp2
      refine ⟨⟨q, UInt8.ofNat c :: l, by rw [List.length_cons]; exact hstep, by rw [List.length_cons]; omega, rfl, rfl, hst, old_alloc hb _⟩, ?_⟩
      simp [intOf]
      omega
end Go.Proofs.Ytmpckbgelkfgpaa
