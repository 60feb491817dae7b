/- A number below 2^64 as one word: the specification; mathematics for the program. Conditions: numbers. -/
import Derived.Test.YtfjoilkgpdepaaaNK
import Derived.Test.YtfjoilkgpdepaaaNT
import Derived.Test.YtfjoilkgpdepaaaN5
namespace Go.Proofs.Ytfjoilkgpdepaaa
open Go.RowKit
set_option linter.unusedVariables false

def smallB (xs : List Int) : Bool := natOk xs && decide (xs.length ≤ 4)
def smallV (xs : List Int) : Nat := if smallB xs then val xs else 0
theorem val_drop {xs : List Int} {j : Nat} (h : j < xs.length) : val (xs.drop j) = (xs.getD j 0).toNat + 65536 * val (xs.drop (j + 1)) := by
  rw [List.drop_eq_getElem_cons h, val_cons, List.getD_eq_getElem?_getD, List.getElem?_eq_getElem h]; rfl
theorem digs_drop {xs : List Int} (h : digs xs) (j : Nat) : digs (xs.drop j) := (digs_append.1 (by rw [List.take_append_drop]; exact h)).2
theorem val_drop_lt {xs : List Int} (h : digs xs) (hl : xs.length ≤ 4) (j : Nat) (hj : 0 < j) : val (xs.drop j) < 281474976710656 := by
  have := val_lt (digs_drop h j)
  rw [List.length_drop] at this
  have h2 : 65536 ^ (xs.length - j) ≤ 65536 ^ 3 := Nat.pow_le_pow_right (by omega) (by omega)
  omega
theorem hlvI_16 {x : Int} (h : dig x) : 0 ≤ hlvI x ∧ hlvI x ≤ 16 := by
  unfold dig at h
  have := Lib.bitLen_le x.toNat 16 (by omega) (by omega)
  unfold hlvI
  omega
theorem hlvI_pos {x : Int} (h : dig x) (h0 : x ≠ 0) : 1 ≤ hlvI x := by
  unfold dig at h
  have := hlvI_half (d := x) (by omega) h.2
  have := hlvI_16 (x := x / 2) (by unfold dig; omega)
  omega
theorem bitsN_64 {xs : List Int} (h : natOk xs = true) : bitsN xs ≤ 64 ↔ xs.length ≤ 4 := by
  obtain ⟨h1, h2, h3⟩ := natOk_in h
  unfold bitsN
  split
  · omega
  · have d := h2 (xs.length - 1) (by omega)
    have a := hlvI_16 d
    have b := hlvI_pos d (h3.resolve_left (by omega))
    omega
set_option maxHeartbeats 2000000 in
theorem sNatSmall (a : Option Addr) (len cap : Nat) (xs : List Int) (w : World) (hR : InI w a len cap xs) :
    Calls Try.prog 26 #[.slice a len cap] w fun e w' => e = .returned (.tuple #[.int .u64 (smallV xs : Nat), .bool (smallB xs)]) ∧ w' = w := by
  have hlen := hR.len
  have hp := hR.1
  have K1 := hd (sNatOk a len cap xs w hR)
  cases h1 : natOk xs
  · have e : smallB xs = false := by unfold smallB; rw [h1]; rfl
    have e2 : smallV xs = 0 := by unfold smallV; rw [e]; rfl
    rw [e, e2]
    rw [h1] at K1
    clear e e2 h1
    go_enter Try.func26, Try.ntmps26
    go_wp2_with fail
    refine K1.out.mono ?_
    rintro e w1 ⟨rfl, rfl⟩
    go_wp2
    go_ret2
    exact ⟨rfl, rfl⟩
  rw [h1] at K1
  by_cases h4 : len ≤ 4
  case neg =>
    have e : smallB xs = false := by unfold smallB; rw [h1, decide_eq_false (by omega)]; rfl
    have e2 : smallV xs = 0 := by unfold smallV; rw [e]; rfl
    rw [e, e2]
    clear e e2 h1
    go_enter Try.func26, Try.ntmps26
    go_wp2_with fail
    refine K1.out.mono ?_
    rintro e w1 ⟨rfl, rfl⟩
    go_wp2
    go_ret2
    exact ⟨rfl, rfl⟩
  have e : smallB xs = true := by unfold smallB; rw [h1, decide_eq_true (by omega)]; rfl
  have e2 : smallV xs = val xs := by unfold smallV; rw [e]; rfl
  rw [e, e2]
  have q := (natOk_in h1).2.1
  have hv0 := hd (show val xs = val (xs.drop 0) from rfl)
  generalize val xs = V at *
  clear e e2 h1
  go_enter Try.func26, Try.ntmps26
  go_wp2_with fail
  refine K1.out.mono ?_
  rintro e w1 ⟨rfl, hw⟩
  obtain rfl : w = w1 := hw.symm
  clear hw
  go_wp2
  go_loopw [4, 5] (fun n i wr => ∃ (k : Nat) (j : Int) (m : Nat), j + 1 + k = len ∧ -1 ≤ j ∧ n = .int .u64 m ∧ i = .int .i64 j ∧ m = val (xs.drop (len - k)) ∧ wr = w) (fun _ i _ => (intOf i + 1).toNat)
  case atStart => exact ⟨0, (len : Int) - 1, 0, by omega, by omega, rfl, rfl, by rw [Nat.sub_zero, List.drop_of_length_le (by omega)]; rfl, rfl⟩
  case round =>
    obtain ⟨k, j, m, hk, hj, rfl, rfl, hm, hw⟩ := hrel
    obtain rfl : w = wr := hw.symm
    clear hw
    by_cases h0 : 0 ≤ j
    · obtain ⟨i, rfl⟩ := Int.eq_ofNat_of_zero_le h0
      obtain ⟨b, off, x, rfl, hbl, hx, -, c0⟩ := hR.at (k := i) (by omega)
      have dx := digs_getD q i
      rw [hx] at dx
      unfold dig at dx
      have hlt : m < 281474976710656 := by rw [hm]; exact val_drop_lt q (by omega) _ (by omega)
      have hs : val (xs.drop i) = x.toNat + 65536 * val (xs.drop (i + 1)) := by rw [val_drop (by omega), hx]
      have hm2 : val (xs.drop i) = x.toNat + 65536 * m := by rw [hs, hm, show len - k = i + 1 by omega]
      have hm2' := hd hm2
      clear hs hm hm2 hx
      go_wp2
      go_roundw
      case rel => exact ⟨k + 1, (i : Int) - 1, m * 65536 + x.toNat, by omega, by omega, by congr 1; omega, by go_num, by rw [show len - (k + 1) = i by omega, hm2'.out]; omega, trivial⟩
      case measure => simp [intOf] <;> omega
    · obtain rfl : j = -1 := by omega
      obtain rfl : k = len := by omega
      rw [Nat.sub_self] at hm
      obtain rfl : m = V := hm.trans hv0.out.symm
      clear hm
      go_wp2
      go_ret2
      exact ⟨rfl, rfl⟩
end Go.Proofs.Ytfjoilkgpdepaaa
