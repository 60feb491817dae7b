/- Shifts and lengths in bits, said of naturals. -/
import Derived.Test.YtglbbhkfodkljaaUT
namespace Go.Proofs.Ytglbbhkfodkljaa
open Go.RowKit
set_option linter.unusedVariables false

theorem imShift {X Z : Nat} {k : Int} (hz : shV X k = Z) (h0 : -4096 ≤ k) (h1 : k ≤ 4096) (lx : (natL X).length ≤ 256) (lz : (natL Z).length ≤ 256) (a : Option Addr) (ca : Nat) (w : World) (hA : InI w a (natL X).length ca (natL X)) :
    Calls Try.prog 16 #[.slice a (natL X).length ca, .int .i64 k] w fun e w' => (∃ av cv, e = .returned (.tuple #[.slice av (natL Z).length cv, .bool true]) ∧ OI w' w.heap.size av cv (natL Z)) ∧ Below w.heap.size w w' := by
  have e1 : shiftB (natL X) k = true := by
    unfold shiftB
    rw [okL lx, decide_eq_true (show -4096 ≤ k ∧ k ≤ 4096 from ⟨h0, h1⟩), val_natL, hz]
    exact decide_eq_true lz
  have h := iNatShift a _ ca _ k (by omega) w hA
  rw [e1, val_natL, hz] at h
  exact h
theorem smShift {X Z : Nat} {k : Int} (hz : shV X k = Z) (h0 : -4096 ≤ k) (h1 : k ≤ 4096) (lx : (natL X).length ≤ 256) (lz : (natL Z).length ≤ 256) (a : Option Addr) (ca : Nat) (w : World) (hA : InI w a (natL X).length ca (natL X)) :
    Calls Try.prog 17 #[.slice a (natL X).length ca, .int .i64 k] w fun e w' => (∃ av cv, e = .returned (.tuple #[.slice av (natL Z).length cv, .bool true]) ∧ OI w' w.heap.size av cv (natL Z)) ∧ Below w.heap.size w w' := by
  have e1 : shiftB (natL X) k = true := by
    unfold shiftB
    rw [okL lx, decide_eq_true (show -4096 ≤ k ∧ k ≤ 4096 from ⟨h0, h1⟩), val_natL, hz]
    exact decide_eq_true lz
  have h := sNatShift a _ ca _ k (by omega) w hA
  rw [e1, val_natL, hz] at h
  exact h
theorem imShiftN {xs : List Int} {k : Int} (hkk : -9223372036854775808 ≤ k ∧ k ≤ 9223372036854775807) (hf : shiftB xs k = false) (a : Option Addr) (la ca : Nat) (w : World) (hA : InI w a la ca xs) :
    Calls Try.prog 16 #[.slice a la ca, .int .i64 k] w fun e w' => (∃ av cv, e = .returned (.tuple #[.slice av 0 cv, .bool false]) ∧ OI w' w.heap.size av cv []) ∧ Below w.heap.size w w' := by
  have h := iNatShift a _ ca _ k hkk w hA
  rw [hf] at h
  exact h
theorem smShiftN {xs : List Int} {k : Int} (hkk : -9223372036854775808 ≤ k ∧ k ≤ 9223372036854775807) (hf : shiftB xs k = false) (a : Option Addr) (la ca : Nat) (w : World) (hA : InI w a la ca xs) :
    Calls Try.prog 17 #[.slice a la ca, .int .i64 k] w fun e w' => (∃ av cv, e = .returned (.tuple #[.slice av 0 cv, .bool false]) ∧ OI w' w.heap.size av cv []) ∧ Below w.heap.size w w' := by
  have h := sNatShift a _ ca _ k hkk w hA
  rw [hf] at h
  exact h
theorem imBits {X : Nat} {c : Int} (hc : nbits (natL X) = c) (a : Option Addr) (ca : Nat) (w : World) (hA : InI w a (natL X).length ca (natL X)) :
    Calls Try.prog 18 #[.slice a (natL X).length ca] w fun e w' => e = .returned (.int .i64 c) ∧ w' = w := by
  have h := iNatBits a _ ca _ w hA
  rw [hc] at h
  exact h
theorem shiftB_in {xs : List Int} {k : Int} (h : shiftB xs k = true) : natOk xs = true ∧ (-4096 ≤ k ∧ k ≤ 4096) ∧ (natL (shV (val xs) k)).length ≤ 256 := by
  unfold shiftB fitsB at h
  simp only [Bool.and_eq_true, decide_eq_true_eq] at h
  exact ⟨h.1, h.2.1, h.2.2⟩
theorem shV_pos {X j : Nat} : shV X (j : Int) = X * 2 ^ j := by unfold shV; rw [if_pos (by omega), Int.toNat_natCast]
theorem shV_neg {X j : Nat} (h : 0 < j) : shV X (-(j : Int)) = X / 2 ^ j := by unfold shV; rw [if_neg (by omega), Int.neg_neg, Int.toNat_natCast]
theorem shV_back {X j : Nat} : shV (X * 2 ^ j) (-(j : Int)) = X := by
  have hp : 0 < 2 ^ j := Nat.pow_pos (by omega)
  rcases Nat.eq_zero_or_pos j with h | h
  · subst h; simp [shV]
  · rw [shV_neg h, Nat.mul_div_cancel _ hp]
theorem two_oi (w : World) (t : TypeId) : OI (w.alloc (.cells #[.int .i64 2] t)) w.heap.size (some ⟨w.heap.size, 0, none⟩) 1 (natL 2) := by
  have e : natL 2 = [2] := by rw [natL_pos (by omega), show 2 / 65536 = 0 by decide, natL_zero]; rfl
  rw [e]
  have hr : IRow (w.alloc (.cells #[.int .i64 2] t)) w.heap.size [2] := ⟨by simp, fun i hi => by
    obtain rfl : i = 0 := by simp at hi; omega
    simp⟩
  exact ⟨fun y hy => by simp at hy; subst hy; omega, Nat.le_refl _, by unfold maxLen; simp, .inr ⟨_, rfl, Nat.le_refl _, hr⟩⟩
theorem two_len : (natL 2).length = 1 := by rw [natL_pos (by omega), show 2 / 65536 = 0 by decide, natL_zero]; rfl
theorem two_in (w : World) (t : TypeId) : InI (w.alloc (.cells #[.int .i64 2] t)) (some ⟨w.heap.size, 0, none⟩) 1 1 (natL 2) := by
  have h := (two_oi w t).inI
  rw [two_len] at h
  exact h
theorem pow2_len {j : Nat} (h : j ≤ 64) : (natL (2 ^ j)).length ≤ 256 := by
  have : 2 ^ j ≤ 2 ^ 64 := Nat.pow_le_pow_right (by omega) h
  exact Nat.le_trans (natL_len (n := 5).2 (by omega)) (by omega)
end Go.Proofs.Ytglbbhkfodkljaa
