/- What the program and the specification do with numbers, said of the naturals that they stand for. Conditions: as each says. -/
import Derived.Test.YthgdfijlnaaplaaUK
import Derived.Test.YthgdfijlnaaplaaBC
import Derived.Test.YthgdfijlnaaplaaNJ
import Derived.Test.YthgdfijlnaaplaaBG
import Derived.Test.YthgdfijlnaaplaaBB
import Derived.Test.YthgdfijlnaaplaaV6
import Derived.ShutString
import Derived.ChangeOld
namespace Go.Proofs.Ythgdfijlnaaplaa
open Go.RowKit
set_option linter.unusedVariables false

theorem okL {X : Nat} (h : (natL X).length ≤ 256) : natOk (natL X) = true := natOk_natL (natL_len.1 h)
theorem okX {xs : List Int} (h : natOk xs = true) : ∃ X, xs = natL X ∧ (natL X).length ≤ 256 := ⟨val xs, (natOk_canon h).symm, by rw [natOk_canon h]; exact (natOk_in h).1⟩
theorem natL_ne {Y : Nat} (h : Y ≠ 0) : (natL Y).length ≠ 0 := by have := natL_length_pos (Nat.pos_of_ne_zero h); omega
theorem imAdd {X Y Z : Nat}  (hz : X + Y = Z) (lx : (natL X).length ≤ 256) (ly : (natL Y).length ≤ 256) (lz : (natL Z).length ≤ 256) (a b : Option Addr) (ca cb : Nat) (w : World) (hA : InI w a (natL X).length ca (natL X)) (hB : InI w b (natL Y).length cb (natL Y)) :
    Calls Try.prog 10 #[.slice a (natL X).length ca, .slice b (natL Y).length cb] w fun e w' => (∃ av cv, e = .returned (.tuple #[.slice av (natL Z).length cv, .bool true]) ∧ OI w' w.heap.size av cv (natL Z)) ∧ Below w.heap.size w w' := by
  have e1 : addB (natL X) (natL Y) = true := by
    unfold addB
    rw [okL lx, okL ly]
    simp only [val_natL, Bool.true_and]
    exact decide_eq_true (by rw [hz]; exact lz)
  have h := iNatAdd a b _ _ ca cb _ _ w hA hB
  rw [e1, val_natL, val_natL, hz] at h
  exact h
theorem imAddN {xs ys : List Int} (hf : addB xs ys = false) (a b : Option Addr) (la lb ca cb : Nat) (w : World) (hA : InI w a la ca xs) (hB : InI w b lb cb ys) :
    Calls Try.prog 10 #[.slice a la ca, .slice b lb cb] w fun e w' => (∃ av cv, e = .returned (.tuple #[.slice av 0 cv, .bool false]) ∧ OI w' w.heap.size av cv []) ∧ Below w.heap.size w w' := by
  have h := iNatAdd a b _ _ ca cb _ _ w hA hB
  rw [hf] at h
  exact h
theorem imMul {X Y Z : Nat}  (hz : X * Y = Z) (lx : (natL X).length ≤ 256) (ly : (natL Y).length ≤ 256) (lz : (natL Z).length ≤ 256) (a b : Option Addr) (ca cb : Nat) (w : World) (hA : InI w a (natL X).length ca (natL X)) (hB : InI w b (natL Y).length cb (natL Y)) :
    Calls Try.prog 8 #[.slice a (natL X).length ca, .slice b (natL Y).length cb] w fun e w' => (∃ av cv, e = .returned (.tuple #[.slice av (natL Z).length cv, .bool true]) ∧ OI w' w.heap.size av cv (natL Z)) ∧ Below w.heap.size w w' := by
  have e1 : mulB (natL X) (natL Y) = true := by
    unfold mulB
    rw [okL lx, okL ly]
    simp only [val_natL, Bool.true_and]
    exact decide_eq_true (by rw [hz]; exact lz)
  have h := iNatMul a b _ _ ca cb _ _ w hA hB
  rw [e1, val_natL, val_natL, hz] at h
  exact h
theorem imMulN {xs ys : List Int} (hf : mulB xs ys = false) (a b : Option Addr) (la lb ca cb : Nat) (w : World) (hA : InI w a la ca xs) (hB : InI w b lb cb ys) :
    Calls Try.prog 8 #[.slice a la ca, .slice b lb cb] w fun e w' => (∃ av cv, e = .returned (.tuple #[.slice av 0 cv, .bool false]) ∧ OI w' w.heap.size av cv []) ∧ Below w.heap.size w w' := by
  have h := iNatMul a b _ _ ca cb _ _ w hA hB
  rw [hf] at h
  exact h
theorem imCmp {X Y : Nat} {c : Int} (hc : cmpI X Y = c) (lx : (natL X).length ≤ 256) (ly : (natL Y).length ≤ 256) (a b : Option Addr) (ca cb : Nat) (w : World) (hA : InI w a (natL X).length ca (natL X)) (hB : InI w b (natL Y).length cb (natL Y)) :
    Calls Try.prog 9 #[.slice a (natL X).length ca, .slice b (natL Y).length cb] w fun e w' => e = .returned (.int .i64 c) ∧ Below w.heap.size w w' := by
  have h := iNatCmp a b _ _ ca cb _ _ w hA hB
  rw [show ncmp (natL X) (natL Y) = c by unfold ncmp; rw [okL lx, okL ly, val_natL, val_natL, hc]; rfl] at h
  exact h
theorem cmp_ge {X Y : Nat} (h : Y ≤ X) : ∃ c : Int, cmpI X Y = c ∧ 0 ≤ c := by
  rcases Nat.lt_or_ge Y X with g | g
  · exact ⟨1, cmpI_gt g, by omega⟩
  · obtain rfl : X = Y := by omega
    exact ⟨0, cmpI_eq _, by omega⟩
theorem powB_rng' {xs : List Int} {n : Int} (h : powB xs n = true) : 0 ≤ n ∧ n ≤ 64 := by
  unfold powB at h
  simp only [Bool.and_eq_true, decide_eq_true_eq] at h
  exact h.2.1
theorem powB_ok {xs : List Int} {n : Int} (h : powB xs n = true) : natOk xs = true := by
  unfold powB at h
  simp only [Bool.and_eq_true] at h
  exact h.1
end Go.Proofs.Ythgdfijlnaaplaa
