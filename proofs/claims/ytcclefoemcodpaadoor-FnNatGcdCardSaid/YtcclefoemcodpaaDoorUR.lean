/- What the program and the specification tell of common divisors, said of naturals. Condition, of the program: the library's table holds what its text lays. -/
import Derived.Test.YtcclefoemcodpaaDoorUL
import Derived.Test.YtcclefoemcodpaaDoorUQ
import Derived.Test.YtcclefoemcodpaaDoorBI
namespace Go.Proofs.YtcclefoemcodpaaDoor
open Go.RowKit
set_option linter.unusedVariables false

theorem imGcd {X Y Z : Nat} (hz : Nat.gcd X Y = Z) (lx : (natL X).length ≤ 256) (ly : (natL Y).length ≤ 256) (a b : Option Addr) (ca cb : Nat) (w : World) (hA : InI w a (natL X).length ca (natL X)) (hB : InI w b (natL Y).length cb (natL Y)) (hT : Tab w) :
    Calls Tryd.prog 5 #[.slice a (natL X).length ca, .slice b (natL Y).length cb] w fun e w' => (∃ av cv, e = .returned (.tuple #[.slice av (natL Z).length cv, .bool true]) ∧ OI w' w.heap.size av cv (natL Z)) ∧ Below w.heap.size w w' := by
  have e1 : gcdB (natL X) (natL Y) = true := by unfold gcdB; rw [okL lx, okL ly]; rfl
  have h := iNatGcd a b _ _ ca cb _ _ w hA hB hT
  rw [e1, val_natL, val_natL, hz] at h
  exact h
theorem smGcd {X Y Z : Nat} (hz : Nat.gcd X Y = Z) (lx : (natL X).length ≤ 256) (ly : (natL Y).length ≤ 256) (a b : Option Addr) (ca cb : Nat) (w : World) (hA : InI w a (natL X).length ca (natL X)) (hB : InI w b (natL Y).length cb (natL Y)) :
    Calls Tryd.prog 6 #[.slice a (natL X).length ca, .slice b (natL Y).length cb] w fun e w' => (∃ av cv, e = .returned (.tuple #[.slice av (natL Z).length cv, .bool true]) ∧ OI w' w.heap.size av cv (natL Z)) ∧ Below w.heap.size w w' := by
  have e1 : gcdB (natL X) (natL Y) = true := by unfold gcdB; rw [okL lx, okL ly]; rfl
  have h := sNatGcd a b _ _ ca cb _ _ w hA hB
  rw [e1, val_natL, val_natL, hz] at h
  exact h
theorem imGcdN {xs ys : List Int} (hf : gcdB xs ys = false) (a b : Option Addr) (la lb ca cb : Nat) (w : World) (hA : InI w a la ca xs) (hB : InI w b lb cb ys) (hT : Tab w) :
    Calls Tryd.prog 5 #[.slice a la ca, .slice b lb cb] w fun e w' => (∃ av cv, e = .returned (.tuple #[.slice av 0 cv, .bool false]) ∧ OI w' w.heap.size av cv []) ∧ Below w.heap.size w w' := by
  have h := iNatGcd a b _ _ ca cb _ _ w hA hB hT
  rw [hf] at h
  exact h
theorem smGcdN {xs ys : List Int} (hf : gcdB xs ys = false) (a b : Option Addr) (la lb ca cb : Nat) (w : World) (hA : InI w a la ca xs) (hB : InI w b lb cb ys) :
    Calls Tryd.prog 6 #[.slice a la ca, .slice b lb cb] w fun e w' => (∃ av cv, e = .returned (.tuple #[.slice av 0 cv, .bool false]) ∧ OI w' w.heap.size av cv []) ∧ Below w.heap.size w w' := by
  have h := sNatGcd a b _ _ ca cb _ _ w hA hB
  rw [hf] at h
  exact h
theorem gcd_cop {X Y : Nat} (h : Nat.gcd X Y ≠ 0) : Nat.gcd (X / Nat.gcd X Y) (Y / Nat.gcd X Y) = 1 := Nat.coprime_div_gcd_div_gcd (Nat.pos_of_ne_zero h)
theorem one_natL : natL 1 = [1] := by rw [natL_pos (by omega), show 1 / 65536 = 0 by decide, natL_zero]; rfl
end Go.Proofs.YtcclefoemcodpaaDoor
