/- BitMake of both texts answers one and the same at every argument, where the library's table lies as its text lays it; the walk of the law on it; nothing that was there is written. -/
import Derived.Test.YtljmmaaaeojbpaaDoorZ6
namespace Go.Proofs.YtljmmaaaeojbpaaDoor
open Go.RowKit

theorem MkPost.told (L U E P m Dm : Int) (bl : Bool) : ∃ (r : Int) (ok : Bool), ∀ e, MkPost L U E P m Dm bl e → e = .returned (.tuple #[.int .i64 r, .bool ok]) := by
  by_cases c : m < 0 ∨ E ≤ P - m - L + 1
  · exact ⟨0, false, fun e h => h.1 c⟩
  · exact ⟨_, true, fun e h => h.2 (by omega) (by omega)⟩

def Same (wd : Int) (bl : Bool) (S p : Int) : Prop := ∃ (r : Int) (ok : Bool),
  (∀ w, Tab w → Calls Tryd.prog 13 #[.int .i64 wd, .agg #[.bool bl, .int .u64 S, .int .i64 p]] w fun e w' => e = .returned (.tuple #[.int .i64 r, .bool ok]) ∧ Below w.heap.size w w') ∧
  (∀ w, Tab w → Calls Tryd.prog 12 #[.int .i64 wd, .agg #[.bool bl, .int .u64 S, .int .i64 p]] w fun e w' => e = .returned (.tuple #[.int .i64 r, .bool ok]) ∧ Below w.heap.size w w')

theorem same_32 (bl : Bool) (S p : Int) (s1 : 0 ≤ S) (s2 : S < 18446744073709551616) : Same 32 bl S p := by
  by_cases c1 : p < -2000
  · have t1 : decide (p < -2000) = true := by simpa using c1
    exact ⟨0, false, fun w _ => sMake_32_lo bl S p t1 w, fun w _ => iMake_32_lo bl S p t1 w⟩
  have t1 : decide (p < -2000) = false := by simpa using c1
  by_cases c2 : 2000 < p
  · have t2 : decide (2000 < p) = true := by simpa using c2
    exact ⟨0, false, fun w _ => sMake_32_hi bl S p t1 t2 w, fun w _ => iMake_32_hi bl S p t1 t2 w⟩
  have t2 : decide (2000 < p) = false := by simpa using c2
  by_cases c3 : S = 0
  · subst c3
    exact ⟨0, true, fun w _ => sMake_32_zero bl p t1 t2 w, fun w _ => iMake_32_zero bl p t1 t2 w⟩
  obtain ⟨o, z, ho, hz⟩ := odd_part S.toNat (by omega)
  have hS : S = ((o * 2 ^ z : Nat) : Int) := by omega
  have hx : o * 2 ^ z < 2 ^ 64 := by omega
  have zz : z ≤ 63 := by
    apply Nat.le_of_not_lt
    intro h
    have h1 : 2 ^ 64 ≤ 2 ^ z := Nat.pow_le_pow_right (by omega) h
    have h2 : 2 ^ z ≤ o * 2 ^ z := Nat.le_mul_of_pos_left _ (by omega)
    omega
  obtain ⟨r, ok, ht⟩ := MkPost.told (-149) 8388608 255 (p + (z : Int)) (min (23 - (o.log2 : Int)) (p + (z : Int) - (-149))) ((o * 2 ^ (min (23 - (o.log2 : Int)) (p + (z : Int) - (-149))).toNat : Nat) : Int) bl
  have ep : p + (z : Int) - (z : Int) = p := by omega
  refine ⟨r, ok, fun w hT => ?_, fun w hT => ?_⟩
  · have h := sMake_32 o z (p + (z : Int)) bl w hT ho hx (by omega) (by omega) zz
    rw [ep, ← hS] at h
    exact h.mono fun e w' ⟨a, b⟩ => ⟨ht e a, b⟩
  · have h := iMake_32 o z (p + (z : Int)) bl w hT ho hx (by omega) (by omega) zz
    rw [ep, ← hS] at h
    exact h.mono fun e w' ⟨a, b⟩ => ⟨ht e a, b⟩

theorem same_64 (bl : Bool) (S p : Int) (s1 : 0 ≤ S) (s2 : S < 18446744073709551616) : Same 64 bl S p := by
  by_cases c1 : p < -2000
  · have t1 : decide (p < -2000) = true := by simpa using c1
    exact ⟨0, false, fun w _ => sMake_64_lo bl S p t1 w, fun w _ => iMake_64_lo bl S p t1 w⟩
  have t1 : decide (p < -2000) = false := by simpa using c1
  by_cases c2 : 2000 < p
  · have t2 : decide (2000 < p) = true := by simpa using c2
    exact ⟨0, false, fun w _ => sMake_64_hi bl S p t1 t2 w, fun w _ => iMake_64_hi bl S p t1 t2 w⟩
  have t2 : decide (2000 < p) = false := by simpa using c2
  by_cases c3 : S = 0
  · subst c3
    exact ⟨0, true, fun w _ => sMake_64_zero bl p t1 t2 w, fun w _ => iMake_64_zero bl p t1 t2 w⟩
  obtain ⟨o, z, ho, hz⟩ := odd_part S.toNat (by omega)
  have hS : S = ((o * 2 ^ z : Nat) : Int) := by omega
  have hx : o * 2 ^ z < 2 ^ 64 := by omega
  have zz : z ≤ 63 := by
    apply Nat.le_of_not_lt
    intro h
    have h1 : 2 ^ 64 ≤ 2 ^ z := Nat.pow_le_pow_right (by omega) h
    have h2 : 2 ^ z ≤ o * 2 ^ z := Nat.le_mul_of_pos_left _ (by omega)
    omega
  obtain ⟨r, ok, ht⟩ := MkPost.told (-1074) 4503599627370496 2047 (p + (z : Int)) (min (52 - (o.log2 : Int)) (p + (z : Int) - (-1074))) ((o * 2 ^ (min (52 - (o.log2 : Int)) (p + (z : Int) - (-1074))).toNat : Nat) : Int) bl
  have ep : p + (z : Int) - (z : Int) = p := by omega
  refine ⟨r, ok, fun w hT => ?_, fun w hT => ?_⟩
  · have h := sMake_64 o z (p + (z : Int)) bl w hT ho hx (by omega) (by omega) zz
    rw [ep, ← hS] at h
    exact h.mono fun e w' ⟨a, b⟩ => ⟨ht e a, b⟩
  · have h := iMake_64 o z (p + (z : Int)) bl w hT ho hx (by omega) (by omega) zz
    rw [ep, ← hS] at h
    exact h.mono fun e w' ⟨a, b⟩ => ⟨ht e a, b⟩

theorem same_any (wd : Int) (bl : Bool) (S p : Int) (s1 : 0 ≤ S) (s2 : S < 18446744073709551616) : Same wd bl S p := by
  by_cases c1 : wd = 32
  · subst c1; exact same_32 bl S p s1 s2
  by_cases c2 : wd = 64
  · subst c2; exact same_64 bl S p s1 s2
  exact ⟨0, false, fun w _ => sMake_no bl S p wd c1 c2 w, fun w _ => iMake_no bl S p wd c1 c2 w⟩

def Three (w : World) (b : Nat) (c0 c1 c2 : Value) : Prop := w.cell? ⟨b, 0, none⟩ = some c0 ∧ w.cell? ⟨b, 1, none⟩ = some c1 ∧ w.cell? ⟨b, 2, none⟩ = some c2 ∧ b < w.heap.size
theorem Three.new (w : World) (c0 c1 c2 : Value) (t : TypeId) : Three (w.alloc (.cells #[c0, c1, c2] t)) w.heap.size c0 c1 c2 := ⟨by simp, by simp, by simp, by simp⟩
theorem Three.old {w w' : World} {b : Nat} {c0 c1 c2 : Value} (h : Three w b c0 c1 c2) (k : Below w.heap.size w w') : Three w' b c0 c1 c2 :=
  ⟨(k.cell (p := ⟨b, 0, none⟩) h.2.2.2).trans h.1, (k.cell (p := ⟨b, 1, none⟩) h.2.2.2).trans h.2.1, (k.cell (p := ⟨b, 2, none⟩) h.2.2.2).trans h.2.2.1, Nat.lt_of_lt_of_le h.2.2.2 k.size⟩

set_option maxHeartbeats 1000000 in
theorem makeLaw (wd : Int) (bl : Bool) (S p : Int) (w : World) (hT : Tab w) (s1 : 0 ≤ S) (s2 : S < 18446744073709551616) :
    Calls Tryd.prog 4 #[.int .i64 wd, .agg #[.bool bl, .int .u64 S, .int .i64 p]] w fun e w' => e = .returned (.bool true) ∧ Below w.heap.size w w' := by
  obtain ⟨r, ok, hs, hi⟩ := same_any wd bl S p s1 s2
  have HS : Hid (∀ w, Tab w → Calls Tryd.prog 13 #[.int .i64 wd, .agg #[.bool bl, .int .u64 S, .int .i64 p]] w fun e w' => e = .returned (.tuple #[.int .i64 r, .bool ok]) ∧ Below w.heap.size w w') := hs
  have HI : Hid (∀ w, Tab w → Calls Tryd.prog 12 #[.int .i64 wd, .agg #[.bool bl, .int .u64 S, .int .i64 p]] w fun e w' => e = .returned (.tuple #[.int .i64 r, .bool ok]) ∧ Below w.heap.size w w') := hi
  clear hs hi
  have T0 : Tab (w.alloc (.cells #[.bool bl, .int .u64 S, .int .i64 p] 39)) := hT.old (old_alloc (Below.refl _ _) _)
  have Q := Three.new w (.bool bl) (.int .u64 S) (.int .i64 p) 39
  clear hT
  go_enter Tryd.func4, Tryd.ntmps4
  go_wp2_with fail
  refine (toPart bl S p _).mono ?_
  rintro e w1 ⟨rfl, hb1⟩
  replace T0 := T0.old hb1
  replace Q := Q.old hb1
  go_wp2_with fail
  refine (HS.out _ T0).mono ?_
  rintro e w2 ⟨rfl, hb2⟩
  replace T0 := T0.old hb2
  replace Q := Q.old hb2
  obtain ⟨x0, x1, x2, x3⟩ := Q
  go_wp2_with fail
  refine (toPart bl S p _).mono ?_
  rintro e w3 ⟨rfl, hb3⟩
  replace T0 := T0.old hb3
  go_wp2_with fail
  refine (HI.out _ T0).mono ?_
  rintro e w4 ⟨rfl, hb4⟩
  go_wp2
  go_ret
  exact ⟨rfl, (by repeat (first | exact Below.refl _ _ | refine Below.drew ?_ | refine Below.setCell ?_ (by simp) _ | refine old_alloc ?_ _ | refine old_trans ?_ (by assumption)))⟩
end Go.Proofs.YtljmmaaaeojbpaaDoor
