/- What the functions that the law FnBitBack calls answer, in the few cases that its walk tells apart; nothing that was there is written. -/
import Derived.Test.YtljmmaaaeojbpaaDoorY0
namespace Go.Proofs.YtljmmaaaeojbpaaDoor
open Go.RowKit
set_option linter.unusedVariables false

def iOrdTo (wd b r : Int) (ok : Bool) : Prop := ∀ w, Calls Tryd.prog 6 #[.int .i64 wd, .int .u64 b] w fun e w' => e = .returned (.tuple #[.int .i64 r, .bool ok]) ∧ Below w.heap.size w w'
def sOrdTo (wd b r : Int) (ok : Bool) : Prop := ∀ w, Calls Tryd.prog 7 #[.int .i64 wd, .int .u64 b] w fun e w' => e = .returned (.tuple #[.int .i64 r, .bool ok]) ∧ Below w.heap.size w w'
def iBitsTo (wd n b : Int) : Prop := ∀ w, Calls Tryd.prog 8 #[.int .i64 wd, .int .i64 n] w fun e w' => e = .returned (.int .u64 b) ∧ Below w.heap.size w w'
def okTo (wd n : Int) (ok : Bool) : Prop := ∀ w, Calls Tryd.prog 10 #[.int .i64 wd, .int .i64 n] w fun e w' => e = .returned (.bool ok) ∧ Below w.heap.size w w'
def partTo (wd n : Int) (bl : Bool) (S p : Int) (ok : Bool) : Prop := ∀ w, Calls Tryd.prog 11 #[.int .i64 wd, .int .i64 n] w fun e w' => e = .returned (.tuple #[.agg #[.bool bl, .int .u64 S, .int .i64 p], .bool ok]) ∧ Below w.heap.size w w'
def makeTo (wd : Int) (bl : Bool) (S p n : Int) : Prop := ∀ w, Tab w → Calls Tryd.prog 12 #[.int .i64 wd, .agg #[.bool bl, .int .u64 S, .int .i64 p]] w fun e w' => e = .returned (.tuple #[.int .i64 n, .bool true]) ∧ Below w.heap.size w w'

def First (wd b : Int) : Prop :=
  (∃ r, iOrdTo wd b r false ∧ sOrdTo wd b r false) ∨
  (∃ r, iOrdTo wd b r true ∧ sOrdTo wd b r true ∧ iBitsTo wd r b) ∨
  (wd = 32 ∧ b = 2147483648) ∨ (wd = 64 ∧ b = 9223372036854775808)
def Second (wd n : Int) : Prop :=
  (∃ c r is, iBitsTo wd n c ∧ iOrdTo wd c r is ∧ okTo wd n false ∧ partTo wd n false 0 0 false) ∨
  (∃ c, iBitsTo wd n c ∧ iOrdTo wd c n true ∧ okTo wd n true ∧ partTo wd n false 0 0 false) ∨
  (∃ c bl S p, iBitsTo wd n c ∧ iOrdTo wd c n true ∧ okTo wd n true ∧ partTo wd n bl S p true ∧ (0 ≤ S ∧ S < 9223372036854775808 ∧ -3000 ≤ p ∧ p ≤ 3000) ∧ makeTo wd bl S p n ∧ makeTo wd bl (S * 2) (p - 1) n)

theorem first_32 (b : Int) (b0 : 0 ≤ b) (b1 : b < 18446744073709551616) : First 32 b := by
  cases k : ordB 2147483648 2139095040 b
  · refine .inl ⟨ordN 2147483648 2139095040 b, fun w => ?_, fun w => ?_⟩
    · have h := iBitOrd_32 b b0 b1 w
      rw [k] at h
      exact h
    · have h := sBitOrd_32 b b0 b1 w
      rw [k] at h
      exact h
  · obtain ⟨l, u, e | e⟩ := bits_ord 2147483648 2139095040 b b0 (by decide) (by decide) k
    · refine .inr (.inl ⟨ordN 2147483648 2139095040 b, fun w => ?_, fun w => ?_, fun w => ?_⟩)
      · have h := iBitOrd_32 b b0 b1 w
        rw [k] at h
        exact h
      · have h := sBitOrd_32 b b0 b1 w
        rw [k] at h
        exact h
      · have h := iBitBits_32 (ordN 2147483648 2139095040 b) l u w
        rw [e] at h
        exact h
    · exact .inr (.inr (.inl ⟨rfl, e⟩))
theorem alone_32 : iOrdTo 32 2147483648 0 true ∧ sOrdTo 32 2147483648 0 true ∧ iBitsTo 32 0 0 := by
  have e1 : ordN 2147483648 2139095040 2147483648 = 0 := by decide
  have e2 : ordB 2147483648 2139095040 2147483648 = true := by decide
  refine ⟨fun w => ?_, fun w => ?_, fun w => ?_⟩
  · have h := iBitOrd_32 2147483648 (by decide) (by decide) w
    rw [e1, e2] at h
    exact h
  · have h := sBitOrd_32 2147483648 (by decide) (by decide) w
    rw [e1, e2] at h
    exact h
  · have h := iBitBits_32 0 (by decide) (by decide) w
    have e3 : bitsI 2147483648 0 = 0 := by decide
    rw [e3] at h
    exact h
theorem second_32 (n : Int) : Second 32 n := by
  by_cases c : -2139095040 ≤ n ∧ n ≤ 2139095040
  · obtain ⟨e1, e2⟩ := ord_bits 2147483648 2139095040 n (by decide) c.1 c.2
    have hb : 0 ≤ bitsI 2147483648 n ∧ bitsI 2147483648 n < 18446744073709551616 := by unfold bitsI; split <;> omega
    have H1 : iBitsTo 32 n (bitsI 2147483648 n) := fun w => iBitBits_32 n c.1 c.2 w
    have H2 : iOrdTo 32 (bitsI 2147483648 n) n true := fun w => by
      have h := iBitOrd_32 (bitsI 2147483648 n) hb.1 hb.2 w
      rw [e1, e2] at h
      exact h
    have H3 : okTo 32 n true := fun w => sBitOk_32 n w c.1 c.2
    by_cases d : -2139095040 < n ∧ n < 2139095040
    · refine .inr (.inr ⟨bitsI 2147483648 n, decide (n < 0), pSize 8388608 (absI n), pPow 8388608 (-149) (absI n), H1, H2, H3, fun w => iPart_32 n d.1 d.2 w, ?_, fun w hT => made_32 n d.1 d.2 w hT, fun w hT => twice_32 n d.1 d.2 w hT⟩)
      have a0 : 0 ≤ absI n := by unfold absI; split <;> omega
      have a1 : absI n < 2139095040 := by unfold absI; split <;> omega
      have ps : 0 ≤ pSize 8388608 (absI n) ∧ pSize 8388608 (absI n) < 16777216 := by unfold pSize; split <;> omega
      have pp : -149 ≤ pPow 8388608 (-149) (absI n) ∧ pPow 8388608 (-149) (absI n) ≤ 106 := by unfold pPow; split <;> omega
      omega
    · exact .inr (.inl ⟨bitsI 2147483648 n, H1, H2, H3, fun w => iPart_32_not n d w⟩)
  · refine .inl ⟨0, ordN 2147483648 2139095040 0, ordB 2147483648 2139095040 0, fun w => iBitBits_32_out n c w, fun w => iBitOrd_32 0 (by decide) (by decide) w, fun w => sBitOk_32_out n w c, fun w => iPart_32_not n (fun h => c ⟨by omega, by omega⟩) w⟩

theorem first_64 (b : Int) (b0 : 0 ≤ b) (b1 : b < 18446744073709551616) : First 64 b := by
  cases k : ordB 9223372036854775808 9218868437227405312 b
  · refine .inl ⟨ordN 9223372036854775808 9218868437227405312 b, fun w => ?_, fun w => ?_⟩
    · have h := iBitOrd_64 b b0 b1 w
      rw [k] at h
      exact h
    · have h := sBitOrd_64 b b0 b1 w
      rw [k] at h
      exact h
  · obtain ⟨l, u, e | e⟩ := bits_ord 9223372036854775808 9218868437227405312 b b0 (by decide) (by decide) k
    · refine .inr (.inl ⟨ordN 9223372036854775808 9218868437227405312 b, fun w => ?_, fun w => ?_, fun w => ?_⟩)
      · have h := iBitOrd_64 b b0 b1 w
        rw [k] at h
        exact h
      · have h := sBitOrd_64 b b0 b1 w
        rw [k] at h
        exact h
      · have h := iBitBits_64 (ordN 9223372036854775808 9218868437227405312 b) l u w
        rw [e] at h
        exact h
    · exact .inr (.inr (.inr ⟨rfl, e⟩))
theorem alone_64 : iOrdTo 64 9223372036854775808 0 true ∧ sOrdTo 64 9223372036854775808 0 true ∧ iBitsTo 64 0 0 := by
  have e1 : ordN 9223372036854775808 9218868437227405312 9223372036854775808 = 0 := by decide
  have e2 : ordB 9223372036854775808 9218868437227405312 9223372036854775808 = true := by decide
  refine ⟨fun w => ?_, fun w => ?_, fun w => ?_⟩
  · have h := iBitOrd_64 9223372036854775808 (by decide) (by decide) w
    rw [e1, e2] at h
    exact h
  · have h := sBitOrd_64 9223372036854775808 (by decide) (by decide) w
    rw [e1, e2] at h
    exact h
  · have h := iBitBits_64 0 (by decide) (by decide) w
    have e3 : bitsI 9223372036854775808 0 = 0 := by decide
    rw [e3] at h
    exact h
theorem second_64 (n : Int) : Second 64 n := by
  by_cases c : -9218868437227405312 ≤ n ∧ n ≤ 9218868437227405312
  · obtain ⟨e1, e2⟩ := ord_bits 9223372036854775808 9218868437227405312 n (by decide) c.1 c.2
    have hb : 0 ≤ bitsI 9223372036854775808 n ∧ bitsI 9223372036854775808 n < 18446744073709551616 := by unfold bitsI; split <;> omega
    have H1 : iBitsTo 64 n (bitsI 9223372036854775808 n) := fun w => iBitBits_64 n c.1 c.2 w
    have H2 : iOrdTo 64 (bitsI 9223372036854775808 n) n true := fun w => by
      have h := iBitOrd_64 (bitsI 9223372036854775808 n) hb.1 hb.2 w
      rw [e1, e2] at h
      exact h
    have H3 : okTo 64 n true := fun w => sBitOk_64 n w c.1 c.2
    by_cases d : -9218868437227405312 < n ∧ n < 9218868437227405312
    · refine .inr (.inr ⟨bitsI 9223372036854775808 n, decide (n < 0), pSize 4503599627370496 (absI n), pPow 4503599627370496 (-1074) (absI n), H1, H2, H3, fun w => iPart_64 n d.1 d.2 w, ?_, fun w hT => made_64 n d.1 d.2 w hT, fun w hT => twice_64 n d.1 d.2 w hT⟩)
      have a0 : 0 ≤ absI n := by unfold absI; split <;> omega
      have a1 : absI n < 9218868437227405312 := by unfold absI; split <;> omega
      have ps : 0 ≤ pSize 4503599627370496 (absI n) ∧ pSize 4503599627370496 (absI n) < 9007199254740992 := by unfold pSize; split <;> omega
      have pp : -1074 ≤ pPow 4503599627370496 (-1074) (absI n) ∧ pPow 4503599627370496 (-1074) (absI n) ≤ 973 := by unfold pPow; split <;> omega
      omega
    · exact .inr (.inl ⟨bitsI 9223372036854775808 n, H1, H2, H3, fun w => iPart_64_not n d w⟩)
  · refine .inl ⟨0, ordN 9223372036854775808 9218868437227405312 0, ordB 9223372036854775808 9218868437227405312 0, fun w => iBitBits_64_out n c w, fun w => iBitOrd_64 0 (by decide) (by decide) w, fun w => sBitOk_64_out n w c, fun w => iPart_64_not n (fun h => c ⟨by omega, by omega⟩) w⟩

theorem first_any (wd b : Int) (b0 : 0 ≤ b) (b1 : b < 18446744073709551616) : First wd b := by
  by_cases c1 : wd = 32
  · subst c1; exact first_32 b b0 b1
  by_cases c2 : wd = 64
  · subst c2; exact first_64 b b0 b1
  exact .inl ⟨0, fun w => iBitOrd_no wd b c1 c2 w, fun w => sBitOrd_no wd b c1 c2 w⟩
theorem second_any (wd n : Int) : Second wd n := by
  by_cases c1 : wd = 32
  · subst c1; exact second_32 n
  by_cases c2 : wd = 64
  · subst c2; exact second_64 n
  exact .inl ⟨0, 0, false, fun w => iBitBits_no wd n c1 c2 w, fun w => iBitOrd_no wd 0 c1 c2 w, fun w => sBitOk_no wd n w c1 c2, fun w => iPart_no wd n c1 c2 w⟩
end Go.Proofs.YtljmmaaaeojbpaaDoor
