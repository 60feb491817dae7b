/- Powers, by the specification. No condition. -/
import Derived.Test.YtpamnpdigoikoaaDoorNO
import Derived.Test.YtpamnpdigoikoaaDoorNK
namespace Go.Proofs.YtpamnpdigoikoaaDoor
open Go.RowKit
set_option linter.unusedVariables false
set_option maxRecDepth 100000

def powB (xs : List Int) (n : Int) : Bool := natOk xs && (decide (0 ≤ n ∧ n ≤ 64) && fitsB (val xs ^ n.toNat))
theorem fits_lt {v : Nat} : fitsB v = true ↔ v < 65536 ^ 256 := by unfold fitsB; rw [decide_eq_true_eq, natL_len]
theorem fits_no {v : Nat} (h : ¬ (natL v).length ≤ 256) : fitsB v = false := by unfold fitsB; exact decide_eq_false h
theorem pow_up {V m n : Nat} (h : ¬ (natL (V ^ m)).length ≤ 256) (hm : m ≤ n) : fitsB (V ^ n) = false := by
  rw [natL_len] at h
  have h0 : 0 < V := by
    rcases Nat.eq_zero_or_pos V with e | e
    · subst e
      exfalso
      apply h
      have h1 : 0 ^ m ≤ 1 := by cases m <;> simp
      have h2 : 1 < 65536 ^ 256 := by exact Nat.one_lt_pow (by omega) (by omega)
      omega
    · exact e
  have := Nat.pow_le_pow_right h0 hm
  refine fits_no ?_
  rw [natL_len]
  omega
theorem powB_fits {xs : List Int} {n : Int} (h : powB xs n = true) : fitsB (val xs ^ n.toNat) = true := by
  unfold powB at h
  simp only [Bool.and_eq_true] at h
  exact h.2.2
theorem one_row (w : World) (b : Nat) (hb : b = w.heap.size) (t : TypeId) : IRow (w.alloc (.cells #[.int .i64 1] t)) b (natL (1 : Nat)) := by
  have e : natL 1 = [1] := by rw [natL_pos (by omega), show 1 / 65536 = 0 by decide, natL_zero]; rfl
  subst hb
  rw [e]
  refine ⟨by simp, fun i hi => ?_⟩
  have : i = 0 := by simpa using hi
  subst this
  exact ⟨by simp, by simp⟩
theorem one_oi (w : World) (t : TypeId) : OI (w.alloc (.cells #[.int .i64 1] t)) w.heap.size (some ⟨w.heap.size, 0, none⟩) 1 (natL (1 : Nat)) := by
  have e : natL 1 = [1] := by rw [natL_pos (by omega), show 1 / 65536 = 0 by decide, natL_zero]; rfl
  exact ⟨natL_fits _, by rw [e]; simp, by decide, .inr ⟨_, rfl, Nat.le_refl _, one_row w _ rfl t⟩⟩
theorem one_len : (natL 1).length = 1 := by rw [natL_pos (by omega), show 1 / 65536 = 0 by decide, natL_zero]; rfl
end Go.Proofs.YtpamnpdigoikoaaDoor
