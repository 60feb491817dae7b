/- More plain facts: old cells behind a call, masks and sums of bits, the size and the power of a part. -/
import Derived.WalkKit
import Derived.Laws.BitsAllLaws
namespace Go.Proofs.YtlggbihdmabifaaGreatDoor

/-- the size of a part, and its power, of a float that is s steps from 0 -/
def pSize (U s : Int) : Int := if s < U then s else U + s % U
def pPow (U L s : Int) : Int := if s < U then L else L + (s / U - 1)
end Go.Proofs.YtlggbihdmabifaaGreatDoor

/- Plain words for pairs: the top of a width, what an order number is, what an ok pair is. No condition. -/
namespace Go.Proofs.YtlggbihdmabifaaGreatDoor

def topI (wd : Int) : Int := if wd = 32 then 2139095040 else if wd = 64 then 9218868437227405312 else 0
def okB (wd n : Int) : Bool := decide ((wd = 32 ∨ wd = 64) ∧ -topI wd ≤ n ∧ n ≤ topI wd)
def pokB (wd lo hi : Int) : Bool := okB wd lo && (okB wd hi && (decide (lo ≤ hi) && ((lo != topI wd) && (hi != -topI wd))))

theorem topI_32 : topI 32 = 2139095040 := rfl
theorem topI_64 : topI 64 = 9218868437227405312 := rfl
theorem topI_no {wd : Int} (h1 : wd ≠ 32) (h2 : wd ≠ 64) : topI wd = 0 := by unfold topI; rw [if_neg h1, if_neg h2]
theorem topI_bd (wd : Int) : 0 ≤ topI wd ∧ topI wd ≤ 9218868437227405312 := by unfold topI; split <;> (try split) <;> omega
theorem okB_in {wd n : Int} (h : okB wd n = true) : (wd = 32 ∨ wd = 64) ∧ -topI wd ≤ n ∧ n ≤ topI wd := by unfold okB at h; exact of_decide_eq_true h
theorem okB_32 (n : Int) : okB 32 n = decide (-2139095040 ≤ n ∧ n ≤ 2139095040) := by unfold okB; simp [topI_32]
theorem okB_64 (n : Int) : okB 64 n = decide (-9218868437227405312 ≤ n ∧ n ≤ 9218868437227405312) := by unfold okB; simp [topI_64]
theorem okB_no {wd : Int} (n : Int) (h1 : wd ≠ 32) (h2 : wd ≠ 64) : okB wd n = false := by unfold okB; simp [h1, h2]
theorem pokB_in {wd lo hi : Int} (h : pokB wd lo hi = true) : okB wd lo = true ∧ okB wd hi = true ∧ lo ≤ hi ∧ lo < topI wd ∧ -topI wd < hi := by
  unfold pokB at h
  simp only [Bool.and_eq_true, decide_eq_true_eq, bne_iff_ne] at h
  obtain ⟨h1, h2, h3, h4, h5⟩ := h
  have := okB_in h1; have := okB_in h2
  exact ⟨h1, h2, h3, by omega, by omega⟩
/-- both answers of a test as one word -/
theorem ret_b {b c : Bool} (h : b = c) : Ending.returned (.bool b) = .returned (.bool c) := by rw [h]
end Go.Proofs.YtlggbihdmabifaaGreatDoor
