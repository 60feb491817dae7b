/- Plain functions and facts of numbers for chapters 1 and 2: what the small functions answer, and a few operations on bits as sums. No condition but the ranges named. -/
import Derived.WalkKit
import Derived.Laws.BitsAllLaws
namespace Go.Proofs.Ytpnfkigeagbhpaa

theorem ret_int {k : IntKind} {a b : Int} (h : a = b) : Ending.returned (.int k a) = .returned (.int k b) := by rw [h]
end Go.Proofs.Ytpnfkigeagbhpaa

/- Plain words for pairs: the top of a width, what an order number is, what an ok pair is. No condition. -/
namespace Go.Proofs.Ytpnfkigeagbhpaa

def topI (wd : Int) : Int := if wd = 32 then 2139095040 else if wd = 64 then 9218868437227405312 else 0
def okB (wd n : Int) : Bool := decide ((wd = 32 ∨ wd = 64) ∧ -topI wd ≤ n ∧ n ≤ topI wd)
def pokB (wd lo hi : Int) : Bool := okB wd lo && (okB wd hi && (decide (lo ≤ hi) && ((lo != topI wd) && (hi != -topI wd))))

theorem topI_32 : topI 32 = 2139095040 := rfl
theorem topI_64 : topI 64 = 9218868437227405312 := rfl
theorem topI_no {wd : Int} (h1 : wd ≠ 32) (h2 : wd ≠ 64) : topI wd = 0 := by unfold topI; rw [if_neg h1, if_neg h2]
theorem topI_bd (wd : Int) : 0 ≤ topI wd ∧ topI wd ≤ 9218868437227405312 := by unfold topI; split <;> (try split) <;> omega
theorem okB_in {wd n : Int} (h : okB wd n = true) : (wd = 32 ∨ wd = 64) ∧ -topI wd ≤ n ∧ n ≤ topI wd := by unfold okB at h; exact of_decide_eq_true h
theorem okB_bd {wd n : Int} (h : okB wd n = true) : -9218868437227405312 ≤ n ∧ n ≤ 9218868437227405312 := by
  have := okB_in h; have := topI_bd wd; omega
theorem okB_32 (n : Int) : okB 32 n = decide (-2139095040 ≤ n ∧ n ≤ 2139095040) := by unfold okB; simp [topI_32]
theorem okB_64 (n : Int) : okB 64 n = decide (-9218868437227405312 ≤ n ∧ n ≤ 9218868437227405312) := by unfold okB; simp [topI_64]
theorem okB_no {wd : Int} (n : Int) (h1 : wd ≠ 32) (h2 : wd ≠ 64) : okB wd n = false := by unfold okB; simp [h1, h2]
theorem pokB_in {wd lo hi : Int} (h : pokB wd lo hi = true) : okB wd lo = true ∧ okB wd hi = true ∧ lo ≤ hi ∧ lo < topI wd ∧ -topI wd < hi := by
  unfold pokB at h
  simp only [Bool.and_eq_true, decide_eq_true_eq, bne_iff_ne] at h
  obtain ⟨h1, h2, h3, h4, h5⟩ := h
  have := okB_in h1; have := okB_in h2
  exact ⟨h1, h2, h3, by omega, by omega⟩
theorem pokB_mk {wd lo hi : Int} (h1 : okB wd lo = true) (h2 : okB wd hi = true) (h3 : lo ≤ hi) (h4 : lo < topI wd) (h5 : -topI wd < hi) : pokB wd lo hi = true := by
  unfold pokB
  simp only [Bool.and_eq_true, decide_eq_true_eq, bne_iff_ne]
  exact ⟨h1, h2, h3, by omega, by omega⟩
/-- both answers of a test as one word -/
theorem ret_b {b c : Bool} (h : b = c) : Ending.returned (.bool b) = .returned (.bool c) := by rw [h]
end Go.Proofs.Ytpnfkigeagbhpaa

/- More plain facts: old cells behind a call, masks and sums of bits, the size and the power of a part. -/
namespace Go.Proofs.Ytpnfkigeagbhpaa

theorem bcell {W w1 : World} (hb : Go.RowKit.Below W.heap.size W w1) : (∀ b o, b < W.heap.size → w1.cell? ⟨b, o, none⟩ = W.cell? ⟨b, o, none⟩) ∧ (∀ b o, b < W.heap.size → w1.frozen? ⟨b, o, none⟩ = W.frozen? ⟨b, o, none⟩) :=
  ⟨fun b o h => hb.cell (p := ⟨b, o, none⟩) h, fun b o h => hb.frozen (p := ⟨b, o, none⟩) h⟩

end Go.Proofs.Ytpnfkigeagbhpaa
