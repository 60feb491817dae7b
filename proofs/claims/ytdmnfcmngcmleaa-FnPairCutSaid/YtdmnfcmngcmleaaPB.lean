/- Bounds of pairs that are ones. No condition. -/
import Derived.Test.YtdmnfcmngcmleaaR9
import Derived.Deep.RegionHeld3
namespace Go.Proofs.Ytdmnfcmngcmleaa
theorem pokB_bd' {wd a b : Int} (h : pokB wd a b = true) : (-9218868437227405312 ≤ a ∧ a ≤ 9218868437227405312) ∧ -9218868437227405312 ≤ b ∧ b ≤ 9218868437227405312 := by
  have h1 := pokB_in h
  exact ⟨okB_bd h1.1, okB_bd h1.2.1⟩
theorem okB_mid {wd a b m : Int} (h1 : okB wd a = true) (h2 : okB wd b = true) (ha : a ≤ m) (hb : m ≤ b) : okB wd m = true := by
  have k1 := okB_in h1
  have k2 := okB_in h2
  unfold okB
  simp only [decide_eq_true_eq]
  exact ⟨k1.1, by omega, by omega⟩
theorem meetB_comm (wd a b c d : Int) : meetB wd c d a b = meetB wd a b c d := by
  unfold meetB
  rw [Int.max_comm c a, Int.min_comm d b]
  cases pokB wd a b <;> cases pokB wd c d <;> rfl
theorem hullB_comm (wd a b c d : Int) : hullB wd c d a b = hullB wd a b c d := by
  unfold hullB
  cases pokB wd a b <;> cases pokB wd c d <;> rfl
theorem pok_hull {wd a b c d : Int} (h1 : pokB wd a b = true) (h2 : pokB wd c d = true) : pokB wd (min a c) (max b d) = true := by
  have k1 := pokB_in h1
  have k2 := pokB_in h2
  have e1 := (okB_in k1.1).2
  have e2 := (okB_in k2.1).2
  have e3 := (okB_in k1.2.1).2
  have e4 := (okB_in k2.2.1).2
  refine pokB_mk ?_ ?_ (by omega) (by omega) (by omega)
  · unfold okB; simp only [decide_eq_true_eq]; exact ⟨(okB_in k1.1).1, by omega, by omega⟩
  · unfold okB; simp only [decide_eq_true_eq]; exact ⟨(okB_in k1.1).1, by omega, by omega⟩
end Go.Proofs.Ytdmnfcmngcmleaa
