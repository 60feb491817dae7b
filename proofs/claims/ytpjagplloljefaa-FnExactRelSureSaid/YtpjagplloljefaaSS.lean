/- Spans: what both have, turned at nought, without sign, the lesser and the greater, by the specification. Nothing that was there is written. -/
import Derived.Test.YtpjagplloljefaaS8
import Derived.Deep.DeepCutAuto
namespace Go.Proofs.Ytpjagplloljefaa
open Go.RowKit
set_option linter.unusedVariables false

theorem both_eq (wd : Int) (s1 s2 : Bool) (a b c d : Int) : (sokB wd s1 a b && (sokB wd s2 c d && (s1 && s2))) = bothB wd s1 s2 a b c d := by
  unfold bothB sokB
  cases s1 <;> cases s2 <;> simp
set_option maxHeartbeats 2000000 in
theorem sBoth (wd : Int) (s1 s2 : Bool) (a b c d : Int) (w : World) :
    Calls Try.prog 16 #[.int .i64 wd, .agg #[.bool s1, .int .i64 a, .int .i64 b], .agg #[.bool s2, .int .i64 c, .int .i64 d]] w fun e w' => e = .returned (.bool (bothB wd s1 s2 a b c d)) ∧ Below w.heap.size w w' := by
  have H1 := hd (sSpanOk wd s1 a b)
  have H2 := hd (sSpanOk wd s2 c d)
  rw [← both_eq]
  generalize sokB wd s1 a b = q1 at *
  generalize sokB wd s2 c d = q2 at *
  have K := (S3.made w _ rfl (.bool s1) (.int .i64 a) (.int .i64 b) 25).alloc (.cells #[.bool s2, .int .i64 c, .int .i64 d] 25)
  have M := S3.made (w.alloc (.cells #[.bool s1, .int .i64 a, .int .i64 b] 25)) (w.heap.size + 1) (by simp) (.bool s2) (.int .i64 c) (.int .i64 d) 25
  go_enter Try.func16, Try.ntmps16
  go_wp2_with fail
  refine (H1.out _).mono ?_
  rintro e w1 ⟨rfl, hb1⟩
  replace K := K.later hb1
  replace M := M.later hb1
  obtain ⟨⟨m0, m1, m2⟩, -, -⟩ := id M
  cases q1
  · go_wp2
    go_ret
    exact ⟨rfl, (by repeat (first | exact Below.refl _ _ | refine Below.drew ?_ | refine Below.setCell ?_ (by first | (simp; done) | omega | (simp; omega)) _ | refine old_alloc ?_ _ | refine old_trans ?_ (by assumption)))⟩
  go_wp2_with fail
  refine (H2.out _).mono ?_
  rintro e w2 ⟨rfl, hb2⟩
  replace K := K.later hb2
  replace M := M.later hb2
  clear m0 m1 m2
  obtain ⟨⟨k0, k1, k2⟩, -, -⟩ := id K
  obtain ⟨⟨m0, m1, m2⟩, -, -⟩ := id M
  cases q2
  · go_wp2
    go_ret
    exact ⟨rfl, (by repeat (first | exact Below.refl _ _ | refine Below.drew ?_ | refine Below.setCell ?_ (by first | (simp; done) | omega | (simp; omega)) _ | refine old_alloc ?_ _ | refine old_trans ?_ (by assumption)))⟩
  cases s1
  · go_wp2
    go_ret
    exact ⟨rfl, (by repeat (first | exact Below.refl _ _ | refine Below.drew ?_ | refine Below.setCell ?_ (by first | (simp; done) | omega | (simp; omega)) _ | refine old_alloc ?_ _ | refine old_trans ?_ (by assumption)))⟩
  go_wp2
  go_ret
  exact ⟨ret_b (by simp), (by repeat (first | exact Below.refl _ _ | refine Below.drew ?_ | refine Below.setCell ?_ (by first | (simp; done) | omega | (simp; omega)) _ | refine old_alloc ?_ _ | refine old_trans ?_ (by assumption)))⟩
theorem both1' {wd : Int} {s : Bool} {a b : Int} {r : Bool} (hr : (bothB wd s s a b a b && true) = r) (h : r = true) : pokB wd a b = true := by
  rw [← hr, Bool.and_true] at h
  unfold bothB at h
  simp only [Bool.and_eq_true] at h
  exact h.1.2
theorem abs_pos {a b : Int} (h : 0 ≤ a) (hab : a ≤ b) : absLo a b = a ∧ absHi a b = b := by unfold absLo absHi; omega
theorem abs_neg {a b : Int} (h : b ≤ 0) (h0 : a < 0) (hab : a ≤ b) : absLo a b = -b ∧ absHi a b = -a := by unfold absLo absHi; omega
theorem abs_mid {a b : Int} (h : 0 < b) (h0 : a < 0) : absLo a b = 0 ∧ absHi a b = max (-a) b := by unfold absLo absHi; omega
theorem sok_no {wd a b : Int} (h : sokB wd false a b = true) : a = 0 ∧ b = 0 := sok_none rfl h
end Go.Proofs.Ytpjagplloljefaa
