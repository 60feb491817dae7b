/- PairOk of the specification; inner, PairIs, PairMeet and PairHull of both, at all pairs; nothing that was there is written. -/
import Derived.Test.YtpnfkigeagbhpaaPK03
import Derived.Deep.RegionWith
namespace Go.Proofs.Ytpnfkigeagbhpaa
open Go.RowKit

set_option maxHeartbeats 800000 in
theorem sPairOk (wd lo hi : Int) (w : World) :
    Calls Try.prog 31 #[.int .i64 wd, .agg #[.int .i64 lo, .int .i64 hi]] w fun e w' => e = .returned (.bool (pokB wd lo hi)) ∧ Below w.heap.size w w' := by
  have c0 : (w.alloc (.cells #[.int .i64 lo, .int .i64 hi] 42)).cell? ⟨w.heap.size, 0, none⟩ = some (.int .i64 lo) := by simp
  have c1 : (w.alloc (.cells #[.int .i64 lo, .int .i64 hi] 42)).cell? ⟨w.heap.size, 1, none⟩ = some (.int .i64 hi) := by simp
  obtain ⟨T1, T2⟩ := topI_bd wd
  have H1 := hd (sOk wd lo)
  have H2 := hd (sOk wd hi)
  have H0 := hd (sTopR wd)
  have hp : Hid (pokB wd lo hi = (okB wd lo && (okB wd hi && (decide (lo ≤ hi) && ((lo != topI wd) && (hi != -topI wd)))))) := rfl
  have k1 : Hid (okB wd lo = true → -topI wd ≤ lo ∧ lo ≤ topI wd) := fun h => (okB_in h).2
  have k2 : Hid (okB wd hi = true → -topI wd ≤ hi ∧ hi ≤ topI wd) := fun h => (okB_in h).2
  generalize topI wd = T at *
  generalize okB wd lo = b1 at *
  generalize okB wd hi = b2 at *
  generalize pokB wd lo hi = r at *
  go_enter Try.func31, Try.ntmps31
  go_wp2_with fail
  refine (H0.out _).mono ?_
  rintro e w1 ⟨rfl, rfl⟩
  go_wp2_with fail
  refine (H1.out _).mono ?_
  rintro e w2 ⟨rfl, hb2⟩
  replace c0 := cell_later hb2 c0
  replace c1 := cell_later hb2 c1
  cases b1
  · go_wp2
    go_ret
    exact ⟨ret_b (by rw [hp.out]; rfl), (by repeat (first | exact Below.refl _ _ | refine Below.drew ?_ | refine old_alloc ?_ _ | refine old_trans ?_ (by assumption)))⟩
  go_wp2_with fail
  refine (H2.out _).mono ?_
  rintro e w3 ⟨rfl, hb3⟩
  replace c0 := cell_later hb3 c0
  replace c1 := cell_later hb3 c1
  cases b2
  · go_wp2
    go_ret
    exact ⟨ret_b (by rw [hp.out]; rfl), (by repeat (first | exact Below.refl _ _ | refine Below.drew ?_ | refine old_alloc ?_ _ | refine old_trans ?_ (by assumption)))⟩
  obtain ⟨l1, l2⟩ := k1.out (by simp)
  obtain ⟨l3, l4⟩ := k2.out (by simp)
  by_cases t1 : lo ≤ hi
  · by_cases t2 : lo < T
    · have e1 : Hid ((lo != T) = true) := by show _ = _; rw [bne_iff_ne]; omega
      go_wp2
      all_goals
        go_ret
        refine ⟨ret_b ?_, (by repeat (first | exact Below.refl _ _ | refine Below.drew ?_ | refine old_alloc ?_ _ | refine old_trans ?_ (by assumption)))⟩
        rw [hp.out, e1.out, decide_eq_true t1, Bool.eq_iff_iff]
        simp only [Bool.true_and, decide_eq_true_eq, bne_iff_ne]
        omega
    · have t3 : decide (lo < T) = false := by simpa using t2
      have e1 : Hid ((lo != T) = false) := by show _ = _; simp; omega
      go_wp2
      go_ret
      exact ⟨ret_b (by rw [hp.out, e1.out]; simp), (by repeat (first | exact Below.refl _ _ | refine Below.drew ?_ | refine old_alloc ?_ _ | refine old_trans ?_ (by assumption)))⟩
  · have t3 : decide (lo ≤ hi) = false := by simpa using t1
    go_wp2
    go_ret
    exact ⟨ret_b (by rw [hp.out, t3]; rfl), (by repeat (first | exact Below.refl _ _ | refine Below.drew ?_ | refine old_alloc ?_ _ | refine old_trans ?_ (by assumption)))⟩

end Go.Proofs.Ytpnfkigeagbhpaa
