/- PairOk of the specification; inner, PairIs, PairMeet and PairHull of both, at all pairs; nothing that was there is written. -/
import Derived.Test.YtlggbihdmabifaaGreatDoorPK20
import Derived.Deep.RegionWith
namespace Go.Proofs.YtlggbihdmabifaaGreatDoor
open Go.RowKit

set_option maxHeartbeats 800000 in
theorem sPairOk (wd lo hi : Int) (w : World) :
    Calls Tryz.prog 25 #[.int .i64 wd, .agg #[.int .i64 lo, .int .i64 hi]] w fun e w' => e = .returned (.bool (pokB wd lo hi)) ∧ Below w.heap.size w w' := by
  have c0 : (w.alloc (.cells #[.int .i64 lo, .int .i64 hi] 46)).cell? ⟨w.heap.size, 0, none⟩ = some (.int .i64 lo) := by simp
  have c1 : (w.alloc (.cells #[.int .i64 lo, .int .i64 hi] 46)).cell? ⟨w.heap.size, 1, none⟩ = some (.int .i64 hi) := by simp
  obtain ⟨T1, T2⟩ := topI_bd wd
  have H1 := hd (sOk wd lo)
  have H2 := hd (sOk wd hi)
  have H0 := hd (sTopR wd)
  have hp : Hid (pokB wd lo hi = (okB wd lo && (okB wd hi && (decide (lo ≤ hi) && ((lo != topI wd) && (hi != -topI wd)))))) := rfl
  have k1 : Hid (okB wd lo = true → -topI wd ≤ lo ∧ lo ≤ topI wd) := fun h => (okB_in h).2
  have k2 : Hid (okB wd hi = true → -topI wd ≤ hi ∧ hi ≤ topI wd) := fun h => (okB_in h).2
  generalize topI wd = T at *
  generalize okB wd lo = b1 at *
  generalize okB wd hi = b2 at *
  generalize pokB wd lo hi = r at *
  go_enter Tryz.func25, Tryz.ntmps25
  go_wp2_with fail
  refine (H0.out _).mono ?_
  rintro e w1 ⟨rfl, rfl⟩
  go_wp2_with fail
  refine (H1.out _).mono ?_
  rintro e w2 ⟨rfl, hb2⟩
  replace c0 := cell_later hb2 c0
  replace c1 := cell_later hb2 c1
  cases b1
  · go_wp2
    go_ret
    exact ⟨ret_b (by rw [hp.out]; rfl), (by repeat (first | exact Below.refl _ _ | refine Below.drew ?_ | refine old_alloc ?_ _ | refine old_trans ?_ (by assumption)))⟩
  go_wp2_with fail
  refine (H2.out _).mono ?_
  rintro e w3 ⟨rfl, hb3⟩
  replace c0 := cell_later hb3 c0
  replace c1 := cell_later hb3 c1
  cases b2
  · go_wp2
    go_ret
    exact ⟨ret_b (by rw [hp.out]; rfl), (by repeat (first | exact Below.refl _ _ | refine Below.drew ?_ | refine old_alloc ?_ _ | refine old_trans ?_ (by assumption)))⟩
  obtain ⟨l1, l2⟩ := k1.out (by simp)
  obtain ⟨l3, l4⟩ := k2.out (by simp)
  by_cases t1 : lo ≤ hi
  · by_cases t2 : lo < T
    · have e1 : Hid ((lo != T) = true) := by show _ = _; rw [bne_iff_ne]; omega
      go_wp2
      all_goals
        go_ret
        refine ⟨ret_b ?_, (by repeat (first | exact Below.refl _ _ | refine Below.drew ?_ | refine old_alloc ?_ _ | refine old_trans ?_ (by assumption)))⟩
        rw [hp.out, e1.out, decide_eq_true t1, Bool.eq_iff_iff]
        simp only [Bool.true_and, decide_eq_true_eq, bne_iff_ne]
        omega
    · have t3 : decide (lo < T) = false := by simpa using t2
      have e1 : Hid ((lo != T) = false) := by show _ = _; simp; omega
      go_wp2
      go_ret
      exact ⟨ret_b (by rw [hp.out, e1.out]; simp), (by repeat (first | exact Below.refl _ _ | refine Below.drew ?_ | refine old_alloc ?_ _ | refine old_trans ?_ (by assumption)))⟩
  · have t3 : decide (lo ≤ hi) = false := by simpa using t1
    go_wp2
    go_ret
    exact ⟨ret_b (by rw [hp.out, t3]; rfl), (by repeat (first | exact Below.refl _ _ | refine Below.drew ?_ | refine old_alloc ?_ _ | refine old_trans ?_ (by assumption)))⟩

theorem ret_p {a b a' b' : Int} (h : a = a') (g : b = b') : Ending.returned (.agg #[.int .i64 a, .int .i64 b]) = .returned (.agg #[.int .i64 a', .int .i64 b']) := by rw [h, g]
set_option maxHeartbeats 400000 in
theorem iInner (a b c d : Int) (w : World) :
    Calls Tryz.prog 54 #[.agg #[.int .i64 a, .int .i64 b], .agg #[.int .i64 c, .int .i64 d]] w fun e w' => e = .returned (.agg #[.int .i64 (max a c), .int .i64 (min b d)]) ∧ Below w.heap.size w w' := by
  go_enter Tryz.func54, Tryz.ntmps54
  go_wp2
  all_goals
    refine bodyPost_ret (v := .agg #[.int .i64 _, .int .i64 _]) (by simp [results, Tryz.results54, go_sem]; exact ⟨rfl, rfl⟩) rfl ⟨ret_p ?_ ?_, (by repeat (first | exact Below.refl _ _ | refine Below.drew ?_ | refine Below.setCell ?_ (by first | (simp; done) | omega | (simp; omega)) _ | refine old_alloc ?_ _ | refine old_trans ?_ (by assumption)))⟩
    · first | rfl | omega
    · first | rfl | omega

theorem eql_pair (a b c d : Int) (w : World) : (binOp .eql 46 (.agg #[.int .i64 a, .int .i64 b]) (.agg #[.int .i64 c, .int .i64 d])).run Tryz.prog w = .ok (.bool (a == c && b == d)) w := by
  have hu : Tryz.prog.underlying 46 = some (.struct (Tryz.prog.fieldsOf 46)) := by kernel_rfl
  have hs : Tryz.prog.stoodInHeld 46 = false := by kernel_rfl
  rw [run_eql_struct, run_equalIn_agg w 9999 46 _ _ hu hs]
  simp [go_sem]
  split <;> (try split) <;> simp [*]
def isB (a b c d : Int) : Bool := decide (c ≤ a ∧ b ≤ d)
set_option maxHeartbeats 400000 in
theorem iPairIs (a b c d : Int) (w : World) :
    Calls Tryz.prog 37 #[.agg #[.int .i64 a, .int .i64 b], .agg #[.int .i64 c, .int .i64 d]] w fun e w' => e = .returned (.bool (isB a b c d)) ∧ Below w.heap.size w w' := by
  have c0 : ((w.alloc (.cells #[.int .i64 a, .int .i64 b] 46)).alloc (.cells #[.int .i64 c, .int .i64 d] 46)).cell? ⟨w.heap.size, 0, none⟩ = some (.int .i64 a) := by simp
  have c1 : ((w.alloc (.cells #[.int .i64 a, .int .i64 b] 46)).alloc (.cells #[.int .i64 c, .int .i64 d] 46)).cell? ⟨w.heap.size, 1, none⟩ = some (.int .i64 b) := by simp
  have H := hd (iInner a b c d)
  have he : Hid ((max a c == a && min b d == b) = isB a b c d) := by
    show _ = _
    unfold isB
    rw [Bool.eq_iff_iff]
    simp only [Bool.and_eq_true, beq_iff_eq, decide_eq_true_eq]
    omega
  generalize max a c = x at *
  generalize min b d = y at *
  have q := fun w => eql_pair x y a b w
  rw [he.out] at q
  generalize isB a b c d = r at *
  go_enter Tryz.func37, Tryz.ntmps37
  go_wp2
  go_region_with (go_at_call 54; refine (H.out _).mono ?_; rintro e w1 ⟨rfl, hb1⟩; have d0 := cell_later hb1 c0; have d1 := cell_later hb1 c1)
  all_goals
    go_wp2
    go_ret
    exact ⟨rfl, (by repeat (first | exact Below.refl _ _ | refine Below.drew ?_ | refine old_alloc ?_ _ | refine old_trans ?_ (by assumption)))⟩
end Go.Proofs.YtlggbihdmabifaaGreatDoor
