/- BitTop, BitOk and PairOk of the program and of the specification, for every width at once; nothing that was there is written. -/
import Derived.Test.YtekbhkklaogmnaaDoorW6
import Derived.Test.YtekbhkklaogmnaaDoorQ
namespace Go.Proofs.YtekbhkklaogmnaaDoor
open Go.RowKit


theorem iTop (wd : Int) (w : World) :
    Calls Tryd.prog 40 #[.int .i64 wd] w fun e w' => e = .returned (.int .i64 (topI wd)) ∧ Below w.heap.size w w' := by
  by_cases c1 : wd = 32
  · subst c1; exact iBitTop_32 w
  by_cases c2 : wd = 64
  · subst c2; exact iBitTop_64 w
  rw [topI_no c1 c2]; exact iBitTop_no wd w c1 c2
theorem sTopR (wd : Int) (w : World) :
    Calls Tryd.prog 20 #[.int .i64 wd] w fun e w' => e = .returned (.int .i64 (topI wd)) ∧ w' = w := by
  by_cases c1 : wd = 32
  · subst c1; exact sBitTop_32 w
  by_cases c2 : wd = 64
  · subst c2; exact sBitTop_64 w
  rw [topI_no c1 c2]; exact sBitTop_no wd w c1 c2
theorem iOk (wd n : Int) (w : World) :
    Calls Tryd.prog 41 #[.int .i64 wd, .int .i64 n] w fun e w' => e = .returned (.bool (okB wd n)) ∧ Below w.heap.size w w' := by
  by_cases c1 : wd = 32
  · subst c1; rw [okB_32]
    by_cases h : -2139095040 ≤ n ∧ n ≤ 2139095040
    · rw [decide_eq_true h]; exact iBitOk_32 n h.1 h.2 w
    · rw [decide_eq_false h]; exact iBitOk_32_out n h w
  by_cases c2 : wd = 64
  · subst c2; rw [okB_64]
    by_cases h : -9218868437227405312 ≤ n ∧ n ≤ 9218868437227405312
    · rw [decide_eq_true h]; exact iBitOk_64 n h.1 h.2 w
    · rw [decide_eq_false h]; exact iBitOk_64_out n h w
  rw [okB_no n c1 c2]; exact iBitOk_no wd n c1 c2 w
theorem sOk (wd n : Int) (w : World) :
    Calls Tryd.prog 32 #[.int .i64 wd, .int .i64 n] w fun e w' => e = .returned (.bool (okB wd n)) ∧ Below w.heap.size w w' := by
  by_cases c1 : wd = 32
  · subst c1; rw [okB_32]
    by_cases h : -2139095040 ≤ n ∧ n ≤ 2139095040
    · rw [decide_eq_true h]; exact sBitOk_32 n w h.1 h.2
    · rw [decide_eq_false h]; exact sBitOk_32_out n w h
  by_cases c2 : wd = 64
  · subst c2; rw [okB_64]
    by_cases h : -9218868437227405312 ≤ n ∧ n ≤ 9218868437227405312
    · rw [decide_eq_true h]; exact sBitOk_64 n w h.1 h.2
    · rw [decide_eq_false h]; exact sBitOk_64_out n w h
  rw [okB_no n c1 c2]; exact sBitOk_no wd n w c1 c2

set_option maxHeartbeats 800000 in
theorem iPairOk (wd lo hi : Int) (w : World) :
    Calls Tryd.prog 35 #[.int .i64 wd, .agg #[.int .i64 lo, .int .i64 hi]] w fun e w' => e = .returned (.bool (pokB wd lo hi)) ∧ Below w.heap.size w w' := by
  have c0 : (w.alloc (.cells #[.int .i64 lo, .int .i64 hi] 39)).cell? ⟨w.heap.size, 0, none⟩ = some (.int .i64 lo) := by simp
  have c1 : (w.alloc (.cells #[.int .i64 lo, .int .i64 hi] 39)).cell? ⟨w.heap.size, 1, none⟩ = some (.int .i64 hi) := by simp
  obtain ⟨T1, T2⟩ := topI_bd wd
  have H1 := hd (iOk wd lo)
  have H2 := hd (iOk wd hi)
  have H0 := hd (iTop wd)
  have hp : Hid (pokB wd lo hi = (okB wd lo && (okB wd hi && (decide (lo ≤ hi) && ((lo != topI wd) && (hi != -topI wd)))))) := rfl
  generalize topI wd = T at *
  generalize okB wd lo = b1 at *
  generalize okB wd hi = b2 at *
  generalize pokB wd lo hi = r at *
  go_enter Tryd.func35, Tryd.ntmps35
  go_wp2_with fail
  refine (H0.out _).mono ?_
  rintro e w1 ⟨rfl, hb1⟩
  replace c0 := cell_later hb1 c0
  replace c1 := cell_later hb1 c1
  go_wp2_with fail
  refine (H1.out _).mono ?_
  rintro e w2 ⟨rfl, hb2⟩
  replace c0 := cell_later hb2 c0
  replace c1 := cell_later hb2 c1
  cases b1
  · go_wp2
    go_ret
    exact ⟨ret_b (by rw [hp.out]; rfl), (by repeat (first | exact Below.refl _ _ | refine Below.drew ?_ | refine old_alloc ?_ _ | refine old_trans ?_ (by assumption)))⟩
  go_wp2_with fail
  refine (H2.out _).mono ?_
  rintro e w3 ⟨rfl, hb3⟩
  replace c0 := cell_later hb3 c0
  replace c1 := cell_later hb3 c1
  cases b2
  · go_wp2
    go_ret
    exact ⟨ret_b (by rw [hp.out]; rfl), (by repeat (first | exact Below.refl _ _ | refine Below.drew ?_ | refine old_alloc ?_ _ | refine old_trans ?_ (by assumption)))⟩
  by_cases t1 : lo ≤ hi
  · by_cases t2 : (lo != T) = true
    · go_wp2
      all_goals
        go_ret
        refine ⟨ret_b ?_, (by repeat (first | exact Below.refl _ _ | refine Below.drew ?_ | refine old_alloc ?_ _ | refine old_trans ?_ (by assumption)))⟩
        rw [hp.out]; simp [*]
    · replace t2 : (lo != T) = false := by simpa using t2
      go_wp2
      go_ret
      exact ⟨ret_b (by rw [hp.out, t2]; simp), (by repeat (first | exact Below.refl _ _ | refine Below.drew ?_ | refine old_alloc ?_ _ | refine old_trans ?_ (by assumption)))⟩
  · have t3 : decide (lo ≤ hi) = false := by simpa using t1
    go_wp2
    go_ret
    exact ⟨ret_b (by rw [hp.out, t3]; rfl), (by repeat (first | exact Below.refl _ _ | refine Below.drew ?_ | refine old_alloc ?_ _ | refine old_trans ?_ (by assumption)))⟩
end Go.Proofs.YtekbhkklaogmnaaDoor
