/- Contracts of BitUp and BitDown, of the program and of the specification: both answer the same; nothing that was there is written. -/
import Derived.Test.YtekbhkklaogmnaaDoorPK01
import Derived.Test.YtekbhkklaogmnaaDoorPK04
namespace Go.Proofs.YtekbhkklaogmnaaDoor
open Go.RowKit


set_option maxHeartbeats 800000 in
theorem iBitOk_32 (n : Int) (h1 : -2139095040 ≤ n) (h2 : n ≤ 2139095040) (w : World) :
    Calls Tryd.prog 41 #[.int .i64 32, .int .i64 n] w fun e w' => e = .returned (.bool true) ∧ Below w.heap.size w w' := by
  go_enter Tryd.func41, Tryd.ntmps41
  go_wp2_with (go_at_call 43; refine (formWith_32 _ _ h1 h2).mono ?_; rintro e w1 ⟨rfl, hb1⟩)
  go_ret
  exact ⟨rfl, (by repeat (first | exact Below.refl _ _ | refine Below.drew ?_ | refine old_alloc ?_ _ | refine old_trans ?_ (by assumption)))⟩

set_option maxHeartbeats 800000 in
theorem iBitOk_32_out (n : Int) (h : ¬ (-2139095040 ≤ n ∧ n ≤ 2139095040)) (w : World) :
    Calls Tryd.prog 41 #[.int .i64 32, .int .i64 n] w fun e w' => e = .returned (.bool false) ∧ Below w.heap.size w w' := by
  go_enter Tryd.func41, Tryd.ntmps41
  go_wp2_with (go_at_call 43; refine (formWith_32_out _ _ h).mono ?_; rintro e w1 ⟨rfl, hb1⟩)
  go_ret
  exact ⟨rfl, (by repeat (first | exact Below.refl _ _ | refine Below.drew ?_ | refine old_alloc ?_ _ | refine old_trans ?_ (by assumption)))⟩

set_option maxHeartbeats 800000 in
theorem iBitOk_64 (n : Int) (h1 : -9218868437227405312 ≤ n) (h2 : n ≤ 9218868437227405312) (w : World) :
    Calls Tryd.prog 41 #[.int .i64 64, .int .i64 n] w fun e w' => e = .returned (.bool true) ∧ Below w.heap.size w w' := by
  go_enter Tryd.func41, Tryd.ntmps41
  go_wp2_with (go_at_call 43; refine (formWith_64 _ _ h1 h2).mono ?_; rintro e w1 ⟨rfl, hb1⟩)
  go_ret
  exact ⟨rfl, (by repeat (first | exact Below.refl _ _ | refine Below.drew ?_ | refine old_alloc ?_ _ | refine old_trans ?_ (by assumption)))⟩

set_option maxHeartbeats 800000 in
theorem iBitOk_64_out (n : Int) (h : ¬ (-9218868437227405312 ≤ n ∧ n ≤ 9218868437227405312)) (w : World) :
    Calls Tryd.prog 41 #[.int .i64 64, .int .i64 n] w fun e w' => e = .returned (.bool false) ∧ Below w.heap.size w w' := by
  go_enter Tryd.func41, Tryd.ntmps41
  go_wp2_with (go_at_call 43; refine (formWith_64_out _ _ h).mono ?_; rintro e w1 ⟨rfl, hb1⟩)
  go_ret
  exact ⟨rfl, (by repeat (first | exact Below.refl _ _ | refine Below.drew ?_ | refine old_alloc ?_ _ | refine old_trans ?_ (by assumption)))⟩

set_option maxHeartbeats 800000 in
theorem iBitOk_no (wd n : Int) (g1 : wd ≠ 32) (g2 : wd ≠ 64) (w : World) :
    Calls Tryd.prog 41 #[.int .i64 wd, .int .i64 n] w fun e w' => e = .returned (.bool false) ∧ Below w.heap.size w w' := by
  go_enter Tryd.func41, Tryd.ntmps41
  go_wp2_with (go_at_call 43; refine (formWith_no wd _ _ g1 g2).mono ?_; rintro e w1 ⟨rfl, hb1⟩)
  go_ret
  exact ⟨rfl, (by repeat (first | exact Below.refl _ _ | refine Below.drew ?_ | refine old_alloc ?_ _ | refine old_trans ?_ (by assumption)))⟩

end Go.Proofs.YtekbhkklaogmnaaDoor

/- BitTop, BitOk and PairOk of the program and of the specification, for every width at once; nothing that was there is written. -/
namespace Go.Proofs.YtekbhkklaogmnaaDoor
open Go.RowKit


theorem iTop (wd : Int) (w : World) :
    Calls Tryd.prog 40 #[.int .i64 wd] w fun e w' => e = .returned (.int .i64 (topI wd)) ∧ Below w.heap.size w w' := by
  by_cases c1 : wd = 32
  · subst c1; exact iBitTop_32 w
  by_cases c2 : wd = 64
  · subst c2; exact iBitTop_64 w
  rw [topI_no c1 c2]; exact iBitTop_no wd w c1 c2
theorem sTopR (wd : Int) (w : World) :
    Calls Tryd.prog 20 #[.int .i64 wd] w fun e w' => e = .returned (.int .i64 (topI wd)) ∧ w' = w := by
  by_cases c1 : wd = 32
  · subst c1; exact sBitTop_32 w
  by_cases c2 : wd = 64
  · subst c2; exact sBitTop_64 w
  rw [topI_no c1 c2]; exact sBitTop_no wd w c1 c2
theorem iOk (wd n : Int) (w : World) :
    Calls Tryd.prog 41 #[.int .i64 wd, .int .i64 n] w fun e w' => e = .returned (.bool (okB wd n)) ∧ Below w.heap.size w w' := by
  by_cases c1 : wd = 32
  · subst c1; rw [okB_32]
    by_cases h : -2139095040 ≤ n ∧ n ≤ 2139095040
    · rw [decide_eq_true h]; exact iBitOk_32 n h.1 h.2 w
    · rw [decide_eq_false h]; exact iBitOk_32_out n h w
  by_cases c2 : wd = 64
  · subst c2; rw [okB_64]
    by_cases h : -9218868437227405312 ≤ n ∧ n ≤ 9218868437227405312
    · rw [decide_eq_true h]; exact iBitOk_64 n h.1 h.2 w
    · rw [decide_eq_false h]; exact iBitOk_64_out n h w
  rw [okB_no n c1 c2]; exact iBitOk_no wd n c1 c2 w
theorem sOk (wd n : Int) (w : World) :
    Calls Tryd.prog 32 #[.int .i64 wd, .int .i64 n] w fun e w' => e = .returned (.bool (okB wd n)) ∧ Below w.heap.size w w' := by
  by_cases c1 : wd = 32
  · subst c1; rw [okB_32]
    by_cases h : -2139095040 ≤ n ∧ n ≤ 2139095040
    · rw [decide_eq_true h]; exact sBitOk_32 n w h.1 h.2
    · rw [decide_eq_false h]; exact sBitOk_32_out n w h
  by_cases c2 : wd = 64
  · subst c2; rw [okB_64]
    by_cases h : -9218868437227405312 ≤ n ∧ n ≤ 9218868437227405312
    · rw [decide_eq_true h]; exact sBitOk_64 n w h.1 h.2
    · rw [decide_eq_false h]; exact sBitOk_64_out n w h
  rw [okB_no n c1 c2]; exact sBitOk_no wd n w c1 c2

set_option maxHeartbeats 800000 in
theorem iPairOk (wd lo hi : Int) (w : World) :
    Calls Tryd.prog 35 #[.int .i64 wd, .agg #[.int .i64 lo, .int .i64 hi]] w fun e w' => e = .returned (.bool (pokB wd lo hi)) ∧ Below w.heap.size w w' := by
  have c0 : (w.alloc (.cells #[.int .i64 lo, .int .i64 hi] 39)).cell? ⟨w.heap.size, 0, none⟩ = some (.int .i64 lo) := by simp
  have c1 : (w.alloc (.cells #[.int .i64 lo, .int .i64 hi] 39)).cell? ⟨w.heap.size, 1, none⟩ = some (.int .i64 hi) := by simp
  obtain ⟨T1, T2⟩ := topI_bd wd
  have H1 := hd (iOk wd lo)
  have H2 := hd (iOk wd hi)
  have H0 := hd (iTop wd)
  have hp : Hid (pokB wd lo hi = (okB wd lo && (okB wd hi && (decide (lo ≤ hi) && ((lo != topI wd) && (hi != -topI wd)))))) := rfl
  generalize topI wd = T at *
  generalize okB wd lo = b1 at *
  generalize okB wd hi = b2 at *
  generalize pokB wd lo hi = r at *
  go_enter Tryd.func35, Tryd.ntmps35
  go_wp2_with fail
  refine (H0.out _).mono ?_
  rintro e w1 ⟨rfl, hb1⟩
  replace c0 := cell_later hb1 c0
  replace c1 := cell_later hb1 c1
  go_wp2_with fail
  refine (H1.out _).mono ?_
  rintro e w2 ⟨rfl, hb2⟩
  replace c0 := cell_later hb2 c0
  replace c1 := cell_later hb2 c1
  cases b1
  · go_wp2
    go_ret
    exact ⟨ret_b (by rw [hp.out]; rfl), (by repeat (first | exact Below.refl _ _ | refine Below.drew ?_ | refine old_alloc ?_ _ | refine old_trans ?_ (by assumption)))⟩
  go_wp2_with fail
  refine (H2.out _).mono ?_
  rintro e w3 ⟨rfl, hb3⟩
  replace c0 := cell_later hb3 c0
  replace c1 := cell_later hb3 c1
  cases b2
  · go_wp2
    go_ret
    exact ⟨ret_b (by rw [hp.out]; rfl), (by repeat (first | exact Below.refl _ _ | refine Below.drew ?_ | refine old_alloc ?_ _ | refine old_trans ?_ (by assumption)))⟩
  by_cases t1 : lo ≤ hi
  · by_cases t2 : (lo != T) = true
    · go_wp2
      all_goals
        go_ret
        refine ⟨ret_b ?_, (by repeat (first | exact Below.refl _ _ | refine Below.drew ?_ | refine old_alloc ?_ _ | refine old_trans ?_ (by assumption)))⟩
        rw [hp.out]; simp [*]
    · replace t2 : (lo != T) = false := by simpa using t2
      go_wp2
      go_ret
      exact ⟨ret_b (by rw [hp.out, t2]; simp), (by repeat (first | exact Below.refl _ _ | refine Below.drew ?_ | refine old_alloc ?_ _ | refine old_trans ?_ (by assumption)))⟩
  · have t3 : decide (lo ≤ hi) = false := by simpa using t1
    go_wp2
    go_ret
    exact ⟨ret_b (by rw [hp.out, t3]; rfl), (by repeat (first | exact Below.refl _ _ | refine Below.drew ?_ | refine old_alloc ?_ _ | refine old_trans ?_ (by assumption)))⟩
end Go.Proofs.YtekbhkklaogmnaaDoor

/- Contracts of BitOrd, of the program and of the specification: both answer the same; nothing that was there is written. -/
namespace Go.Proofs.YtekbhkklaogmnaaDoor
open Go.RowKit


set_option maxHeartbeats 800000 in
theorem iBitOrd_32 (b : Int) (h1 : 0 ≤ b) (h2 : b < 18446744073709551616) (w : World) :
    Calls Tryd.prog 25 #[.int .i64 32, .int .u64 b] w fun e w' => e = .returned (.tuple #[.int .i64 (ordN 2147483648 2139095040 b), .bool (ordB 2147483648 2139095040 b)]) ∧ Below w.heap.size w w' := by
  have m0 := meth_sign_32
  have m1 := meth_top_32
  have ha := andNot_32 b h1 h2
  go_enter Tryd.func25, Tryd.ntmps25
  go_wp2_with (first | (go_at_call 22; refine (formOf_32 _).mono ?_; rintro e w1 ⟨rfl, hb1⟩) | (go_at_call 43; refine (formWith_32 _ _ h1 h2).mono ?_; rintro e w1 ⟨rfl, hb1⟩) | go_in)
  all_goals
    go_ret2
    refine ⟨ret_ib ?_ ?_, (by repeat (first | exact Below.refl _ _ | refine Below.drew ?_ | refine old_alloc ?_ _ | refine old_trans ?_ (by assumption)))⟩
    all_goals try simp only [ne_eq, bne_iff_ne, bne_eq_false_iff_eq] at *
    · unfold ordN; (repeat' split) <;> omega
    · unfold ordB; first | (symm; apply decide_eq_true; omega) | (symm; apply decide_eq_false; omega)

set_option maxHeartbeats 800000 in
theorem sBitOrd_32 (b : Int) (h1 : 0 ≤ b) (h2 : b < 18446744073709551616) (w : World) :
    Calls Tryd.prog 13 #[.int .i64 32, .int .u64 b] w fun e w' => e = .returned (.tuple #[.int .i64 (ordN 2147483648 2139095040 b), .bool (ordB 2147483648 2139095040 b)]) ∧ Below w.heap.size w w' := by
  go_enter Tryd.func13, Tryd.ntmps13
  go_wp2
  all_goals
    go_ret2
    refine ⟨ret_ib ?_ ?_, (by repeat (first | exact Below.refl _ _ | refine Below.drew ?_ | refine old_alloc ?_ _ | refine old_trans ?_ (by assumption)))⟩
    all_goals try simp only [ne_eq, bne_iff_ne, bne_eq_false_iff_eq] at *
    · unfold ordN; (repeat' split) <;> omega
    · unfold ordB; first | (symm; apply decide_eq_true; omega) | (symm; apply decide_eq_false; omega)

set_option maxHeartbeats 800000 in
theorem iBitOrd_64 (b : Int) (h1 : 0 ≤ b) (h2 : b < 18446744073709551616) (w : World) :
    Calls Tryd.prog 25 #[.int .i64 64, .int .u64 b] w fun e w' => e = .returned (.tuple #[.int .i64 (ordN 9223372036854775808 9218868437227405312 b), .bool (ordB 9223372036854775808 9218868437227405312 b)]) ∧ Below w.heap.size w w' := by
  have m0 := meth_sign_64
  have m1 := meth_top_64
  have ha := andNot_64 b h1 h2
  go_enter Tryd.func25, Tryd.ntmps25
  go_wp2_with (first | (go_at_call 22; refine (formOf_64 _).mono ?_; rintro e w1 ⟨rfl, hb1⟩) | (go_at_call 43; refine (formWith_64 _ _ h1 h2).mono ?_; rintro e w1 ⟨rfl, hb1⟩) | go_in)
  all_goals
    go_ret2
    refine ⟨ret_ib ?_ ?_, (by repeat (first | exact Below.refl _ _ | refine Below.drew ?_ | refine old_alloc ?_ _ | refine old_trans ?_ (by assumption)))⟩
    all_goals try simp only [ne_eq, bne_iff_ne, bne_eq_false_iff_eq] at *
    · unfold ordN; (repeat' split) <;> omega
    · unfold ordB; first | (symm; apply decide_eq_true; omega) | (symm; apply decide_eq_false; omega)

set_option maxHeartbeats 800000 in
theorem sBitOrd_64 (b : Int) (h1 : 0 ≤ b) (h2 : b < 18446744073709551616) (w : World) :
    Calls Tryd.prog 13 #[.int .i64 64, .int .u64 b] w fun e w' => e = .returned (.tuple #[.int .i64 (ordN 9223372036854775808 9218868437227405312 b), .bool (ordB 9223372036854775808 9218868437227405312 b)]) ∧ Below w.heap.size w w' := by
  go_enter Tryd.func13, Tryd.ntmps13
  go_wp2
  all_goals
    go_ret2
    refine ⟨ret_ib ?_ ?_, (by repeat (first | exact Below.refl _ _ | refine Below.drew ?_ | refine old_alloc ?_ _ | refine old_trans ?_ (by assumption)))⟩
    all_goals try simp only [ne_eq, bne_iff_ne, bne_eq_false_iff_eq] at *
    · unfold ordN; (repeat' split) <;> omega
    · unfold ordB; first | (symm; apply decide_eq_true; omega) | (symm; apply decide_eq_false; omega)

end Go.Proofs.YtekbhkklaogmnaaDoor
