/- Contracts of BitOrd, of the program and of the specification: both answer the same; nothing that was there is written. -/
import Derived.Test.YtekbhkklaogmnaaDoorW2
import Derived.Test.YtekbhkklaogmnaaDoorF
namespace Go.Proofs.YtekbhkklaogmnaaDoor
open Go.RowKit


set_option maxHeartbeats 800000 in
theorem iBitOrd_32 (b : Int) (h1 : 0 ≤ b) (h2 : b < 18446744073709551616) (w : World) :
    Calls Tryd.prog 25 #[.int .i64 32, .int .u64 b] w fun e w' => e = .returned (.tuple #[.int .i64 (ordN 2147483648 2139095040 b), .bool (ordB 2147483648 2139095040 b)]) ∧ Below w.heap.size w w' := by
  have m0 := meth_sign_32
  have m1 := meth_top_32
  have ha := andNot_32 b h1 h2
  go_enter Tryd.func25, Tryd.ntmps25
  go_wp2_with (first | (go_at_call 22; refine (formOf_32 _).mono ?_; rintro e w1 ⟨rfl, hb1⟩) | (go_at_call 43; refine (formWith_32 _ _ h1 h2).mono ?_; rintro e w1 ⟨rfl, hb1⟩) | go_in)
  all_goals
    go_ret2
    refine ⟨ret_ib ?_ ?_, (by repeat (first | exact Below.refl _ _ | refine Below.drew ?_ | refine old_alloc ?_ _ | refine old_trans ?_ (by assumption)))⟩
    all_goals try simp only [ne_eq, bne_iff_ne, bne_eq_false_iff_eq] at *
    · unfold ordN; (repeat' split) <;> omega
    · unfold ordB; first | (symm; apply decide_eq_true; omega) | (symm; apply decide_eq_false; omega)

set_option maxHeartbeats 800000 in
theorem sBitOrd_32 (b : Int) (h1 : 0 ≤ b) (h2 : b < 18446744073709551616) (w : World) :
    Calls Tryd.prog 13 #[.int .i64 32, .int .u64 b] w fun e w' => e = .returned (.tuple #[.int .i64 (ordN 2147483648 2139095040 b), .bool (ordB 2147483648 2139095040 b)]) ∧ Below w.heap.size w w' := by
  go_enter Tryd.func13, Tryd.ntmps13
  go_wp2
  all_goals
    go_ret2
    refine ⟨ret_ib ?_ ?_, (by repeat (first | exact Below.refl _ _ | refine Below.drew ?_ | refine old_alloc ?_ _ | refine old_trans ?_ (by assumption)))⟩
    all_goals try simp only [ne_eq, bne_iff_ne, bne_eq_false_iff_eq] at *
    · unfold ordN; (repeat' split) <;> omega
    · unfold ordB; first | (symm; apply decide_eq_true; omega) | (symm; apply decide_eq_false; omega)

set_option maxHeartbeats 800000 in
theorem iBitOrd_64 (b : Int) (h1 : 0 ≤ b) (h2 : b < 18446744073709551616) (w : World) :
    Calls Tryd.prog 25 #[.int .i64 64, .int .u64 b] w fun e w' => e = .returned (.tuple #[.int .i64 (ordN 9223372036854775808 9218868437227405312 b), .bool (ordB 9223372036854775808 9218868437227405312 b)]) ∧ Below w.heap.size w w' := by
  have m0 := meth_sign_64
  have m1 := meth_top_64
  have ha := andNot_64 b h1 h2
  go_enter Tryd.func25, Tryd.ntmps25
  go_wp2_with (first | (go_at_call 22; refine (formOf_64 _).mono ?_; rintro e w1 ⟨rfl, hb1⟩) | (go_at_call 43; refine (formWith_64 _ _ h1 h2).mono ?_; rintro e w1 ⟨rfl, hb1⟩) | go_in)
  all_goals
    go_ret2
    refine ⟨ret_ib ?_ ?_, (by repeat (first | exact Below.refl _ _ | refine Below.drew ?_ | refine old_alloc ?_ _ | refine old_trans ?_ (by assumption)))⟩
    all_goals try simp only [ne_eq, bne_iff_ne, bne_eq_false_iff_eq] at *
    · unfold ordN; (repeat' split) <;> omega
    · unfold ordB; first | (symm; apply decide_eq_true; omega) | (symm; apply decide_eq_false; omega)

set_option maxHeartbeats 800000 in
theorem sBitOrd_64 (b : Int) (h1 : 0 ≤ b) (h2 : b < 18446744073709551616) (w : World) :
    Calls Tryd.prog 13 #[.int .i64 64, .int .u64 b] w fun e w' => e = .returned (.tuple #[.int .i64 (ordN 9223372036854775808 9218868437227405312 b), .bool (ordB 9223372036854775808 9218868437227405312 b)]) ∧ Below w.heap.size w w' := by
  go_enter Tryd.func13, Tryd.ntmps13
  go_wp2
  all_goals
    go_ret2
    refine ⟨ret_ib ?_ ?_, (by repeat (first | exact Below.refl _ _ | refine Below.drew ?_ | refine old_alloc ?_ _ | refine old_trans ?_ (by assumption)))⟩
    all_goals try simp only [ne_eq, bne_iff_ne, bne_eq_false_iff_eq] at *
    · unfold ordN; (repeat' split) <;> omega
    · unfold ordB; first | (symm; apply decide_eq_true; omega) | (symm; apply decide_eq_false; omega)

set_option maxHeartbeats 800000 in
theorem iBitOrd_no (wd b : Int) (g1 : wd ≠ 32) (g2 : wd ≠ 64) (w : World) :
    Calls Tryd.prog 25 #[.int .i64 wd, .int .u64 b] w fun e w' => e = .returned (.tuple #[.int .i64 0, .bool false]) ∧ Below w.heap.size w w' := by
  have t1 : (32 == wd) = false := by simp; omega
  have t2 : (64 == wd) = false := by simp; omega
  have t3 : (wd == 32) = false := by simp; omega
  have t4 : (wd == 64) = false := by simp; omega
  go_enter Tryd.func25, Tryd.ntmps25
  go_wp2_with (first | (go_at_call 22; refine (formOf_no wd _ t1 t2).mono ?_; rintro e w1 ⟨rfl, hb1⟩) | (go_at_call 43; refine (formWith_no wd _ _ g1 g2).mono ?_; rintro e w1 ⟨rfl, hb1⟩) | go_in)
  go_ret2
  exact ⟨rfl, (by repeat (first | exact Below.refl _ _ | refine Below.drew ?_ | refine old_alloc ?_ _ | refine old_trans ?_ (by assumption)))⟩

set_option maxHeartbeats 800000 in
theorem sBitOrd_no (wd b : Int) (g1 : wd ≠ 32) (g2 : wd ≠ 64) (w : World) :
    Calls Tryd.prog 13 #[.int .i64 wd, .int .u64 b] w fun e w' => e = .returned (.tuple #[.int .i64 0, .bool false]) ∧ Below w.heap.size w w' := by
  have t1 : (32 == wd) = false := by simp; omega
  have t2 : (64 == wd) = false := by simp; omega
  have t3 : (wd == 32) = false := by simp; omega
  have t4 : (wd == 64) = false := by simp; omega
  go_enter Tryd.func13, Tryd.ntmps13
  go_wp2
  go_ret2
  exact ⟨rfl, (by repeat (first | exact Below.refl _ _ | refine Below.drew ?_ | refine old_alloc ?_ _ | refine old_trans ?_ (by assumption)))⟩
end Go.Proofs.YtekbhkklaogmnaaDoor
