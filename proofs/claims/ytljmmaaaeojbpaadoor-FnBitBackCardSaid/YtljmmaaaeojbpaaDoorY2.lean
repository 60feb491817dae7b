/- The walk of the law FnBitBack: for every two codes of bytes it answers true, where the library's table lies as its text lays it; nothing that was there is written. -/
import Derived.Test.YtljmmaaaeojbpaaDoorY1
import Derived.Test.YtljmmaaaeojbpaaDoorD8
import Derived.Test.YtljmmaaaeojbpaaDoorZ7
namespace Go.Proofs.YtljmmaaaeojbpaaDoor
open Go.RowKit
set_option linter.unusedVariables false

set_option maxRecDepth 100000 in
set_option maxHeartbeats 4000000 in
theorem backWalk (a0 : Option Addr) (len0 cap0 : Nat) (a1 : Option Addr) (len1 cap1 : Nat) (w : World) (k0 : IsCode w a0 len0 cap0) (k1 : IsCode w a1 len1 cap1) (T0 : Tab w) :
    Calls Tryd.prog 3 #[.slice a0 len0 cap0, .slice a1 len1 cap1] w fun e w' => e = .returned (.bool true) ∧ Below w.heap.size w w' := by
  by_cases l0 : (1048576 : Int) < (len0 : Int)
  · have t0 : decide ((1048576 : Int) < (len0 : Int)) = true := by simp; omega
    go_enter Tryd.func3, Tryd.ntmps3
    go_wp2
    go_ret
    exact ⟨rfl, (by repeat (first | exact Below.refl _ _ | refine Below.drew ?_ | refine Below.setCell ?_ (by first | (simp; done) | (simp; omega)) _ | refine old_alloc ?_ _ | refine old_trans ?_ (by assumption)))⟩
  have t0 : decide ((1048576 : Int) < (len0 : Int)) = false := by simp; omega
  by_cases l1 : (1048576 : Int) < (len1 : Int)
  · have t1 : decide ((1048576 : Int) < (len1 : Int)) = true := by simp; omega
    go_enter Tryd.func3, Tryd.ntmps3
    go_wp2
    go_ret
    exact ⟨rfl, (by repeat (first | exact Below.refl _ _ | refine Below.drew ?_ | refine Below.setCell ?_ (by first | (simp; done) | (simp; omega)) _ | refine old_alloc ?_ _ | refine old_trans ?_ (by assumption)))⟩
  have t1 : decide ((1048576 : Int) < (len1 : Int)) = false := by simp; omega
  clear l0 l1
  go_enter Tryd.func3, Tryd.ntmps3
  go_wp2_with fail
  refine (drawOrd _ a0 len0 cap0 k0).mono ?_
  rintro e w1 ⟨⟨wd, b, ⟨d1, d2, b0, b1⟩, rfl⟩, hb1⟩
  replace k1 := k1.old hb1
  replace T0 := T0.old hb1
  clear k0
  rcases first_any wd b b0 b1 with ⟨r, f1, f2⟩ | ⟨r, f1, f2, f3⟩ | ⟨rfl, rfl⟩ | ⟨rfl, rfl⟩
  · go_wp2_with fail
    refine (f1 _).mono ?_
    rintro e w2 ⟨rfl, hb2⟩
    replace k1 := k1.old hb2
    replace T0 := T0.old hb2
    go_wp2_with fail
    refine (f2 _).mono ?_
    rintro e w3 ⟨rfl, hb3⟩
    replace k1 := k1.old hb3
    replace T0 := T0.old hb3
    go_wp2_with fail
    refine (drawOk _ a1 len1 cap1 k1).mono ?_
    rintro e w10 ⟨⟨wide, n, ⟨q1, q2, q3, q4⟩, rfl⟩, hb10⟩
    replace T0 := T0.old hb10
    clear k1
    rcases second_any wide n with ⟨c, r2, is, g1, g2, g3, g4⟩ | ⟨c, g1, g2, g3, g4⟩ | ⟨c, bl, S, p, g1, g2, g3, g4, ⟨p1, p2, p3, p4⟩, g5, g6⟩
    · go_wp2_with fail
      refine (g1 _).mono ?_
      rintro e w11 ⟨rfl, hb11⟩
      go_wp2_with fail
      refine (g2 _).mono ?_
      rintro e w12 ⟨rfl, hb12⟩
      go_wp2_with fail
      refine (g3 _).mono ?_
      rintro e w13 ⟨rfl, hb13⟩
      go_wp2_with fail
      refine (g4 _).mono ?_
      rintro e w14 ⟨rfl, hb14⟩
      go_wp2
      go_ret
      exact ⟨rfl, (by repeat (first | exact Below.refl _ _ | refine Below.drew ?_ | refine Below.setCell ?_ (by first | (simp; done) | (simp; omega)) _ | refine old_alloc ?_ _ | refine old_trans ?_ (by assumption)))⟩
    · go_wp2_with fail
      refine (g1 _).mono ?_
      rintro e w11 ⟨rfl, hb11⟩
      go_wp2_with fail
      refine (g2 _).mono ?_
      rintro e w12 ⟨rfl, hb12⟩
      go_wp2_with fail
      refine (g3 _).mono ?_
      rintro e w13 ⟨rfl, hb13⟩
      go_wp2_with fail
      refine (g4 _).mono ?_
      rintro e w14 ⟨rfl, hb14⟩
      go_wp2
      go_ret
      exact ⟨rfl, (by repeat (first | exact Below.refl _ _ | refine Below.drew ?_ | refine Below.setCell ?_ (by first | (simp; done) | (simp; omega)) _ | refine old_alloc ?_ _ | refine old_trans ?_ (by assumption)))⟩
    · go_wp2_with fail
      refine (g1 _).mono ?_
      rintro e w11 ⟨rfl, hb11⟩
      replace T0 := T0.old hb11
      go_wp2_with fail
      refine (g2 _).mono ?_
      rintro e w12 ⟨rfl, hb12⟩
      replace T0 := T0.old hb12
      go_wp2_with fail
      refine (g3 _).mono ?_
      rintro e w13 ⟨rfl, hb13⟩
      replace T0 := T0.old hb13
      go_wp2_with fail
      refine (g4 _).mono ?_
      rintro e w14 ⟨rfl, hb14⟩
      replace T0 := T0.old hb14
      have B14 : Below w.heap.size w w14 := (by repeat (first | exact Below.refl _ _ | refine Below.drew ?_ | refine Below.setCell ?_ (by first | (simp; done) | (simp; omega)) _ | refine old_alloc ?_ _ | refine old_trans ?_ (by assumption)))
      have z14 := B14.size
      clear B14
      have T1 := T0.old (old_alloc (Below.refl _ _) (.cells #[.bool bl, .int .u64 S, .int .i64 p] 34))
      have Q := Three.new w14 (.bool bl) (.int .u64 S) (.int .i64 p) 34
      go_wp2_with fail
      refine (g5 _ T1).mono ?_
      rintro e w15 ⟨rfl, hb15⟩
      replace Q := Q.old hb15
      obtain ⟨x0, x1, x2, x3⟩ := Q
      clear T1
      have y1 : w15.frozen? ⟨w14.heap.size, 1, none⟩ = false := (hb15.frozen (p := ⟨w14.heap.size, 1, none⟩) (by simp)).trans (by simp)
      have y2 : w15.frozen? ⟨w14.heap.size, 2, none⟩ = false := (hb15.frozen (p := ⟨w14.heap.size, 2, none⟩) (by simp)).trans (by simp)
      have v1 : IntKind.u64.wrap (S * 2) = S * 2 := by rw [IntKind.wrap_u64]; omega
      have v2 : IntKind.i64.wrap (p - 1) = p - 1 := by rw [IntKind.wrap_i64]; omega
      go_wp2_with fail
      refine Calls.mono (g6 _ ?_) ?_
      · exact T0.old (by repeat (first | exact Below.refl _ _ | refine Below.drew ?_ | refine Below.setCell ?_ (by first | (simp; done) | (simp; omega)) _ | refine old_alloc ?_ _ | refine old_trans ?_ (by assumption)))
      rintro e w16 ⟨rfl, hb16⟩
      go_wp2
      go_ret
      exact ⟨rfl, (by repeat (first | exact Below.refl _ _ | refine Below.drew ?_ | refine Below.setCell ?_ (by first | (simp; done) | (simp; omega)) _ | refine old_alloc ?_ _ | refine old_trans ?_ (by assumption)))⟩
  · go_wp2_with fail
    refine (f1 _).mono ?_
    rintro e w2 ⟨rfl, hb2⟩
    replace k1 := k1.old hb2
    replace T0 := T0.old hb2
    go_wp2_with fail
    refine (f2 _).mono ?_
    rintro e w3 ⟨rfl, hb3⟩
    replace k1 := k1.old hb3
    replace T0 := T0.old hb3
    go_wp2_with fail
    refine (f3 _).mono ?_
    rintro e w4 ⟨rfl, hb4⟩
    replace k1 := k1.old hb4
    replace T0 := T0.old hb4
    go_wp2_with fail
    refine (drawOk _ a1 len1 cap1 k1).mono ?_
    rintro e w10 ⟨⟨wide, n, ⟨q1, q2, q3, q4⟩, rfl⟩, hb10⟩
    replace T0 := T0.old hb10
    clear k1
    rcases second_any wide n with ⟨c, r2, is, g1, g2, g3, g4⟩ | ⟨c, g1, g2, g3, g4⟩ | ⟨c, bl, S, p, g1, g2, g3, g4, ⟨p1, p2, p3, p4⟩, g5, g6⟩
    · go_wp2_with fail
      refine (g1 _).mono ?_
      rintro e w11 ⟨rfl, hb11⟩
      go_wp2_with fail
      refine (g2 _).mono ?_
      rintro e w12 ⟨rfl, hb12⟩
      go_wp2_with fail
      refine (g3 _).mono ?_
      rintro e w13 ⟨rfl, hb13⟩
      go_wp2_with fail
      refine (g4 _).mono ?_
      rintro e w14 ⟨rfl, hb14⟩
      go_wp2
      go_ret
      exact ⟨rfl, (by repeat (first | exact Below.refl _ _ | refine Below.drew ?_ | refine Below.setCell ?_ (by first | (simp; done) | (simp; omega)) _ | refine old_alloc ?_ _ | refine old_trans ?_ (by assumption)))⟩
    · go_wp2_with fail
      refine (g1 _).mono ?_
      rintro e w11 ⟨rfl, hb11⟩
      go_wp2_with fail
      refine (g2 _).mono ?_
      rintro e w12 ⟨rfl, hb12⟩
      go_wp2_with fail
      refine (g3 _).mono ?_
      rintro e w13 ⟨rfl, hb13⟩
      go_wp2_with fail
      refine (g4 _).mono ?_
      rintro e w14 ⟨rfl, hb14⟩
      go_wp2
      go_ret
      exact ⟨rfl, (by repeat (first | exact Below.refl _ _ | refine Below.drew ?_ | refine Below.setCell ?_ (by first | (simp; done) | (simp; omega)) _ | refine old_alloc ?_ _ | refine old_trans ?_ (by assumption)))⟩
    · go_wp2_with fail
      refine (g1 _).mono ?_
      rintro e w11 ⟨rfl, hb11⟩
      replace T0 := T0.old hb11
      go_wp2_with fail
      refine (g2 _).mono ?_
      rintro e w12 ⟨rfl, hb12⟩
      replace T0 := T0.old hb12
      go_wp2_with fail
      refine (g3 _).mono ?_
      rintro e w13 ⟨rfl, hb13⟩
      replace T0 := T0.old hb13
      go_wp2_with fail
      refine (g4 _).mono ?_
      rintro e w14 ⟨rfl, hb14⟩
      replace T0 := T0.old hb14
      have B14 : Below w.heap.size w w14 := (by repeat (first | exact Below.refl _ _ | refine Below.drew ?_ | refine Below.setCell ?_ (by first | (simp; done) | (simp; omega)) _ | refine old_alloc ?_ _ | refine old_trans ?_ (by assumption)))
      have z14 := B14.size
      clear B14
      have T1 := T0.old (old_alloc (Below.refl _ _) (.cells #[.bool bl, .int .u64 S, .int .i64 p] 34))
      have Q := Three.new w14 (.bool bl) (.int .u64 S) (.int .i64 p) 34
      go_wp2_with fail
      refine (g5 _ T1).mono ?_
      rintro e w15 ⟨rfl, hb15⟩
      replace Q := Q.old hb15
      obtain ⟨x0, x1, x2, x3⟩ := Q
      clear T1
      have y1 : w15.frozen? ⟨w14.heap.size, 1, none⟩ = false := (hb15.frozen (p := ⟨w14.heap.size, 1, none⟩) (by simp)).trans (by simp)
      have y2 : w15.frozen? ⟨w14.heap.size, 2, none⟩ = false := (hb15.frozen (p := ⟨w14.heap.size, 2, none⟩) (by simp)).trans (by simp)
      have v1 : IntKind.u64.wrap (S * 2) = S * 2 := by rw [IntKind.wrap_u64]; omega
      have v2 : IntKind.i64.wrap (p - 1) = p - 1 := by rw [IntKind.wrap_i64]; omega
      go_wp2_with fail
      refine Calls.mono (g6 _ ?_) ?_
      · exact T0.old (by repeat (first | exact Below.refl _ _ | refine Below.drew ?_ | refine Below.setCell ?_ (by first | (simp; done) | (simp; omega)) _ | refine old_alloc ?_ _ | refine old_trans ?_ (by assumption)))
      rintro e w16 ⟨rfl, hb16⟩
      go_wp2
      go_ret
      exact ⟨rfl, (by repeat (first | exact Below.refl _ _ | refine Below.drew ?_ | refine Below.setCell ?_ (by first | (simp; done) | (simp; omega)) _ | refine old_alloc ?_ _ | refine old_trans ?_ (by assumption)))⟩
  · obtain ⟨f1, f2, f3⟩ := alone_32
    go_wp2_with fail
    refine (f1 _).mono ?_
    rintro e w2 ⟨rfl, hb2⟩
    replace k1 := k1.old hb2
    replace T0 := T0.old hb2
    go_wp2_with fail
    refine (f2 _).mono ?_
    rintro e w3 ⟨rfl, hb3⟩
    replace k1 := k1.old hb3
    replace T0 := T0.old hb3
    go_wp2_with fail
    refine (f3 _).mono ?_
    rintro e w4 ⟨rfl, hb4⟩
    replace k1 := k1.old hb4
    replace T0 := T0.old hb4
    go_wp2_with fail
    refine (drawOk _ a1 len1 cap1 k1).mono ?_
    rintro e w10 ⟨⟨wide, n, ⟨q1, q2, q3, q4⟩, rfl⟩, hb10⟩
    replace T0 := T0.old hb10
    clear k1
    rcases second_any wide n with ⟨c, r2, is, g1, g2, g3, g4⟩ | ⟨c, g1, g2, g3, g4⟩ | ⟨c, bl, S, p, g1, g2, g3, g4, ⟨p1, p2, p3, p4⟩, g5, g6⟩
    · go_wp2_with fail
      refine (g1 _).mono ?_
      rintro e w11 ⟨rfl, hb11⟩
      go_wp2_with fail
      refine (g2 _).mono ?_
      rintro e w12 ⟨rfl, hb12⟩
      go_wp2_with fail
      refine (g3 _).mono ?_
      rintro e w13 ⟨rfl, hb13⟩
      go_wp2_with fail
      refine (g4 _).mono ?_
      rintro e w14 ⟨rfl, hb14⟩
      go_wp2
      go_ret
      exact ⟨rfl, (by repeat (first | exact Below.refl _ _ | refine Below.drew ?_ | refine Below.setCell ?_ (by first | (simp; done) | (simp; omega)) _ | refine old_alloc ?_ _ | refine old_trans ?_ (by assumption)))⟩
    · go_wp2_with fail
      refine (g1 _).mono ?_
      rintro e w11 ⟨rfl, hb11⟩
      go_wp2_with fail
      refine (g2 _).mono ?_
      rintro e w12 ⟨rfl, hb12⟩
      go_wp2_with fail
      refine (g3 _).mono ?_
      rintro e w13 ⟨rfl, hb13⟩
      go_wp2_with fail
      refine (g4 _).mono ?_
      rintro e w14 ⟨rfl, hb14⟩
      go_wp2
      go_ret
      exact ⟨rfl, (by repeat (first | exact Below.refl _ _ | refine Below.drew ?_ | refine Below.setCell ?_ (by first | (simp; done) | (simp; omega)) _ | refine old_alloc ?_ _ | refine old_trans ?_ (by assumption)))⟩
    · go_wp2_with fail
      refine (g1 _).mono ?_
      rintro e w11 ⟨rfl, hb11⟩
      replace T0 := T0.old hb11
      go_wp2_with fail
      refine (g2 _).mono ?_
      rintro e w12 ⟨rfl, hb12⟩
      replace T0 := T0.old hb12
      go_wp2_with fail
      refine (g3 _).mono ?_
      rintro e w13 ⟨rfl, hb13⟩
      replace T0 := T0.old hb13
      go_wp2_with fail
      refine (g4 _).mono ?_
      rintro e w14 ⟨rfl, hb14⟩
      replace T0 := T0.old hb14
      have B14 : Below w.heap.size w w14 := (by repeat (first | exact Below.refl _ _ | refine Below.drew ?_ | refine Below.setCell ?_ (by first | (simp; done) | (simp; omega)) _ | refine old_alloc ?_ _ | refine old_trans ?_ (by assumption)))
      have z14 := B14.size
      clear B14
      have T1 := T0.old (old_alloc (Below.refl _ _) (.cells #[.bool bl, .int .u64 S, .int .i64 p] 34))
      have Q := Three.new w14 (.bool bl) (.int .u64 S) (.int .i64 p) 34
      go_wp2_with fail
      refine (g5 _ T1).mono ?_
      rintro e w15 ⟨rfl, hb15⟩
      replace Q := Q.old hb15
      obtain ⟨x0, x1, x2, x3⟩ := Q
      clear T1
      have y1 : w15.frozen? ⟨w14.heap.size, 1, none⟩ = false := (hb15.frozen (p := ⟨w14.heap.size, 1, none⟩) (by simp)).trans (by simp)
      have y2 : w15.frozen? ⟨w14.heap.size, 2, none⟩ = false := (hb15.frozen (p := ⟨w14.heap.size, 2, none⟩) (by simp)).trans (by simp)
      have v1 : IntKind.u64.wrap (S * 2) = S * 2 := by rw [IntKind.wrap_u64]; omega
      have v2 : IntKind.i64.wrap (p - 1) = p - 1 := by rw [IntKind.wrap_i64]; omega
      go_wp2_with fail
      refine Calls.mono (g6 _ ?_) ?_
      · exact T0.old (by repeat (first | exact Below.refl _ _ | refine Below.drew ?_ | refine Below.setCell ?_ (by first | (simp; done) | (simp; omega)) _ | refine old_alloc ?_ _ | refine old_trans ?_ (by assumption)))
      rintro e w16 ⟨rfl, hb16⟩
      go_wp2
      go_ret
      exact ⟨rfl, (by repeat (first | exact Below.refl _ _ | refine Below.drew ?_ | refine Below.setCell ?_ (by first | (simp; done) | (simp; omega)) _ | refine old_alloc ?_ _ | refine old_trans ?_ (by assumption)))⟩
  · obtain ⟨f1, f2, f3⟩ := alone_64
    go_wp2_with fail
    refine (f1 _).mono ?_
    rintro e w2 ⟨rfl, hb2⟩
    replace k1 := k1.old hb2
    replace T0 := T0.old hb2
    go_wp2_with fail
    refine (f2 _).mono ?_
    rintro e w3 ⟨rfl, hb3⟩
    replace k1 := k1.old hb3
    replace T0 := T0.old hb3
    go_wp2_with fail
    refine (f3 _).mono ?_
    rintro e w4 ⟨rfl, hb4⟩
    replace k1 := k1.old hb4
    replace T0 := T0.old hb4
    go_wp2_with fail
    refine (drawOk _ a1 len1 cap1 k1).mono ?_
    rintro e w10 ⟨⟨wide, n, ⟨q1, q2, q3, q4⟩, rfl⟩, hb10⟩
    replace T0 := T0.old hb10
    clear k1
    rcases second_any wide n with ⟨c, r2, is, g1, g2, g3, g4⟩ | ⟨c, g1, g2, g3, g4⟩ | ⟨c, bl, S, p, g1, g2, g3, g4, ⟨p1, p2, p3, p4⟩, g5, g6⟩
    · go_wp2_with fail
      refine (g1 _).mono ?_
      rintro e w11 ⟨rfl, hb11⟩
      go_wp2_with fail
      refine (g2 _).mono ?_
      rintro e w12 ⟨rfl, hb12⟩
      go_wp2_with fail
      refine (g3 _).mono ?_
      rintro e w13 ⟨rfl, hb13⟩
      go_wp2_with fail
      refine (g4 _).mono ?_
      rintro e w14 ⟨rfl, hb14⟩
      go_wp2
      go_ret
      exact ⟨rfl, (by repeat (first | exact Below.refl _ _ | refine Below.drew ?_ | refine Below.setCell ?_ (by first | (simp; done) | (simp; omega)) _ | refine old_alloc ?_ _ | refine old_trans ?_ (by assumption)))⟩
    · go_wp2_with fail
      refine (g1 _).mono ?_
      rintro e w11 ⟨rfl, hb11⟩
      go_wp2_with fail
      refine (g2 _).mono ?_
      rintro e w12 ⟨rfl, hb12⟩
      go_wp2_with fail
      refine (g3 _).mono ?_
      rintro e w13 ⟨rfl, hb13⟩
      go_wp2_with fail
      refine (g4 _).mono ?_
      rintro e w14 ⟨rfl, hb14⟩
      go_wp2
      go_ret
      exact ⟨rfl, (by repeat (first | exact Below.refl _ _ | refine Below.drew ?_ | refine Below.setCell ?_ (by first | (simp; done) | (simp; omega)) _ | refine old_alloc ?_ _ | refine old_trans ?_ (by assumption)))⟩
    · go_wp2_with fail
      refine (g1 _).mono ?_
      rintro e w11 ⟨rfl, hb11⟩
      replace T0 := T0.old hb11
      go_wp2_with fail
      refine (g2 _).mono ?_
      rintro e w12 ⟨rfl, hb12⟩
      replace T0 := T0.old hb12
      go_wp2_with fail
      refine (g3 _).mono ?_
      rintro e w13 ⟨rfl, hb13⟩
      replace T0 := T0.old hb13
      go_wp2_with fail
      refine (g4 _).mono ?_
      rintro e w14 ⟨rfl, hb14⟩
      replace T0 := T0.old hb14
      have B14 : Below w.heap.size w w14 := (by repeat (first | exact Below.refl _ _ | refine Below.drew ?_ | refine Below.setCell ?_ (by first | (simp; done) | (simp; omega)) _ | refine old_alloc ?_ _ | refine old_trans ?_ (by assumption)))
      have z14 := B14.size
      clear B14
      have T1 := T0.old (old_alloc (Below.refl _ _) (.cells #[.bool bl, .int .u64 S, .int .i64 p] 34))
      have Q := Three.new w14 (.bool bl) (.int .u64 S) (.int .i64 p) 34
      go_wp2_with fail
      refine (g5 _ T1).mono ?_
      rintro e w15 ⟨rfl, hb15⟩
      replace Q := Q.old hb15
      obtain ⟨x0, x1, x2, x3⟩ := Q
      clear T1
      have y1 : w15.frozen? ⟨w14.heap.size, 1, none⟩ = false := (hb15.frozen (p := ⟨w14.heap.size, 1, none⟩) (by simp)).trans (by simp)
      have y2 : w15.frozen? ⟨w14.heap.size, 2, none⟩ = false := (hb15.frozen (p := ⟨w14.heap.size, 2, none⟩) (by simp)).trans (by simp)
      have v1 : IntKind.u64.wrap (S * 2) = S * 2 := by rw [IntKind.wrap_u64]; omega
      have v2 : IntKind.i64.wrap (p - 1) = p - 1 := by rw [IntKind.wrap_i64]; omega
      go_wp2_with fail
      refine Calls.mono (g6 _ ?_) ?_
      · exact T0.old (by repeat (first | exact Below.refl _ _ | refine Below.drew ?_ | refine Below.setCell ?_ (by first | (simp; done) | (simp; omega)) _ | refine old_alloc ?_ _ | refine old_trans ?_ (by assumption)))
      rintro e w16 ⟨rfl, hb16⟩
      go_wp2
      go_ret
      exact ⟨rfl, (by repeat (first | exact Below.refl _ _ | refine Below.drew ?_ | refine Below.setCell ?_ (by first | (simp; done) | (simp; omega)) _ | refine old_alloc ?_ _ | refine old_trans ?_ (by assumption)))⟩
end Go.Proofs.YtljmmaaaeojbpaaDoor
