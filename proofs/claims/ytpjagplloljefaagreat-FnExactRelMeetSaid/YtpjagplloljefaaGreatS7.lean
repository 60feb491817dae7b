/- Spans: the rows of what is reckoned without rounding, and how a span's bounds come to them. Nothing that was there is written. -/
import Derived.Test.YtpjagplloljefaaGreatS5
import Derived.Test.YtpjagplloljefaaGreatS6
namespace Go.Proofs.YtpjagplloljefaaGreat
open Go.RowKit
set_option linter.unusedVariables false
set_option maxRecDepth 100000

set_option maxHeartbeats 1000000 in
theorem iTurned (a b : Int) (ha : -9218868437227405312 ≤ a ∧ a ≤ 9218868437227405312) (hb : -9218868437227405312 ≤ b ∧ b ≤ 9218868437227405312) (w : World) :
    Calls Tryz.prog 79 #[.agg #[.int .i64 a, .int .i64 b]] w fun e w' => e = .returned (.agg #[.int .i64 (-b), .int .i64 (-a)]) ∧ Below w.heap.size w w' := by
  -- beside row 66
  go_enter Tryz.func79, Tryz.ntmps79
  go_wp2
  refine bodyPost_ret (v := .agg #[.int .i64 (-b), .int .i64 (-a)]) ?_ rfl ⟨rfl, (by repeat (first | exact Below.refl _ _ | refine Below.drew ?_ | refine Below.setCell ?_ (by first | (simp; done) | omega | (simp; omega)) _ | refine old_alloc ?_ _ | refine old_trans ?_ (by assumption)))⟩
  simp [results, Tryz.results79, go_sem]
def absLo (a b : Int) : Int := max (max a (-b)) 0
def absHi (a b : Int) : Int := max b (-a)
set_option maxHeartbeats 2000000 in
theorem iUnsigned (a b : Int) (ha : -9218868437227405312 ≤ a ∧ a ≤ 9218868437227405312) (hb : -9218868437227405312 ≤ b ∧ b ≤ 9218868437227405312) (w : World) :
    Calls Tryz.prog 80 #[.agg #[.int .i64 a, .int .i64 b]] w fun e w' => e = .returned (.agg #[.int .i64 (absLo a b), .int .i64 (absHi a b)]) ∧ Below w.heap.size w w' := by
  go_enter Tryz.func80, Tryz.ntmps80
  go_wp2
  all_goals
    refine bodyPost_ret (v := .agg #[.int .i64 _, .int .i64 _]) (by simp [results, Tryz.results80, go_sem]; exact ⟨rfl, rfl⟩) rfl ⟨ret_p ?_ ?_, (by repeat (first | exact Below.refl _ _ | refine Below.drew ?_ | refine Below.setCell ?_ (by first | (simp; done) | omega | (simp; omega)) _ | refine old_alloc ?_ _ | refine old_trans ?_ (by assumption)))⟩
    · unfold absLo; omega
    · unfold absHi; omega

set_option maxHeartbeats 1000000 in
theorem iMeets (T : TypeId) (v : Value) (t a b c d n : Int) (w : World) :
    Calls Tryz.prog 65 #[.agg #[.iface T v, .int .i64 t], .agg #[.int .i64 a, .int .i64 b, .int .i64 c, .int .i64 d, .int .i64 n]] w fun e w' => (∃ x, e = .returned x ∧ Bnd w' 0 (decide (max a c ≤ min b d)) (max a c) (min b d) x) ∧ Below w.heap.size w w' := by
  have H := hd (iBMeetP (w.heap.size + 1) a b c d)
  go_enter Tryz.func65, Tryz.ntmps65
  go_wp2_with fail
  refine (H.out _ (by simp)).mono ?_
  rintro e w1 ⟨⟨x, rfl, hx⟩, hb1⟩
  go_wp2
  go_ret
  exact ⟨⟨_, rfl, hx⟩, (by repeat (first | exact Below.refl _ _ | refine Below.drew ?_ | refine Below.setCell ?_ (by first | (simp; done) | omega | (simp; omega)) _ | refine old_alloc ?_ _ | refine old_trans ?_ (by assumption)))⟩
set_option maxHeartbeats 1000000 in
theorem iNegatives (T : TypeId) (v : Value) (t a b c d n : Int) (ha : -9218868437227405312 ≤ a ∧ a ≤ 9218868437227405312) (hb : -9218868437227405312 ≤ b ∧ b ≤ 9218868437227405312) (w : World) :
    Calls Tryz.prog 66 #[.agg #[.iface T v, .int .i64 t], .agg #[.int .i64 a, .int .i64 b, .int .i64 c, .int .i64 d, .int .i64 n]] w fun e w' => (∃ x, e = .returned x ∧ Bnd w' 0 true (-b) (-a) x) ∧ Below w.heap.size w w' := by
  have H := hd (iTurned a b ha hb)
  go_enter Tryz.func66, Tryz.ntmps66
  go_wp2_with fail
  refine (H.out _).mono ?_
  rintro e w1 ⟨rfl, hb1⟩
  go_wp2
  go_ret
  exact ⟨⟨_, rfl, .inr ⟨rfl, _, rfl, Nat.zero_le _, Cel2.made _ _ rfl _ _ _⟩⟩, (by repeat (first | exact Below.refl _ _ | refine Below.drew ?_ | refine Below.setCell ?_ (by first | (simp; done) | omega | (simp; omega)) _ | refine old_alloc ?_ _ | refine old_trans ?_ (by assumption)))⟩
set_option maxHeartbeats 1000000 in
theorem iSizes (T : TypeId) (v : Value) (t a b c d n : Int) (ha : -9218868437227405312 ≤ a ∧ a ≤ 9218868437227405312) (hb : -9218868437227405312 ≤ b ∧ b ≤ 9218868437227405312) (w : World) :
    Calls Tryz.prog 67 #[.agg #[.iface T v, .int .i64 t], .agg #[.int .i64 a, .int .i64 b, .int .i64 c, .int .i64 d, .int .i64 n]] w fun e w' => (∃ x, e = .returned x ∧ Bnd w' 0 true (absLo a b) (absHi a b) x) ∧ Below w.heap.size w w' := by
  have H := hd (iUnsigned a b ha hb)
  generalize absLo a b = x at *
  generalize absHi a b = y at *
  go_enter Tryz.func67, Tryz.ntmps67
  go_wp2_with fail
  refine (H.out _).mono ?_
  rintro e w1 ⟨rfl, hb1⟩
  go_wp2
  go_ret
  exact ⟨⟨_, rfl, .inr ⟨rfl, _, rfl, Nat.zero_le _, Cel2.made _ _ rfl _ _ _⟩⟩, (by repeat (first | exact Below.refl _ _ | refine Below.drew ?_ | refine Below.setCell ?_ (by first | (simp; done) | omega | (simp; omega)) _ | refine old_alloc ?_ _ | refine old_trans ?_ (by assumption)))⟩
theorem Bnd.cong {w : World} {n : Nat} {ok : Bool} {x x' y y' : Int} {v : Value} (h : Bnd w n ok x' y' v) (hx : x = x') (hy : y = y') : Bnd w n ok x y v := by rw [hx, hy]; exact h
set_option maxHeartbeats 2000000 in
theorem iLesser (T : TypeId) (v : Value) (t a b c d n : Int) (w : World) :
    Calls Tryz.prog 68 #[.agg #[.iface T v, .int .i64 t], .agg #[.int .i64 a, .int .i64 b, .int .i64 c, .int .i64 d, .int .i64 n]] w fun e w' => (∃ x, e = .returned x ∧ Bnd w' 0 true (min a c) (min b d) x) ∧ Below w.heap.size w w' := by
  go_enter Tryz.func68, Tryz.ntmps68
  go_wp2
  all_goals
    go_ret
    exact ⟨⟨_, rfl, Bnd.cong (.inr ⟨rfl, _, rfl, Nat.zero_le _, Cel2.made _ _ (by simp) _ _ _⟩) (by omega) (by omega)⟩, (by repeat (first | exact Below.refl _ _ | refine Below.drew ?_ | refine Below.setCell ?_ (by first | (simp; done) | omega | (simp; omega)) _ | refine old_alloc ?_ _ | refine old_trans ?_ (by assumption)))⟩
set_option maxHeartbeats 2000000 in
theorem iGreater (T : TypeId) (v : Value) (t a b c d n : Int) (w : World) :
    Calls Tryz.prog 69 #[.agg #[.iface T v, .int .i64 t], .agg #[.int .i64 a, .int .i64 b, .int .i64 c, .int .i64 d, .int .i64 n]] w fun e w' => (∃ x, e = .returned x ∧ Bnd w' 0 true (max a c) (max b d) x) ∧ Below w.heap.size w w' := by
  go_enter Tryz.func69, Tryz.ntmps69
  go_wp2
  all_goals
    go_ret
    exact ⟨⟨_, rfl, Bnd.cong (.inr ⟨rfl, _, rfl, Nat.zero_le _, Cel2.made _ _ (by simp) _ _ _⟩) (by omega) (by omega)⟩, (by repeat (first | exact Below.refl _ _ | refine Below.drew ?_ | refine Below.setCell ?_ (by first | (simp; done) | omega | (simp; omega)) _ | refine old_alloc ?_ _ | refine old_trans ?_ (by assumption)))⟩

set_option maxHeartbeats 1000000 in
theorem iValuesOf (wd : Int) (h : wd = 32 ∨ wd = 64) (w : World) :
    Calls Tryz.prog 56 #[.int .i64 wd] w fun e w' => (∃ T v, e = .returned (.tuple #[.iface T v, .bool true])) ∧ Below w.heap.size w w' := by
  rcases h with rfl | rfl
  · go_enter Tryz.func56, Tryz.ntmps56
    go_wp2
    go_ret2
    exact ⟨⟨_, _, rfl⟩, (by repeat (first | exact Below.refl _ _ | refine Below.drew ?_ | refine old_alloc ?_ _ | refine old_trans ?_ (by assumption)))⟩
  · go_enter Tryz.func56, Tryz.ntmps56
    go_wp2
    go_ret2
    exact ⟨⟨_, _, rfl⟩, (by repeat (first | exact Below.refl _ _ | refine Below.drew ?_ | refine old_alloc ?_ _ | refine old_trans ?_ (by assumption)))⟩
end Go.Proofs.YtpjagplloljefaaGreat
