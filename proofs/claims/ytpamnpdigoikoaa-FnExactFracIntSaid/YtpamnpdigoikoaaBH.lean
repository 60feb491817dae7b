/- The greatest common divisor, by the specification: by rests. Conditions: numbers, 2^16 digits at most. -/
import Derived.Test.YtpamnpdigoikoaaBD
import Derived.Deep.LoopGhost
import Derived.Test.YtpamnpdigoikoaaBG
namespace Go.Proofs.Ytpamnpdigoikoaa
open Go.RowKit
set_option linter.unusedVariables false

end Go.Proofs.Ytpamnpdigoikoaa

/- The program's division for common divisors: the divisor and the rest. Conditions: digits, no needless noughts in the divisor. -/
namespace Go.Proofs.Ytpamnpdigoikoaa
open Go.RowKit
set_option linter.unusedVariables false

end Go.Proofs.Ytpamnpdigoikoaa

/- Mathematics of common divisors by the highest digits: rests of two numbers as sums of their multiples, as long as the digits tell the quotients. -/
namespace Go.Proofs.Ytpamnpdigoikoaa
open Go.RowKit
set_option linter.unusedVariables false

theorem sq_bound {Q a b X : Int} (hQ : 0 ≤ Q) (hb : 0 ≤ b) (h1 : Q * a ≤ X + 1) (h2 : Q * b ≤ X) (hX : 0 ≤ X) (hab : X + 1 ≤ a * b) : Q * Q ≤ X := by
  have e1 : Q * Q * (X + 1) ≤ Q * Q * (a * b) := Int.mul_le_mul_of_nonneg_left hab (Int.mul_nonneg hQ hQ)
  have e2 : (Q * a) * (Q * b) ≤ (X + 1) * X := Int.mul_le_mul h1 h2 (Int.mul_nonneg hQ hb) (by omega)
  have e3 : Q * Q * (a * b) = (Q * a) * (Q * b) := by grind
  have e4 : (Q * Q) * (X + 1) ≤ X * (X + 1) := by rw [Int.mul_comm X (X + 1)]; omega
  exact Int.le_of_mul_le_mul_right e4 (by omega)
theorem small_of_sq {Q X : Int} (hQ : 0 ≤ Q) (h : Q * Q ≤ X) (hX : X < 281474976710656) : Q ≤ 16777216 := by
  apply Int.not_lt.1
  intro hlt
  have := Int.mul_le_mul (show 16777217 ≤ Q by omega) (show 16777217 ≤ Q by omega) (by omega) hQ
  omega
theorem cross_lt {r0 r1 v0 v1 : Int} (a0 : 0 ≤ r0) (a1 : r0 < v0) (b0 : 0 ≤ r1) (b1 : r1 < v1) : r0 * v1 - r1 * v0 < v0 * v1 ∧ r1 * v0 - r0 * v1 < v0 * v1 := by
  have h1 := Int.mul_nonneg b0 (show 0 ≤ v0 by omega)
  have h2 := Int.mul_nonneg a0 (show 0 ≤ v1 by omega)
  have h3 := Int.mul_lt_mul_of_pos_right a1 (show 0 < v1 by omega)
  have h4 := Int.mul_lt_mul_of_pos_right b1 (show 0 < v0 by omega)
  rw [Int.mul_comm v1 v0] at h4
  omega
/-- two rests, one behind the other: how often the two numbers are taken in them, and what the highest digits tell -/
structure Lem (x0 y0 p0 p1 q0 q1 x y e P0 P1 Q0 Q1 : Int) : Prop where
  sg : e = 1 ∨ e = -1
  ep0 : p0 = e * P0
  ep1 : p1 = -(e * P1)
  eq0 : q0 = -(e * Q0)
  eq1 : q1 = e * Q1
  b0 : 0 ≤ P0 ∧ P0 ≤ 16777216
  b1 : 0 ≤ P1 ∧ P1 ≤ 16777216
  c0 : 0 ≤ Q0 ∧ Q0 ≤ 16777216
  c1 : 0 ≤ Q1 ∧ Q1 ≤ 16777216
  n0 : 0 ≤ x + p0
  n1 : 0 ≤ x + p1
  m0 : 0 ≤ y + q0
  m1 : 0 ≤ y + q1
  f1 : x0 + 1 = Q1 * (x + p0) + P1 * (y + q0)
  f2 : y0 = Q0 * (x + p0) + P0 * (y + q0)
  f3 : x0 = Q1 * (x + p1) + P1 * (y + q1)
  f4 : y0 + 1 = Q0 * (x + p1) + P0 * (y + q1)
  dt : e * ((x + p0) * (y + q1) - (x + p1) * (y + q0)) = x0 + y0 + 1
  lx : x = p0 * x0 + p1 * y0
  ly : y = q0 * x0 + q1 * y0
  gc : ∀ A B : Int, Int.gcd (p0 * A + p1 * B) (q0 * A + q1 * B) = Int.gcd A B
theorem Lem.start {x0 y0 : Int} (hx : 0 ≤ x0) (hy : 0 ≤ y0) : Lem x0 y0 1 0 0 1 x0 y0 1 1 0 0 1 := by
  refine ⟨.inl rfl, by omega, by omega, by omega, by omega, by omega, by omega, by omega, by omega, by omega, by omega, by omega, by omega, by omega, by omega, by omega, by omega, ?_, by omega, by omega, ?_⟩
  · grind
  · intro A B
    simp
theorem gcd_step (X Y k : Int) : Int.gcd Y (X - k * Y) = Int.gcd X Y := by
  rw [Int.gcd_comm X Y]
  simp
/-- what a round brings -/
theorem Lem.step {x0 y0 p0 p1 q0 q1 x y e P0 P1 Q0 Q1 k : Int} (h : Lem x0 y0 p0 p1 q0 q1 x y e P0 P1 Q0 Q1) (hx : 0 ≤ x0 ∧ x0 < 281474976710656) (hy : 0 ≤ y0 ∧ y0 < 281474976710656) (v0 : 0 < y + q0) (v1 : 0 < y + q1) (k0 : k = (x + p0) / (y + q0)) (k1 : k = (x + p1) / (y + q1)) :
    Lem x0 y0 q0 q1 (p0 - k * q0) (p1 - k * q1) y (x - k * y) (-e) Q0 Q1 (P0 + k * Q0) (P1 + k * Q1) ∧ (x - k * y) + (p0 - k * q0) < y + q0 ∧ (x - k * y) + (p1 - k * q1) < y + q1 ∧ 0 ≤ k := by
  obtain ⟨sg, ep0, ep1, eq0, eq1, b0, b1, c0, c1, n0, n1, m0, m1, f1, f2, f3, f4, dt, lx, ly, gc⟩ := h
  obtain ⟨u0, hu0⟩ : ∃ u, u = x + p0 := ⟨_, rfl⟩
  obtain ⟨u1, hu1⟩ : ∃ u, u = x + p1 := ⟨_, rfl⟩
  obtain ⟨w0, hw0⟩ : ∃ u, u = y + q0 := ⟨_, rfl⟩
  obtain ⟨w1, hw1⟩ : ∃ u, u = y + q1 := ⟨_, rfl⟩
  have r0 : (x - k * y) + (p0 - k * q0) = u0 - k * w0 := by rw [hu0, hw0]; grind
  have r1 : (x - k * y) + (p1 - k * q1) = u1 - k * w1 := by rw [hu1, hw1]; grind
  rw [← hu0, ← hw0] at k0
  rw [← hu1, ← hw1] at k1
  rw [← hu0, ← hw0] at f1 f2
  rw [← hu1, ← hw1] at f3 f4
  rw [← hu0, ← hw0, ← hu1, ← hw1] at dt
  rw [← hu0] at n0
  rw [← hu1] at n1
  rw [← hw0] at m0 v0
  rw [← hw1] at m1 v1
  have hk0 : 0 ≤ k := by rw [k0]; exact Int.ediv_nonneg n0 m0
  have s0 : u0 - k * w0 = u0 % w0 := by rw [k0, Int.emod_def, Int.mul_comm]
  have s1 : u1 - k * w1 = u1 % w1 := by rw [k1, Int.emod_def, Int.mul_comm]
  have t0 := Int.emod_nonneg u0 (show w0 ≠ 0 by omega)
  have t1 := Int.emod_nonneg u1 (show w1 ≠ 0 by omega)
  have z0 := Int.emod_lt_of_pos u0 v0
  have z1 := Int.emod_lt_of_pos u1 v1
  rw [← s0] at t0 z0
  rw [← s1] at t1 z1
  have hD : x0 + y0 + 1 < w0 * w1 := by
    have hc := cross_lt t0 z0 t1 z1
    have e1 : (u0 - k * w0) * w1 - (u1 - k * w1) * w0 = u0 * w1 - u1 * w0 := by grind
    have e2 : (u1 - k * w1) * w0 - (u0 - k * w0) * w1 = -(u0 * w1 - u1 * w0) := by grind
    rw [e1, e2] at hc
    rcases sg with rfl | rfl
    · omega
    · omega
  have hQ0 : 0 ≤ k * Q0 := Int.mul_nonneg hk0 c0.1
  have hQ1 : 0 ≤ k * Q1 := Int.mul_nonneg hk0 c1.1
  have g1 : x0 + 1 = (P1 + k * Q1) * w0 + Q1 * (u0 - k * w0) := by rw [f1]; grind
  have g2 : y0 = (P0 + k * Q0) * w0 + Q0 * (u0 - k * w0) := by rw [f2]; grind
  have g3 : x0 = (P1 + k * Q1) * w1 + Q1 * (u1 - k * w1) := by rw [f3]; grind
  have g4 : y0 + 1 = (P0 + k * Q0) * w1 + Q0 * (u1 - k * w1) := by rw [f4]; grind
  have d1 := Int.mul_nonneg c1.1 t0
  have d2 := Int.mul_nonneg c0.1 t0
  have d3 := Int.mul_nonneg c1.1 t1
  have d4 := Int.mul_nonneg c0.1 t1
  have B1 : P1 + k * Q1 ≤ 16777216 := by
    refine small_of_sq (X := x0) (by omega) (sq_bound (a := w0) (b := w1) (by omega) m1 ?_ ?_ hx.1 (by omega)) hx.2
    · omega
    · omega
  have B0 : P0 + k * Q0 ≤ 16777216 := by
    refine small_of_sq (X := y0) (by omega) (sq_bound (a := w1) (b := w0) (by omega) m0 ?_ ?_ hy.1 (by rw [Int.mul_comm]; omega)) hy.2
    · omega
    · omega
  refine ⟨⟨by omega, ?_, ?_, ?_, ?_, c0, c1, by omega, by omega, by omega, by omega, by omega, by omega, ?_, ?_, ?_, ?_, ?_, ly, ?_, ?_⟩, by omega, by omega, hk0⟩
  · rw [eq0]; grind
  · rw [eq1]; grind
  · rw [ep0, eq0]; grind
  · rw [ep1, eq1]; grind
  · rw [r0, ← hw0]; exact g1
  · rw [r0, ← hw0]; exact g2
  · rw [r1, ← hw1]; exact g3
  · rw [r1, ← hw1]; exact g4
  · rw [r0, r1, ← hw0, ← hw1, ← dt]; grind
  · rw [lx, ly]; grind
  · intro A B
    rw [show (p0 - k * q0) * A + (p1 - k * q1) * B = (p0 * A + p1 * B) - k * (q0 * A + q1 * B) by grind, gcd_step]
    exact gc A B
/-- the rests themselves: not below 0, one below the other, and not above the second number -/
theorem Lem.rests {x0 y0 p0 p1 q0 q1 x y e P0 P1 Q0 Q1 A B S : Int} (h : Lem x0 y0 p0 p1 q0 q1 x y e P0 P1 Q0 Q1) (hS : 0 < S) (hx : 0 ≤ x0) (hy : 0 ≤ y0) (a0 : x0 * S ≤ A) (a1 : A < (x0 + 1) * S) (b0 : y0 * S ≤ B) (b1 : B < (y0 + 1) * S)
    (hA0 : 0 < A) (hB0 : 0 < B) (l0 : y + q0 < x + p0) (l1 : y + q1 < x + p1) (g0 : x + p0 ≤ y0) (g1 : x + p1 ≤ y0 + 1) :
    0 ≤ p0 * A + p1 * B ∧ p0 * A + p1 * B ≤ B ∧ 0 ≤ q0 * A + q1 * B ∧ q0 * A + q1 * B < B ∧ q0 * A + q1 * B < p0 * A + p1 * B := by
  obtain ⟨L, hL⟩ : ∃ L, L = A * (y0 + 1) - B * x0 := ⟨_, rfl⟩
  obtain ⟨M, hM⟩ : ∃ M, M = B * (x0 + 1) - A * y0 := ⟨_, rfl⟩
  have e1 : A * (y0 + 1) ≥ x0 * S * (y0 + 1) := Int.mul_le_mul_of_nonneg_right a0 (by omega)
  have e2 : B * x0 ≤ (y0 + 1) * S * x0 := Int.mul_le_mul_of_nonneg_right (by omega) (by omega)
  have e3 : x0 * S * (y0 + 1) = (y0 + 1) * S * x0 := by grind
  have e4 : B * (x0 + 1) ≥ y0 * S * (x0 + 1) := Int.mul_le_mul_of_nonneg_right b0 (by omega)
  have e5 : A * y0 ≤ (x0 + 1) * S * y0 := Int.mul_le_mul_of_nonneg_right (by omega) (by omega)
  have e6 : y0 * S * (x0 + 1) = (x0 + 1) * S * y0 := by grind
  have hL0 : 0 ≤ L := by omega
  have hM0 : 0 ≤ M := by omega
  have hLM : L + M = A + B := by rw [hL, hM]; grind
  obtain ⟨D, hDe⟩ : ∃ D, D = x0 + y0 + 1 := ⟨_, rfl⟩
  have hD : 0 < D := by omega
  have iA : D * A = L * (x0 + 1) + M * x0 := by rw [hL, hM, hDe]; grind
  have iB : D * B = L * y0 + M * (y0 + 1) := by rw [hL, hM, hDe]; grind
  have iX : D * (p0 * A + p1 * B) = L * (x + p0) + M * (x + p1) := by
    rw [show D * (p0 * A + p1 * B) = p0 * (D * A) + p1 * (D * B) by grind, iA, iB, h.lx]; grind
  have iY : D * (q0 * A + q1 * B) = L * (y + q0) + M * (y + q1) := by
    rw [show D * (q0 * A + q1 * B) = q0 * (D * A) + q1 * (D * B) by grind, iA, iB, h.ly]; grind
  have c1 := Int.mul_nonneg hL0 h.n0
  have c2 := Int.mul_nonneg hM0 h.n1
  have c3 := Int.mul_nonneg hL0 h.m0
  have c4 := Int.mul_nonneg hM0 h.m1
  have c5 := Int.mul_le_mul_of_nonneg_left g0 hL0
  have c6 := Int.mul_le_mul_of_nonneg_left g1 hM0
  have c7 := Int.mul_le_mul_of_nonneg_left (show y + q0 ≤ y0 - 1 by omega) hL0
  have c8 := Int.mul_le_mul_of_nonneg_left (show y + q1 ≤ y0 by omega) hM0
  have c9 : L * (y0 - 1) = L * y0 - L := by grind
  have c10 : M * (y0 + 1) = M * y0 + M := by grind
  have d7 := Int.mul_le_mul_of_nonneg_left (show y + q0 ≤ x + p0 - 1 by omega) hL0
  have d8 := Int.mul_le_mul_of_nonneg_left (show y + q1 ≤ x + p1 - 1 by omega) hM0
  have d9 : L * (x + p0 - 1) = L * (x + p0) - L := by grind
  have d10 : M * (x + p1 - 1) = M * (x + p1) - M := by grind
  refine ⟨?_, ?_, ?_, ?_, ?_⟩
  · exact Int.le_of_mul_le_mul_left (a := D) (by rw [iX]; omega) hD
  · exact Int.le_of_mul_le_mul_left (a := D) (by rw [iX, iB]; omega) hD
  · exact Int.le_of_mul_le_mul_left (a := D) (by rw [iY]; omega) hD
  · exact Int.lt_of_mul_lt_mul_left (a := D) (by rw [iY, iB]; omega) (by omega)
  · exact Int.lt_of_mul_lt_mul_left (a := D) (by rw [iY, iX]; omega) (by omega)
end Go.Proofs.Ytpamnpdigoikoaa

/- Rests by the highest digits: the program's search for how often both numbers are taken in them. -/
namespace Go.Proofs.Ytpamnpdigoikoaa
open Go.RowKit
set_option linter.unusedVariables false

/-- the four numbers in a block -/
def Four (w : World) (b : Nat) (p0 p1 q0 q1 : Int) : Prop := w.cell? ⟨b, 0, none⟩ = some (.int .i64 p0) ∧ w.cell? ⟨b, 1, none⟩ = some (.int .i64 p1) ∧ w.cell? ⟨b, 2, none⟩ = some (.int .i64 q0) ∧ w.cell? ⟨b, 3, none⟩ = some (.int .i64 q1)
def GoodRests (x0 y0 p0 p1 q0 q1 : Int) : Prop := (p0 = 1 ∧ p1 = 0 ∧ q0 = 0 ∧ q1 = 1) ∨ ∃ x y e P0 P1 Q0 Q1, Lem x0 y0 p0 p1 q0 q1 x y e P0 P1 Q0 Q1 ∧ y + q0 < x + p0 ∧ y + q1 < x + p1 ∧ x + p0 ≤ y0 ∧ x + p1 ≤ y0 + 1
/-- ahead of a round -/
def LemR (x0 y0 p0 p1 q0 q1 x y : Int) : Prop := (∃ e P0 P1 Q0 Q1, Lem x0 y0 p0 p1 q0 q1 x y e P0 P1 Q0 Q1) ∧ ((p0 = 1 ∧ p1 = 0 ∧ q0 = 0 ∧ q1 = 1 ∧ x = x0 ∧ y = y0) ∨ (y + q0 < x + p0 ∧ y + q1 < x + p1 ∧ x + p0 ≤ y0 ∧ x + p1 ≤ y0 + 1))
theorem LemR.good {x0 y0 p0 p1 q0 q1 x y : Int} (h : LemR x0 y0 p0 p1 q0 q1 x y) : GoodRests x0 y0 p0 p1 q0 q1 := by
  obtain ⟨⟨e, P0, P1, Q0, Q1, h1⟩, h2⟩ := h
  rcases h2 with h2 | h2
  · exact .inl ⟨h2.1, h2.2.1, h2.2.2.1, h2.2.2.2.1⟩
  · exact .inr ⟨x, y, e, P0, P1, Q0, Q1, h1, h2⟩
theorem LemR.start {x0 y0 : Int} (hx : 0 ≤ x0) (hy : 0 ≤ y0) : LemR x0 y0 1 0 0 1 x0 y0 := ⟨⟨_, _, _, _, _, Lem.start hx hy⟩, .inl ⟨rfl, rfl, rfl, rfl, rfl, rfl⟩⟩
/-- bounds of all that comes up -/
theorem Lem.bd {x0 y0 p0 p1 q0 q1 x y e P0 P1 Q0 Q1 : Int} (h : Lem x0 y0 p0 p1 q0 q1 x y e P0 P1 Q0 Q1) : (-16777216 ≤ p0 ∧ p0 ≤ 16777216) ∧ (-16777216 ≤ p1 ∧ p1 ≤ 16777216) ∧ (-16777216 ≤ q0 ∧ q0 ≤ 16777216) ∧ (-16777216 ≤ q1 ∧ q1 ≤ 16777216) := by
  have := h.b0; have := h.b1; have := h.c0; have := h.c1
  have := h.ep0; have := h.ep1; have := h.eq0; have := h.eq1
  rcases h.sg with rfl | rfl
  · omega
  · omega
theorem LemR.bd {x0 y0 p0 p1 q0 q1 x y : Int} (h : LemR x0 y0 p0 p1 q0 q1 x y) (hx : 0 ≤ x0 ∧ x0 < 281474976710656) (hy : 0 ≤ y0 ∧ y0 < 281474976710656) (hxy : y0 ≤ x0) :
    ((-16777216 ≤ p0 ∧ p0 ≤ 16777216) ∧ (-16777216 ≤ p1 ∧ p1 ≤ 16777216) ∧ (-16777216 ≤ q0 ∧ q0 ≤ 16777216) ∧ (-16777216 ≤ q1 ∧ q1 ≤ 16777216)) ∧ (0 ≤ x + p0 ∧ x + p0 ≤ 281474976710656) ∧ (0 ≤ x + p1 ∧ x + p1 ≤ 281474976710656) ∧ (0 ≤ y + q0 ∧ y + q0 ≤ 281474976710656) ∧ (0 ≤ y + q1 ∧ y + q1 ≤ 281474976710656) := by
  obtain ⟨⟨e, P0, P1, Q0, Q1, h1⟩, h2⟩ := h
  refine ⟨h1.bd, ?_⟩
  have := h1.n0; have := h1.n1; have := h1.m0; have := h1.m1
  rcases h2 with ⟨rfl, rfl, rfl, rfl, rfl, rfl⟩ | h2
  · omega
  · omega
theorem LemR.step {x0 y0 p0 p1 q0 q1 x y k : Int} (h : LemR x0 y0 p0 p1 q0 q1 x y) (hx : 0 ≤ x0 ∧ x0 < 281474976710656) (hy : 0 ≤ y0 ∧ y0 < 281474976710656) (v0 : 0 < y + q0) (v1 : 0 < y + q1) (k0 : k = (x + p0) / (y + q0)) (k1 : k = (x + p1) / (y + q1)) :
    LemR x0 y0 q0 q1 (p0 - k * q0) (p1 - k * q1) y (x - k * y) ∧ (x - k * y) + (p0 - k * q0) < y + q0 := by
  obtain ⟨⟨e, P0, P1, Q0, Q1, h1⟩, h2⟩ := h
  obtain ⟨a, b, c, d⟩ := h1.step hx hy v0 v1 k0 k1
  refine ⟨⟨⟨_, _, _, _, _, a⟩, .inr ⟨b, c, ?_, ?_⟩⟩, b⟩
  · rcases h2 with ⟨rfl, rfl, rfl, rfl, rfl, rfl⟩ | h2
    · omega
    · omega
  · rcases h2 with ⟨rfl, rfl, rfl, rfl, rfl, rfl⟩ | h2
    · omega
    · omega
theorem drop_bd {xs : List Int} {m j : Nat} (hx : digs xs) (hl : xs.length ≤ m + 3) (hj : m < j) : val (xs.drop j) < 4294967296 := by
  rw [val_drop_div hx]
  have h1 := val_lt hx
  have h2 : 65536 ^ xs.length ≤ 65536 ^ j * 65536 ^ 2 := by rw [← Nat.pow_add]; exact Nat.pow_le_pow_right (by omega) (by omega)
  exact Nat.div_lt_of_lt_mul (Nat.lt_of_lt_of_le h1 h2)
end Go.Proofs.Ytpamnpdigoikoaa

/- Rests by the highest digits: the program's search for how often both numbers are taken in them. Conditions: two numbers below 2^48, the first not below the second. -/
namespace Go.Proofs.Ytpamnpdigoikoaa
open Go.RowKit
set_option linter.unusedVariables false

/-- a block of four numbers of one's own -/
def Loc4 (w : World) (b : Nat) (p0 p1 q0 q1 : Int) : Prop := b < w.heap.size ∧ (w.cell? ⟨b, 0, none⟩ = some (.int .i64 p0) ∧ w.cell? ⟨b, 1, none⟩ = some (.int .i64 p1) ∧ w.cell? ⟨b, 2, none⟩ = some (.int .i64 q0) ∧ w.cell? ⟨b, 3, none⟩ = some (.int .i64 q1)) ∧ w.frozen? ⟨b, 0, none⟩ = false ∧ w.frozen? ⟨b, 1, none⟩ = false ∧ w.frozen? ⟨b, 2, none⟩ = false ∧ w.frozen? ⟨b, 3, none⟩ = false
theorem Loc4.old {w w' : World} {b : Nat} {p0 p1 q0 q1 : Int} (h : Loc4 w b p0 p1 q0 q1) (g : Below w.heap.size w w') : Loc4 w' b p0 p1 q0 q1 := by
  obtain ⟨h1, ⟨a, b', c, d⟩, e, f, g', i⟩ := h
  exact ⟨Nat.lt_of_lt_of_le h1 g.size, ⟨(g.cell (p := ⟨b, 0, none⟩) h1).trans a, (g.cell (p := ⟨b, 1, none⟩) h1).trans b', (g.cell (p := ⟨b, 2, none⟩) h1).trans c, (g.cell (p := ⟨b, 3, none⟩) h1).trans d⟩, (g.frozen (p := ⟨b, 0, none⟩) h1).trans e, (g.frozen (p := ⟨b, 1, none⟩) h1).trans f, (g.frozen (p := ⟨b, 2, none⟩) h1).trans g', (g.frozen (p := ⟨b, 3, none⟩) h1).trans i⟩
theorem Loc4.new (w : World) (p0 p1 q0 q1 : Int) (t : TypeId) : Loc4 (w.alloc (.cells #[.int .i64 p0, .int .i64 p1, .int .i64 q0, .int .i64 q1] t)) w.heap.size p0 p1 q0 q1 := by
  refine ⟨by simp, ⟨?_, ?_, ?_, ?_⟩, ?_, ?_, ?_, ?_⟩ <;> simp [go_sem]
theorem Loc4.set {W : World} {b : Nat} {v0 v1 v2 v3 : Int} (h : Loc4 W b v0 v1 v2 v3) (p0 p1 q0 q1 : Int) : Loc4 ((((W.setCell ⟨b, 0, none⟩ (.int .i64 p0)).setCell ⟨b, 1, none⟩ (.int .i64 p1)).setCell ⟨b, 2, none⟩ (.int .i64 q0)).setCell ⟨b, 3, none⟩ (.int .i64 q1)) b p0 p1 q0 q1 := by
  obtain ⟨h1, ⟨a0, a1, a2, a3⟩, f0, f1, f2, f3⟩ := h
  have o : ∀ (w : World) (i j : Nat) (v : Value), i ≠ j → (w.setCell ⟨b, j, none⟩ v).cell? ⟨b, i, none⟩ = w.cell? ⟨b, i, none⟩ := fun w i j v hn => World.cell?_setCell_other _ _ _ _ (by intro h; injection h with _ h2; omega)
  refine ⟨by simpa [World.setCell] using h1, ⟨?_, ?_, ?_, ?_⟩, by simpa using f0, by simpa using f1, by simpa using f2, by simpa using f3⟩
  · rw [o _ 0 3 _ (by omega), o _ 0 2 _ (by omega), o _ 0 1 _ (by omega)]
    exact World.cell?_setCell_same _ _ _ a0
  · rw [o _ 1 3 _ (by omega), o _ 1 2 _ (by omega)]
    exact World.cell?_setCell_same _ _ _ ((o _ 1 0 _ (by omega)).trans a1)
  · rw [o _ 2 3 _ (by omega)]
    exact World.cell?_setCell_same _ _ _ ((o _ 2 1 _ (by omega)).trans ((o _ 2 0 _ (by omega)).trans a2))
  · exact World.cell?_setCell_same _ _ _ ((o _ 3 2 _ (by omega)).trans ((o _ 3 1 _ (by omega)).trans ((o _ 3 0 _ (by omega)).trans a3)))
theorem Loc4.far1 {W : World} {b c i : Nat} {v0 v1 v2 v3 : Int} {v : Value} (h : Loc4 W b v0 v1 v2 v3) (hn : b ≠ c) : Loc4 (W.setCell ⟨c, i, none⟩ v) b v0 v1 v2 v3 := by
  obtain ⟨h1, ⟨a0, a1, a2, a3⟩, f0, f1, f2, f3⟩ := h
  have o : ∀ (j : Nat), (W.setCell ⟨c, i, none⟩ v).cell? ⟨b, j, none⟩ = W.cell? ⟨b, j, none⟩ := fun j => World.cell?_setCell_other _ _ _ _ (by intro h; injection h with h2 _; omega)
  exact ⟨by simpa [World.setCell] using h1, ⟨(o 0).trans a0, (o 1).trans a1, (o 2).trans a2, (o 3).trans a3⟩, by simpa using f0, by simpa using f1, by simpa using f2, by simpa using f3⟩
theorem set4_below {n : Nat} {a W : World} (h : Below n a W) {b : Nat} (hb : n ≤ b) (v0 v1 v2 v3 : Value) : Below n a ((((W.setCell ⟨b, 0, none⟩ v0).setCell ⟨b, 1, none⟩ v1).setCell ⟨b, 2, none⟩ v2).setCell ⟨b, 3, none⟩ v3) :=
  (((h.setCell (p := ⟨b, 0, none⟩) hb _).setCell (p := ⟨b, 1, none⟩) hb _).setCell (p := ⟨b, 2, none⟩) hb _).setCell (p := ⟨b, 3, none⟩) hb _
end Go.Proofs.Ytpamnpdigoikoaa

/- One step of the program's search for a common divisor: two numbers with the same divisors in common, the second one less. Conditions: numbers, the first above the second, which is not 0. -/
namespace Go.Proofs.Ytpamnpdigoikoaa
open Go.RowKit
set_option linter.unusedVariables false

theorem gcd_int {A B X Y : Nat} {p0 p1 q0 q1 : Int} (h : ∀ A B : Int, Int.gcd (p0 * A + p1 * B) (q0 * A + q1 * B) = Int.gcd A B) (hX : p0 * (A : Int) + p1 * (B : Int) = (X : Int)) (hY : q0 * (A : Int) + q1 * (B : Int) = (Y : Int)) : Nat.gcd X Y = Nat.gcd A B := by
  have := h A B
  rw [hX, hY, Int.gcd_natCast_natCast, Int.gcd_natCast_natCast] at this
  exact this
/-- what the highest digits say of a number -/
theorem high_bd (A m : Nat) : (((A / 65536 ^ m : Nat) : Int) * ((65536 ^ m : Nat) : Int) ≤ (A : Int)) ∧ (A : Int) < (((A / 65536 ^ m : Nat) : Int) + 1) * ((65536 ^ m : Nat) : Int) := by
  have hP : 0 < 65536 ^ m := Nat.pow_pos (by omega)
  have h1 := Nat.div_mul_le_self A (65536 ^ m)
  have h2 : A < (A / 65536 ^ m + 1) * 65536 ^ m := by
    have := Nat.lt_div_mul_add (a := A) hP
    rw [Nat.add_mul]
    omega
  exact ⟨by exact_mod_cast h1, by exact_mod_cast h2⟩
/-- what a step brings, in numbers -/
theorem rests_nat {A B m : Nat} {p0 p1 q0 q1 : Int} (h : GoodRests ((A / 65536 ^ m : Nat) : Int) ((B / 65536 ^ m : Nat) : Int) p0 p1 q0 q1) (hn : ¬ (p0 = 1 ∧ p1 = 0 ∧ q0 = 0 ∧ q1 = 1)) (hA : 0 < A) (hB : 0 < B) :
    ∃ X Y : Nat, (A : Int) * p0 + (B : Int) * p1 = (X : Int) ∧ (A : Int) * q0 + (B : Int) * q1 = (Y : Int) ∧ X ≤ B ∧ Y < B ∧ Y < X ∧ Nat.gcd X Y = Nat.gcd A B ∧ (-16777216 ≤ p0 ∧ p0 ≤ 16777216) ∧ (-16777216 ≤ p1 ∧ p1 ≤ 16777216) ∧ (-16777216 ≤ q0 ∧ q0 ≤ 16777216) ∧ (-16777216 ≤ q1 ∧ q1 ≤ 16777216) := by
  rcases h with h | ⟨x, y, e, P0, P1, Q0, Q1, hL, l0, l1, g0, g1⟩
  · exact absurd h hn
  have a := high_bd A m
  have b := high_bd B m
  have hP : (0 : Int) < ((65536 ^ m : Nat) : Int) := by exact_mod_cast (Nat.pow_pos (by omega) : 0 < 65536 ^ m)
  obtain ⟨r1, r2, r3, r4, r5⟩ := hL.rests hP (Int.natCast_nonneg _) (Int.natCast_nonneg _) a.1 a.2 b.1 b.2 (by omega) (by omega) l0 l1 g0 g1
  have bd := hL.bd
  refine ⟨(p0 * A + p1 * B).toNat, (q0 * A + q1 * B).toNat, ?_, ?_, by omega, by omega, by omega, gcd_int hL.gc (by omega) (by omega), bd⟩
  · rw [Int.mul_comm _ p0, Int.mul_comm _ p1]; omega
  · rw [Int.mul_comm _ q0, Int.mul_comm _ q1]; omega
theorem lt48 {a : Nat} (h : a < 281474976710656) : ((a : Nat) : Int) < 281474976710656 := by omega
theorem three_lt {A m : Nat} (h : (natL A).length ≤ m + 3) : A / 65536 ^ m < 281474976710656 := by
  have h1 := natL_lt_pow A
  have h2 : 65536 ^ (natL A).length ≤ 65536 ^ m * 65536 ^ 3 := by rw [← Nat.pow_add]; exact Nat.pow_le_pow_right (by omega) (by omega)
  exact Nat.div_lt_of_lt_mul (Nat.lt_of_lt_of_le h1 h2)
theorem cell_lt {w : World} {b i : Nat} {v : Value} (h : w.cell? ⟨b, i, none⟩ = some v) : b < w.heap.size := by
  apply Nat.lt_of_not_le
  intro hn
  have e : w.heap[b]? = none := Array.getElem?_eq_none hn
  simp [World.cell?, e] at h
def valM (A B : Nat) (fa fb : Int) : Nat := ((A : Int) * fa + (B : Int) * fb).toNat
def MixC (A B : Nat) (fa fb : Int) : Prop := ∃ X : Nat, (A : Int) * fa + (B : Int) * fb = (X : Int) ∧ X ≤ B ∧ (-16777216 ≤ fa ∧ fa ≤ 16777216) ∧ (-16777216 ≤ fb ∧ fb ≤ 16777216)
theorem MixC.bdA {A B : Nat} {fa fb : Int} (h : MixC A B fa fb) : -16777216 ≤ fa ∧ fa ≤ 16777216 := by obtain ⟨X, -, -, h, -⟩ := h; exact h
theorem MixC.bdB {A B : Nat} {fa fb : Int} (h : MixC A B fa fb) : -16777216 ≤ fb ∧ fb ≤ 16777216 := by obtain ⟨X, -, -, -, h⟩ := h; exact h
theorem MixC.eq {A B : Nat} {fa fb : Int} (h : MixC A B fa fb) : (A : Int) * fa + (B : Int) * fb = (valM A B fa fb : Int) := by obtain ⟨X, h, -⟩ := h; unfold valM; rw [h]; rfl
theorem MixC.le {A B : Nat} {fa fb : Int} (h : MixC A B fa fb) : valM A B fa fb ≤ B := by obtain ⟨X, h, k, -⟩ := h; unfold valM; rw [h]; exact k
end Go.Proofs.Ytpamnpdigoikoaa
