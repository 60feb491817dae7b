/- Mathematics of common divisors by the highest digits: rests of two numbers as sums of their multiples, as long as the digits tell the quotients. -/
import Derived.Test.YtpamnpdigoikoaaDoorVJ
namespace Go.Proofs.YtpamnpdigoikoaaDoor
open Go.RowKit
set_option linter.unusedVariables false
set_option maxRecDepth 100000

theorem sq_bound {Q a b X : Int} (hQ : 0 ≤ Q) (hb : 0 ≤ b) (h1 : Q * a ≤ X + 1) (h2 : Q * b ≤ X) (hX : 0 ≤ X) (hab : X + 1 ≤ a * b) : Q * Q ≤ X := by
  have e1 : Q * Q * (X + 1) ≤ Q * Q * (a * b) := Int.mul_le_mul_of_nonneg_left hab (Int.mul_nonneg hQ hQ)
  have e2 : (Q * a) * (Q * b) ≤ (X + 1) * X := Int.mul_le_mul h1 h2 (Int.mul_nonneg hQ hb) (by omega)
  have e3 : Q * Q * (a * b) = (Q * a) * (Q * b) := by grind
  have e4 : (Q * Q) * (X + 1) ≤ X * (X + 1) := by rw [Int.mul_comm X (X + 1)]; omega
  exact Int.le_of_mul_le_mul_right e4 (by omega)
theorem small_of_sq {Q X : Int} (hQ : 0 ≤ Q) (h : Q * Q ≤ X) (hX : X < 281474976710656) : Q ≤ 16777216 := by
  apply Int.not_lt.1
  intro hlt
  have := Int.mul_le_mul (show 16777217 ≤ Q by omega) (show 16777217 ≤ Q by omega) (by omega) hQ
  omega
theorem cross_lt {r0 r1 v0 v1 : Int} (a0 : 0 ≤ r0) (a1 : r0 < v0) (b0 : 0 ≤ r1) (b1 : r1 < v1) : r0 * v1 - r1 * v0 < v0 * v1 ∧ r1 * v0 - r0 * v1 < v0 * v1 := by
  have h1 := Int.mul_nonneg b0 (show 0 ≤ v0 by omega)
  have h2 := Int.mul_nonneg a0 (show 0 ≤ v1 by omega)
  have h3 := Int.mul_lt_mul_of_pos_right a1 (show 0 < v1 by omega)
  have h4 := Int.mul_lt_mul_of_pos_right b1 (show 0 < v0 by omega)
  rw [Int.mul_comm v1 v0] at h4
  omega
/-- two rests, one behind the other: how often the two numbers are taken in them, and what the highest digits tell -/
structure Lem (x0 y0 p0 p1 q0 q1 x y e P0 P1 Q0 Q1 : Int) : Prop where
  sg : e = 1 ∨ e = -1
  ep0 : p0 = e * P0
  ep1 : p1 = -(e * P1)
  eq0 : q0 = -(e * Q0)
  eq1 : q1 = e * Q1
  b0 : 0 ≤ P0 ∧ P0 ≤ 16777216
  b1 : 0 ≤ P1 ∧ P1 ≤ 16777216
  c0 : 0 ≤ Q0 ∧ Q0 ≤ 16777216
  c1 : 0 ≤ Q1 ∧ Q1 ≤ 16777216
  n0 : 0 ≤ x + p0
  n1 : 0 ≤ x + p1
  m0 : 0 ≤ y + q0
  m1 : 0 ≤ y + q1
  f1 : x0 + 1 = Q1 * (x + p0) + P1 * (y + q0)
  f2 : y0 = Q0 * (x + p0) + P0 * (y + q0)
  f3 : x0 = Q1 * (x + p1) + P1 * (y + q1)
  f4 : y0 + 1 = Q0 * (x + p1) + P0 * (y + q1)
  dt : e * ((x + p0) * (y + q1) - (x + p1) * (y + q0)) = x0 + y0 + 1
  lx : x = p0 * x0 + p1 * y0
  ly : y = q0 * x0 + q1 * y0
  gc : ∀ A B : Int, Int.gcd (p0 * A + p1 * B) (q0 * A + q1 * B) = Int.gcd A B
theorem Lem.start {x0 y0 : Int} (hx : 0 ≤ x0) (hy : 0 ≤ y0) : Lem x0 y0 1 0 0 1 x0 y0 1 1 0 0 1 := by
  refine ⟨.inl rfl, by omega, by omega, by omega, by omega, by omega, by omega, by omega, by omega, by omega, by omega, by omega, by omega, by omega, by omega, by omega, by omega, ?_, by omega, by omega, ?_⟩
  · grind
  · intro A B
    simp
theorem gcd_step (X Y k : Int) : Int.gcd Y (X - k * Y) = Int.gcd X Y := by
  rw [Int.gcd_comm X Y]
  simp
/-- what a round brings -/
theorem Lem.step {x0 y0 p0 p1 q0 q1 x y e P0 P1 Q0 Q1 k : Int} (h : Lem x0 y0 p0 p1 q0 q1 x y e P0 P1 Q0 Q1) (hx : 0 ≤ x0 ∧ x0 < 281474976710656) (hy : 0 ≤ y0 ∧ y0 < 281474976710656) (v0 : 0 < y + q0) (v1 : 0 < y + q1) (k0 : k = (x + p0) / (y + q0)) (k1 : k = (x + p1) / (y + q1)) :
    Lem x0 y0 q0 q1 (p0 - k * q0) (p1 - k * q1) y (x - k * y) (-e) Q0 Q1 (P0 + k * Q0) (P1 + k * Q1) ∧ (x - k * y) + (p0 - k * q0) < y + q0 ∧ (x - k * y) + (p1 - k * q1) < y + q1 ∧ 0 ≤ k := by
  obtain ⟨sg, ep0, ep1, eq0, eq1, b0, b1, c0, c1, n0, n1, m0, m1, f1, f2, f3, f4, dt, lx, ly, gc⟩ := h
  obtain ⟨u0, hu0⟩ : ∃ u, u = x + p0 := ⟨_, rfl⟩
  obtain ⟨u1, hu1⟩ : ∃ u, u = x + p1 := ⟨_, rfl⟩
  obtain ⟨w0, hw0⟩ : ∃ u, u = y + q0 := ⟨_, rfl⟩
  obtain ⟨w1, hw1⟩ : ∃ u, u = y + q1 := ⟨_, rfl⟩
  have r0 : (x - k * y) + (p0 - k * q0) = u0 - k * w0 := by rw [hu0, hw0]; grind
  have r1 : (x - k * y) + (p1 - k * q1) = u1 - k * w1 := by rw [hu1, hw1]; grind
  rw [← hu0, ← hw0] at k0
  rw [← hu1, ← hw1] at k1
  rw [← hu0, ← hw0] at f1 f2
  rw [← hu1, ← hw1] at f3 f4
  rw [← hu0, ← hw0, ← hu1, ← hw1] at dt
  rw [← hu0] at n0
  rw [← hu1] at n1
  rw [← hw0] at m0 v0
  rw [← hw1] at m1 v1
  have hk0 : 0 ≤ k := by rw [k0]; exact Int.ediv_nonneg n0 m0
  have s0 : u0 - k * w0 = u0 % w0 := by rw [k0, Int.emod_def, Int.mul_comm]
  have s1 : u1 - k * w1 = u1 % w1 := by rw [k1, Int.emod_def, Int.mul_comm]
  have t0 := Int.emod_nonneg u0 (show w0 ≠ 0 by omega)
  have t1 := Int.emod_nonneg u1 (show w1 ≠ 0 by omega)
  have z0 := Int.emod_lt_of_pos u0 v0
  have z1 := Int.emod_lt_of_pos u1 v1
  rw [← s0] at t0 z0
  rw [← s1] at t1 z1
  have hD : x0 + y0 + 1 < w0 * w1 := by
    have hc := cross_lt t0 z0 t1 z1
    have e1 : (u0 - k * w0) * w1 - (u1 - k * w1) * w0 = u0 * w1 - u1 * w0 := by grind
    have e2 : (u1 - k * w1) * w0 - (u0 - k * w0) * w1 = -(u0 * w1 - u1 * w0) := by grind
    rw [e1, e2] at hc
    rcases sg with rfl | rfl
    · omega
    · omega
  have hQ0 : 0 ≤ k * Q0 := Int.mul_nonneg hk0 c0.1
  have hQ1 : 0 ≤ k * Q1 := Int.mul_nonneg hk0 c1.1
  have g1 : x0 + 1 = (P1 + k * Q1) * w0 + Q1 * (u0 - k * w0) := by rw [f1]; grind
  have g2 : y0 = (P0 + k * Q0) * w0 + Q0 * (u0 - k * w0) := by rw [f2]; grind
  have g3 : x0 = (P1 + k * Q1) * w1 + Q1 * (u1 - k * w1) := by rw [f3]; grind
  have g4 : y0 + 1 = (P0 + k * Q0) * w1 + Q0 * (u1 - k * w1) := by rw [f4]; grind
  have d1 := Int.mul_nonneg c1.1 t0
  have d2 := Int.mul_nonneg c0.1 t0
  have d3 := Int.mul_nonneg c1.1 t1
  have d4 := Int.mul_nonneg c0.1 t1
  have B1 : P1 + k * Q1 ≤ 16777216 := by
    refine small_of_sq (X := x0) (by omega) (sq_bound (a := w0) (b := w1) (by omega) m1 ?_ ?_ hx.1 (by omega)) hx.2
    · omega
    · omega
  have B0 : P0 + k * Q0 ≤ 16777216 := by
    refine small_of_sq (X := y0) (by omega) (sq_bound (a := w1) (b := w0) (by omega) m0 ?_ ?_ hy.1 (by rw [Int.mul_comm]; omega)) hy.2
    · omega
    · omega
  refine ⟨⟨by omega, ?_, ?_, ?_, ?_, c0, c1, by omega, by omega, by omega, by omega, by omega, by omega, ?_, ?_, ?_, ?_, ?_, ly, ?_, ?_⟩, by omega, by omega, hk0⟩
  · rw [eq0]; grind
  · rw [eq1]; grind
  · rw [ep0, eq0]; grind
  · rw [ep1, eq1]; grind
  · rw [r0, ← hw0]; exact g1
  · rw [r0, ← hw0]; exact g2
  · rw [r1, ← hw1]; exact g3
  · rw [r1, ← hw1]; exact g4
  · rw [r0, r1, ← hw0, ← hw1, ← dt]; grind
  · rw [lx, ly]; grind
  · intro A B
    rw [show (p0 - k * q0) * A + (p1 - k * q1) * B = (p0 * A + p1 * B) - k * (q0 * A + q1 * B) by grind, gcd_step]
    exact gc A B
/-- the rests themselves: not below 0, one below the other, and not above the second number -/
theorem Lem.rests {x0 y0 p0 p1 q0 q1 x y e P0 P1 Q0 Q1 A B S : Int} (h : Lem x0 y0 p0 p1 q0 q1 x y e P0 P1 Q0 Q1) (hS : 0 < S) (hx : 0 ≤ x0) (hy : 0 ≤ y0) (a0 : x0 * S ≤ A) (a1 : A < (x0 + 1) * S) (b0 : y0 * S ≤ B) (b1 : B < (y0 + 1) * S)
    (hA0 : 0 < A) (hB0 : 0 < B) (l0 : y + q0 < x + p0) (l1 : y + q1 < x + p1) (g0 : x + p0 ≤ y0) (g1 : x + p1 ≤ y0 + 1) :
    0 ≤ p0 * A + p1 * B ∧ p0 * A + p1 * B ≤ B ∧ 0 ≤ q0 * A + q1 * B ∧ q0 * A + q1 * B < B ∧ q0 * A + q1 * B < p0 * A + p1 * B := by
  obtain ⟨L, hL⟩ : ∃ L, L = A * (y0 + 1) - B * x0 := ⟨_, rfl⟩
  obtain ⟨M, hM⟩ : ∃ M, M = B * (x0 + 1) - A * y0 := ⟨_, rfl⟩
  have e1 : A * (y0 + 1) ≥ x0 * S * (y0 + 1) := Int.mul_le_mul_of_nonneg_right a0 (by omega)
  have e2 : B * x0 ≤ (y0 + 1) * S * x0 := Int.mul_le_mul_of_nonneg_right (by omega) (by omega)
  have e3 : x0 * S * (y0 + 1) = (y0 + 1) * S * x0 := by grind
  have e4 : B * (x0 + 1) ≥ y0 * S * (x0 + 1) := Int.mul_le_mul_of_nonneg_right b0 (by omega)
  have e5 : A * y0 ≤ (x0 + 1) * S * y0 := Int.mul_le_mul_of_nonneg_right (by omega) (by omega)
  have e6 : y0 * S * (x0 + 1) = (x0 + 1) * S * y0 := by grind
  have hL0 : 0 ≤ L := by omega
  have hM0 : 0 ≤ M := by omega
  have hLM : L + M = A + B := by rw [hL, hM]; grind
  obtain ⟨D, hDe⟩ : ∃ D, D = x0 + y0 + 1 := ⟨_, rfl⟩
  have hD : 0 < D := by omega
  have iA : D * A = L * (x0 + 1) + M * x0 := by rw [hL, hM, hDe]; grind
  have iB : D * B = L * y0 + M * (y0 + 1) := by rw [hL, hM, hDe]; grind
  have iX : D * (p0 * A + p1 * B) = L * (x + p0) + M * (x + p1) := by
    rw [show D * (p0 * A + p1 * B) = p0 * (D * A) + p1 * (D * B) by grind, iA, iB, h.lx]; grind
  have iY : D * (q0 * A + q1 * B) = L * (y + q0) + M * (y + q1) := by
    rw [show D * (q0 * A + q1 * B) = q0 * (D * A) + q1 * (D * B) by grind, iA, iB, h.ly]; grind
  have c1 := Int.mul_nonneg hL0 h.n0
  have c2 := Int.mul_nonneg hM0 h.n1
  have c3 := Int.mul_nonneg hL0 h.m0
  have c4 := Int.mul_nonneg hM0 h.m1
  have c5 := Int.mul_le_mul_of_nonneg_left g0 hL0
  have c6 := Int.mul_le_mul_of_nonneg_left g1 hM0
  have c7 := Int.mul_le_mul_of_nonneg_left (show y + q0 ≤ y0 - 1 by omega) hL0
  have c8 := Int.mul_le_mul_of_nonneg_left (show y + q1 ≤ y0 by omega) hM0
  have c9 : L * (y0 - 1) = L * y0 - L := by grind
  have c10 : M * (y0 + 1) = M * y0 + M := by grind
  have d7 := Int.mul_le_mul_of_nonneg_left (show y + q0 ≤ x + p0 - 1 by omega) hL0
  have d8 := Int.mul_le_mul_of_nonneg_left (show y + q1 ≤ x + p1 - 1 by omega) hM0
  have d9 : L * (x + p0 - 1) = L * (x + p0) - L := by grind
  have d10 : M * (x + p1 - 1) = M * (x + p1) - M := by grind
  refine ⟨?_, ?_, ?_, ?_, ?_⟩
  · exact Int.le_of_mul_le_mul_left (a := D) (by rw [iX]; omega) hD
  · exact Int.le_of_mul_le_mul_left (a := D) (by rw [iX, iB]; omega) hD
  · exact Int.le_of_mul_le_mul_left (a := D) (by rw [iY]; omega) hD
  · exact Int.lt_of_mul_lt_mul_left (a := D) (by rw [iY, iB]; omega) (by omega)
  · exact Int.lt_of_mul_lt_mul_left (a := D) (by rw [iY, iX]; omega) (by omega)
end Go.Proofs.YtpamnpdigoikoaaDoor
