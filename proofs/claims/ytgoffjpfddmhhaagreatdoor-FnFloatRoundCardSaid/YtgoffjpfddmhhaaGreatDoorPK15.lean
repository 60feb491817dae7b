/- The greatest common divisor, by the specification: by rests. Conditions: numbers, 2^16 digits at most. -/
import Derived.Test.YtgoffjpfddmhhaaGreatDoorPK10
import Derived.Deep.LoopGhost
import Derived.Test.YtgoffjpfddmhhaaGreatDoorPK14
namespace Go.Proofs.YtgoffjpfddmhhaaGreatDoor
open Go.RowKit
set_option linter.unusedVariables false
set_option maxRecDepth 100000

set_option maxRecDepth 100000 in
set_option maxHeartbeats 4000000 in
theorem sGcd (a b : Option Addr) (la lb ca cb : Nat) (xs ys : List Int) (w : World) (hA : InI w a la ca xs) (hB : InI w b lb cb ys) (hx : digs xs) (hy : digs ys) (hla : la ≤ 65536) (hlb : lb ≤ 65536) :
    Calls Tryz.prog 64 #[.slice a la ca, .slice b lb cb] w fun e w' => (∃ av cv, e = .returned (.slice av (natL (Nat.gcd (val xs) (val ys))).length cv) ∧ OI w' w.heap.size av cv (natL (Nat.gcd (val xs) (val ys)))) ∧ Below w.heap.size w w' := by
  have pa := hA.1
  have pb := hB.1
  have T1 := hd (sTrim a la ca xs w hA hx (by omega))
  have T2 := hd (fun w' (h : Below w.heap.size w w') => sTrim b lb cb ys w' (hB.old h) hy (by omega))
  have l1 : Hid ((natL (val xs)).length ≤ 65536) := by
    have := natL_len.2 (val_lt hx)
    show _ ≤ _
    omega
  have l2 : Hid ((natL (val ys)).length ≤ 65536) := by
    have := natL_len.2 (val_lt hy)
    show _ ≤ _
    omega
  obtain ⟨G, hG⟩ : ∃ G, G = Nat.gcd (val xs) (val ys) := ⟨_, rfl⟩
  rw [← hG]
  have hG' := hd hG
  clear hG hx hy
  go_enter Tryz.func64, Tryz.ntmps64
  go_wp2_with fail
  refine T1.out.mono ?_
  rintro e w1 ⟨⟨av, cv, rfl, hO⟩, hb1⟩
  go_wp2_with fail
  refine (T2.out _ hb1).mono ?_
  rintro e w2 ⟨⟨av2, cv2, rfl, hO2⟩, hb2⟩
  have hO1 := hO.later hb2
  have hO2' := hO2.mono hb1.size
  have hBB := old_trans hb1 hb2
  clear T1 T2 hO hO2 hb1 hb2
  go_wp2_with fail
  go_loopg [5, 6] (val ys) (fun k s t wr => ∃ (u : Nat) (av : Option Addr) (cv : Nat) (av2 : Option Addr) (cv2 : Nat), s = .slice av (natL u).length cv ∧ t = .slice av2 (natL k).length cv2 ∧ OI wr w.heap.size av cv (natL u) ∧ OI wr w.heap.size av2 cv2 (natL k) ∧ Nat.gcd u k = G ∧ (natL u).length ≤ 65536 ∧ (natL k).length ≤ 65536 ∧ Below w.heap.size w wr)
  case atStart => exact ⟨val xs, av, cv, av2, cv2, rfl, rfl, hO1, hO2', hG'.out.symm, l1.out, l2.out, hBB⟩
  case round =>
    clear hO1 hO2' hBB
    obtain ⟨u, av3, cv3, av4, cv4, rfl, rfl, hOu, hOk, hg, lu, lk, hB9⟩ := hrel
    by_cases h0 : gk = 0
    · subst h0
      have hgu : Hid (u = G) := by show _ = _; rw [← hg, Nat.gcd_zero_right]
      have e0 : natL 0 = [] := natL_zero
      rw [e0] at hOk
      rw [e0]
      clear hg lk
      go_wp2
      go_ret
      have h9 : u = G := hgu.out
      subst h9
      exact ⟨⟨_, _, rfl, hOu⟩, hB9⟩
    · have hkp : 0 < (natL gk).length := natL_length_pos (by omega)
      have D := hd (sDiv av3 av4 _ _ cv3 cv4 _ _ wr hOu.inI hOk.inI (digs_natL u) (digs_natL gk) (topped_natL u) (topped_natL gk) lu lk hkp)
      rw [val_natL, val_natL] at D
      have hml := Nat.mod_lt u (show 0 < gk by omega)
      have hl9 := hd (Nat.le_trans (natL_le (Nat.le_of_lt hml)) lk)
      have hg9 : Hid (Nat.gcd gk (u % gk) = G) := by
        show _ = _
        rw [← hg, Nat.gcd_comm u gk, Nat.gcd_rec gk u, Nat.gcd_comm (u % gk) gk]
      have hml' := hd hml
      have lk' := hd lk
      have hpi : (0 : Int) < ((natL gk).length : Int) := by omega
      clear hml hg lu lk h0 hkp
      generalize natL (u / gk) = ql at *
      go_wp2_with fail
      refine D.out.mono ?_
      rintro e w3 ⟨⟨avq, cvq, avr, cvr, rfl, hOq, hOr, -⟩, hb3⟩
      have sB := hB9.size
      go_wp2_with fail
      go_roundg (u % gk)
      case measure => exact hml'.out
      case rel => exact ⟨gk, av4, cv4, avr, cvr, rfl, rfl, hOk.later hb3, hOr.mono sB, hg9.out, lk'.out, hl9.out, old_trans hB9 hb3⟩
end Go.Proofs.YtgoffjpfddmhhaaGreatDoor

/- The program's division for common divisors: the divisor and the rest. Conditions: digits, no needless noughts in the divisor. -/
namespace Go.Proofs.YtgoffjpfddmhhaaGreatDoor
open Go.RowKit
set_option linter.unusedVariables false
set_option maxRecDepth 100000

set_option maxHeartbeats 2000000 in
theorem iDivided (a b : Option Addr) (la lb ca cb : Nat) (xs ys : List Int) (w : World) (hA : InI w a la ca xs) (hB : InI w b lb cb ys) (hx : digs xs) (hy : digs ys) (ty : topped ys) (hla : la ≤ 65536) (hlb : lb ≤ 65536) (h0 : 0 < lb) :
    Calls Tryz.prog 105 #[.slice a la ca, .slice b lb cb] w fun e w' => (∃ av cv, e = .returned (.tuple #[.slice b lb cb, .slice av (natL (val xs % val ys)).length cv]) ∧ OI w' w.heap.size av cv (natL (val xs % val ys))) ∧ Below w.heap.size w w' := by
  have C := hd (iCut a b la lb ca cb xs ys w hA hB hx hy ty hla hlb h0)
  generalize natL (val xs / val ys) = ql at *
  generalize natL (val xs % val ys) = rl at *
  go_enter Tryz.func105, Tryz.ntmps105
  go_wp2_with fail
  refine C.out.mono ?_
  rintro e w1 ⟨⟨av, cv, av2, cv2, rfl, hO, hO2, -⟩, hb1⟩
  go_wp2
  go_ret2
  exact ⟨⟨_, _, rfl, hO2⟩, hb1⟩
end Go.Proofs.YtgoffjpfddmhhaaGreatDoor

/- Mathematics of common divisors by the highest digits: rests of two numbers as sums of their multiples, as long as the digits tell the quotients. -/
namespace Go.Proofs.YtgoffjpfddmhhaaGreatDoor
open Go.RowKit
set_option linter.unusedVariables false
set_option maxRecDepth 100000

theorem sq_bound {Q a b X : Int} (hQ : 0 ≤ Q) (hb : 0 ≤ b) (h1 : Q * a ≤ X + 1) (h2 : Q * b ≤ X) (hX : 0 ≤ X) (hab : X + 1 ≤ a * b) : Q * Q ≤ X := by
  have e1 : Q * Q * (X + 1) ≤ Q * Q * (a * b) := Int.mul_le_mul_of_nonneg_left hab (Int.mul_nonneg hQ hQ)
  have e2 : (Q * a) * (Q * b) ≤ (X + 1) * X := Int.mul_le_mul h1 h2 (Int.mul_nonneg hQ hb) (by omega)
  have e3 : Q * Q * (a * b) = (Q * a) * (Q * b) := by grind
  have e4 : (Q * Q) * (X + 1) ≤ X * (X + 1) := by rw [Int.mul_comm X (X + 1)]; omega
  exact Int.le_of_mul_le_mul_right e4 (by omega)
theorem small_of_sq {Q X : Int} (hQ : 0 ≤ Q) (h : Q * Q ≤ X) (hX : X < 281474976710656) : Q ≤ 16777216 := by
  apply Int.not_lt.1
  intro hlt
  have := Int.mul_le_mul (show 16777217 ≤ Q by omega) (show 16777217 ≤ Q by omega) (by omega) hQ
  omega
theorem cross_lt {r0 r1 v0 v1 : Int} (a0 : 0 ≤ r0) (a1 : r0 < v0) (b0 : 0 ≤ r1) (b1 : r1 < v1) : r0 * v1 - r1 * v0 < v0 * v1 ∧ r1 * v0 - r0 * v1 < v0 * v1 := by
  have h1 := Int.mul_nonneg b0 (show 0 ≤ v0 by omega)
  have h2 := Int.mul_nonneg a0 (show 0 ≤ v1 by omega)
  have h3 := Int.mul_lt_mul_of_pos_right a1 (show 0 < v1 by omega)
  have h4 := Int.mul_lt_mul_of_pos_right b1 (show 0 < v0 by omega)
  rw [Int.mul_comm v1 v0] at h4
  omega
/-- two rests, one behind the other: how often the two numbers are taken in them, and what the highest digits tell -/
structure Lem (x0 y0 p0 p1 q0 q1 x y e P0 P1 Q0 Q1 : Int) : Prop where
  sg : e = 1 ∨ e = -1
  ep0 : p0 = e * P0
  ep1 : p1 = -(e * P1)
  eq0 : q0 = -(e * Q0)
  eq1 : q1 = e * Q1
  b0 : 0 ≤ P0 ∧ P0 ≤ 16777216
  b1 : 0 ≤ P1 ∧ P1 ≤ 16777216
  c0 : 0 ≤ Q0 ∧ Q0 ≤ 16777216
  c1 : 0 ≤ Q1 ∧ Q1 ≤ 16777216
  n0 : 0 ≤ x + p0
  n1 : 0 ≤ x + p1
  m0 : 0 ≤ y + q0
  m1 : 0 ≤ y + q1
  f1 : x0 + 1 = Q1 * (x + p0) + P1 * (y + q0)
  f2 : y0 = Q0 * (x + p0) + P0 * (y + q0)
  f3 : x0 = Q1 * (x + p1) + P1 * (y + q1)
  f4 : y0 + 1 = Q0 * (x + p1) + P0 * (y + q1)
  dt : e * ((x + p0) * (y + q1) - (x + p1) * (y + q0)) = x0 + y0 + 1
  lx : x = p0 * x0 + p1 * y0
  ly : y = q0 * x0 + q1 * y0
  gc : ∀ A B : Int, Int.gcd (p0 * A + p1 * B) (q0 * A + q1 * B) = Int.gcd A B
theorem Lem.start {x0 y0 : Int} (hx : 0 ≤ x0) (hy : 0 ≤ y0) : Lem x0 y0 1 0 0 1 x0 y0 1 1 0 0 1 := by
  refine ⟨.inl rfl, by omega, by omega, by omega, by omega, by omega, by omega, by omega, by omega, by omega, by omega, by omega, by omega, by omega, by omega, by omega, by omega, ?_, by omega, by omega, ?_⟩
  · grind
  · intro A B
    simp
theorem gcd_step (X Y k : Int) : Int.gcd Y (X - k * Y) = Int.gcd X Y := by
  rw [Int.gcd_comm X Y]
  simp
/-- what a round brings -/
theorem Lem.step {x0 y0 p0 p1 q0 q1 x y e P0 P1 Q0 Q1 k : Int} (h : Lem x0 y0 p0 p1 q0 q1 x y e P0 P1 Q0 Q1) (hx : 0 ≤ x0 ∧ x0 < 281474976710656) (hy : 0 ≤ y0 ∧ y0 < 281474976710656) (v0 : 0 < y + q0) (v1 : 0 < y + q1) (k0 : k = (x + p0) / (y + q0)) (k1 : k = (x + p1) / (y + q1)) :
    Lem x0 y0 q0 q1 (p0 - k * q0) (p1 - k * q1) y (x - k * y) (-e) Q0 Q1 (P0 + k * Q0) (P1 + k * Q1) ∧ (x - k * y) + (p0 - k * q0) < y + q0 ∧ (x - k * y) + (p1 - k * q1) < y + q1 ∧ 0 ≤ k := by
  obtain ⟨sg, ep0, ep1, eq0, eq1, b0, b1, c0, c1, n0, n1, m0, m1, f1, f2, f3, f4, dt, lx, ly, gc⟩ := h
  obtain ⟨u0, hu0⟩ : ∃ u, u = x + p0 := ⟨_, rfl⟩
  obtain ⟨u1, hu1⟩ : ∃ u, u = x + p1 := ⟨_, rfl⟩
  obtain ⟨w0, hw0⟩ : ∃ u, u = y + q0 := ⟨_, rfl⟩
  obtain ⟨w1, hw1⟩ : ∃ u, u = y + q1 := ⟨_, rfl⟩
  have r0 : (x - k * y) + (p0 - k * q0) = u0 - k * w0 := by rw [hu0, hw0]; grind
  have r1 : (x - k * y) + (p1 - k * q1) = u1 - k * w1 := by rw [hu1, hw1]; grind
  rw [← hu0, ← hw0] at k0
  rw [← hu1, ← hw1] at k1
  rw [← hu0, ← hw0] at f1 f2
  rw [← hu1, ← hw1] at f3 f4
  rw [← hu0, ← hw0, ← hu1, ← hw1] at dt
  rw [← hu0] at n0
  rw [← hu1] at n1
  rw [← hw0] at m0 v0
  rw [← hw1] at m1 v1
  have hk0 : 0 ≤ k := by rw [k0]; exact Int.ediv_nonneg n0 m0
  have s0 : u0 - k * w0 = u0 % w0 := by rw [k0, Int.emod_def, Int.mul_comm]
  have s1 : u1 - k * w1 = u1 % w1 := by rw [k1, Int.emod_def, Int.mul_comm]
  have t0 := Int.emod_nonneg u0 (show w0 ≠ 0 by omega)
  have t1 := Int.emod_nonneg u1 (show w1 ≠ 0 by omega)
  have z0 := Int.emod_lt_of_pos u0 v0
  have z1 := Int.emod_lt_of_pos u1 v1
  rw [← s0] at t0 z0
  rw [← s1] at t1 z1
  have hD : x0 + y0 + 1 < w0 * w1 := by
    have hc := cross_lt t0 z0 t1 z1
    have e1 : (u0 - k * w0) * w1 - (u1 - k * w1) * w0 = u0 * w1 - u1 * w0 := by grind
    have e2 : (u1 - k * w1) * w0 - (u0 - k * w0) * w1 = -(u0 * w1 - u1 * w0) := by grind
    rw [e1, e2] at hc
    rcases sg with rfl | rfl
    · omega
    · omega
  have hQ0 : 0 ≤ k * Q0 := Int.mul_nonneg hk0 c0.1
  have hQ1 : 0 ≤ k * Q1 := Int.mul_nonneg hk0 c1.1
  have g1 : x0 + 1 = (P1 + k * Q1) * w0 + Q1 * (u0 - k * w0) := by rw [f1]; grind
  have g2 : y0 = (P0 + k * Q0) * w0 + Q0 * (u0 - k * w0) := by rw [f2]; grind
  have g3 : x0 = (P1 + k * Q1) * w1 + Q1 * (u1 - k * w1) := by rw [f3]; grind
  have g4 : y0 + 1 = (P0 + k * Q0) * w1 + Q0 * (u1 - k * w1) := by rw [f4]; grind
  have d1 := Int.mul_nonneg c1.1 t0
  have d2 := Int.mul_nonneg c0.1 t0
  have d3 := Int.mul_nonneg c1.1 t1
  have d4 := Int.mul_nonneg c0.1 t1
  have B1 : P1 + k * Q1 ≤ 16777216 := by
    refine small_of_sq (X := x0) (by omega) (sq_bound (a := w0) (b := w1) (by omega) m1 ?_ ?_ hx.1 (by omega)) hx.2
    · omega
    · omega
  have B0 : P0 + k * Q0 ≤ 16777216 := by
    refine small_of_sq (X := y0) (by omega) (sq_bound (a := w1) (b := w0) (by omega) m0 ?_ ?_ hy.1 (by rw [Int.mul_comm]; omega)) hy.2
    · omega
    · omega
  refine ⟨⟨by omega, ?_, ?_, ?_, ?_, c0, c1, by omega, by omega, by omega, by omega, by omega, by omega, ?_, ?_, ?_, ?_, ?_, ly, ?_, ?_⟩, by omega, by omega, hk0⟩
  · rw [eq0]; grind
  · rw [eq1]; grind
  · rw [ep0, eq0]; grind
  · rw [ep1, eq1]; grind
  · rw [r0, ← hw0]; exact g1
  · rw [r0, ← hw0]; exact g2
  · rw [r1, ← hw1]; exact g3
  · rw [r1, ← hw1]; exact g4
  · rw [r0, r1, ← hw0, ← hw1, ← dt]; grind
  · rw [lx, ly]; grind
  · intro A B
    rw [show (p0 - k * q0) * A + (p1 - k * q1) * B = (p0 * A + p1 * B) - k * (q0 * A + q1 * B) by grind, gcd_step]
    exact gc A B
/-- the rests themselves: not below 0, one below the other, and not above the second number -/
theorem Lem.rests {x0 y0 p0 p1 q0 q1 x y e P0 P1 Q0 Q1 A B S : Int} (h : Lem x0 y0 p0 p1 q0 q1 x y e P0 P1 Q0 Q1) (hS : 0 < S) (hx : 0 ≤ x0) (hy : 0 ≤ y0) (a0 : x0 * S ≤ A) (a1 : A < (x0 + 1) * S) (b0 : y0 * S ≤ B) (b1 : B < (y0 + 1) * S)
    (hA0 : 0 < A) (hB0 : 0 < B) (l0 : y + q0 < x + p0) (l1 : y + q1 < x + p1) (g0 : x + p0 ≤ y0) (g1 : x + p1 ≤ y0 + 1) :
    0 ≤ p0 * A + p1 * B ∧ p0 * A + p1 * B ≤ B ∧ 0 ≤ q0 * A + q1 * B ∧ q0 * A + q1 * B < B ∧ q0 * A + q1 * B < p0 * A + p1 * B := by
  obtain ⟨L, hL⟩ : ∃ L, L = A * (y0 + 1) - B * x0 := ⟨_, rfl⟩
  obtain ⟨M, hM⟩ : ∃ M, M = B * (x0 + 1) - A * y0 := ⟨_, rfl⟩
  have e1 : A * (y0 + 1) ≥ x0 * S * (y0 + 1) := Int.mul_le_mul_of_nonneg_right a0 (by omega)
  have e2 : B * x0 ≤ (y0 + 1) * S * x0 := Int.mul_le_mul_of_nonneg_right (by omega) (by omega)
  have e3 : x0 * S * (y0 + 1) = (y0 + 1) * S * x0 := by grind
  have e4 : B * (x0 + 1) ≥ y0 * S * (x0 + 1) := Int.mul_le_mul_of_nonneg_right b0 (by omega)
  have e5 : A * y0 ≤ (x0 + 1) * S * y0 := Int.mul_le_mul_of_nonneg_right (by omega) (by omega)
  have e6 : y0 * S * (x0 + 1) = (x0 + 1) * S * y0 := by grind
  have hL0 : 0 ≤ L := by omega
  have hM0 : 0 ≤ M := by omega
  have hLM : L + M = A + B := by rw [hL, hM]; grind
  obtain ⟨D, hDe⟩ : ∃ D, D = x0 + y0 + 1 := ⟨_, rfl⟩
  have hD : 0 < D := by omega
  have iA : D * A = L * (x0 + 1) + M * x0 := by rw [hL, hM, hDe]; grind
  have iB : D * B = L * y0 + M * (y0 + 1) := by rw [hL, hM, hDe]; grind
  have iX : D * (p0 * A + p1 * B) = L * (x + p0) + M * (x + p1) := by
    rw [show D * (p0 * A + p1 * B) = p0 * (D * A) + p1 * (D * B) by grind, iA, iB, h.lx]; grind
  have iY : D * (q0 * A + q1 * B) = L * (y + q0) + M * (y + q1) := by
    rw [show D * (q0 * A + q1 * B) = q0 * (D * A) + q1 * (D * B) by grind, iA, iB, h.ly]; grind
  have c1 := Int.mul_nonneg hL0 h.n0
  have c2 := Int.mul_nonneg hM0 h.n1
  have c3 := Int.mul_nonneg hL0 h.m0
  have c4 := Int.mul_nonneg hM0 h.m1
  have c5 := Int.mul_le_mul_of_nonneg_left g0 hL0
  have c6 := Int.mul_le_mul_of_nonneg_left g1 hM0
  have c7 := Int.mul_le_mul_of_nonneg_left (show y + q0 ≤ y0 - 1 by omega) hL0
  have c8 := Int.mul_le_mul_of_nonneg_left (show y + q1 ≤ y0 by omega) hM0
  have c9 : L * (y0 - 1) = L * y0 - L := by grind
  have c10 : M * (y0 + 1) = M * y0 + M := by grind
  have d7 := Int.mul_le_mul_of_nonneg_left (show y + q0 ≤ x + p0 - 1 by omega) hL0
  have d8 := Int.mul_le_mul_of_nonneg_left (show y + q1 ≤ x + p1 - 1 by omega) hM0
  have d9 : L * (x + p0 - 1) = L * (x + p0) - L := by grind
  have d10 : M * (x + p1 - 1) = M * (x + p1) - M := by grind
  refine ⟨?_, ?_, ?_, ?_, ?_⟩
  · exact Int.le_of_mul_le_mul_left (a := D) (by rw [iX]; omega) hD
  · exact Int.le_of_mul_le_mul_left (a := D) (by rw [iX, iB]; omega) hD
  · exact Int.le_of_mul_le_mul_left (a := D) (by rw [iY]; omega) hD
  · exact Int.lt_of_mul_lt_mul_left (a := D) (by rw [iY, iB]; omega) (by omega)
  · exact Int.lt_of_mul_lt_mul_left (a := D) (by rw [iY, iX]; omega) (by omega)
end Go.Proofs.YtgoffjpfddmhhaaGreatDoor

/- Rests by the highest digits: the program's search for how often both numbers are taken in them. -/
namespace Go.Proofs.YtgoffjpfddmhhaaGreatDoor
open Go.RowKit
set_option linter.unusedVariables false
set_option maxRecDepth 100000

set_option maxHeartbeats 1000000 in
theorem iNoRests (w : World) : Calls Tryz.prog 119 #[] w fun e w' => e = .returned (.agg #[.int .i64 1, .int .i64 0, .int .i64 0, .int .i64 1]) ∧ Below w.heap.size w w' := by
  go_enter Tryz.func119, Tryz.ntmps119
  go_wp2
  refine bodyPost_ret (v := .agg #[.int .i64 1, .int .i64 0, .int .i64 0, .int .i64 1]) ?_ rfl ⟨rfl, (by repeat (first | exact Below.refl _ _ | refine Below.drew ?_ | refine Below.setCell ?_ (by first | (simp; done) | omega | (simp; omega)) _ | refine old_alloc ?_ _ | refine old_trans ?_ (by assumption)))⟩
  simp [results, Tryz.results119, go_sem]
def GoodRests (x0 y0 p0 p1 q0 q1 : Int) : Prop := (p0 = 1 ∧ p1 = 0 ∧ q0 = 0 ∧ q1 = 1) ∨ ∃ x y e P0 P1 Q0 Q1, Lem x0 y0 p0 p1 q0 q1 x y e P0 P1 Q0 Q1 ∧ y + q0 < x + p0 ∧ y + q1 < x + p1 ∧ x + p0 ≤ y0 ∧ x + p1 ≤ y0 + 1
/-- ahead of a round -/
def LemR (x0 y0 p0 p1 q0 q1 x y : Int) : Prop := (∃ e P0 P1 Q0 Q1, Lem x0 y0 p0 p1 q0 q1 x y e P0 P1 Q0 Q1) ∧ ((p0 = 1 ∧ p1 = 0 ∧ q0 = 0 ∧ q1 = 1 ∧ x = x0 ∧ y = y0) ∨ (y + q0 < x + p0 ∧ y + q1 < x + p1 ∧ x + p0 ≤ y0 ∧ x + p1 ≤ y0 + 1))
theorem LemR.good {x0 y0 p0 p1 q0 q1 x y : Int} (h : LemR x0 y0 p0 p1 q0 q1 x y) : GoodRests x0 y0 p0 p1 q0 q1 := by
  obtain ⟨⟨e, P0, P1, Q0, Q1, h1⟩, h2⟩ := h
  rcases h2 with h2 | h2
  · exact .inl ⟨h2.1, h2.2.1, h2.2.2.1, h2.2.2.2.1⟩
  · exact .inr ⟨x, y, e, P0, P1, Q0, Q1, h1, h2⟩
theorem LemR.start {x0 y0 : Int} (hx : 0 ≤ x0) (hy : 0 ≤ y0) : LemR x0 y0 1 0 0 1 x0 y0 := ⟨⟨_, _, _, _, _, Lem.start hx hy⟩, .inl ⟨rfl, rfl, rfl, rfl, rfl, rfl⟩⟩
/-- bounds of all that comes up -/
theorem Lem.bd {x0 y0 p0 p1 q0 q1 x y e P0 P1 Q0 Q1 : Int} (h : Lem x0 y0 p0 p1 q0 q1 x y e P0 P1 Q0 Q1) : (-16777216 ≤ p0 ∧ p0 ≤ 16777216) ∧ (-16777216 ≤ p1 ∧ p1 ≤ 16777216) ∧ (-16777216 ≤ q0 ∧ q0 ≤ 16777216) ∧ (-16777216 ≤ q1 ∧ q1 ≤ 16777216) := by
  have := h.b0; have := h.b1; have := h.c0; have := h.c1
  have := h.ep0; have := h.ep1; have := h.eq0; have := h.eq1
  rcases h.sg with rfl | rfl
  · omega
  · omega
theorem LemR.bd {x0 y0 p0 p1 q0 q1 x y : Int} (h : LemR x0 y0 p0 p1 q0 q1 x y) (hx : 0 ≤ x0 ∧ x0 < 281474976710656) (hy : 0 ≤ y0 ∧ y0 < 281474976710656) (hxy : y0 ≤ x0) :
    ((-16777216 ≤ p0 ∧ p0 ≤ 16777216) ∧ (-16777216 ≤ p1 ∧ p1 ≤ 16777216) ∧ (-16777216 ≤ q0 ∧ q0 ≤ 16777216) ∧ (-16777216 ≤ q1 ∧ q1 ≤ 16777216)) ∧ (0 ≤ x + p0 ∧ x + p0 ≤ 281474976710656) ∧ (0 ≤ x + p1 ∧ x + p1 ≤ 281474976710656) ∧ (0 ≤ y + q0 ∧ y + q0 ≤ 281474976710656) ∧ (0 ≤ y + q1 ∧ y + q1 ≤ 281474976710656) := by
  obtain ⟨⟨e, P0, P1, Q0, Q1, h1⟩, h2⟩ := h
  refine ⟨h1.bd, ?_⟩
  have := h1.n0; have := h1.n1; have := h1.m0; have := h1.m1
  rcases h2 with ⟨rfl, rfl, rfl, rfl, rfl, rfl⟩ | h2
  · omega
  · omega
theorem LemR.step {x0 y0 p0 p1 q0 q1 x y k : Int} (h : LemR x0 y0 p0 p1 q0 q1 x y) (hx : 0 ≤ x0 ∧ x0 < 281474976710656) (hy : 0 ≤ y0 ∧ y0 < 281474976710656) (v0 : 0 < y + q0) (v1 : 0 < y + q1) (k0 : k = (x + p0) / (y + q0)) (k1 : k = (x + p1) / (y + q1)) :
    LemR x0 y0 q0 q1 (p0 - k * q0) (p1 - k * q1) y (x - k * y) ∧ (x - k * y) + (p0 - k * q0) < y + q0 := by
  obtain ⟨⟨e, P0, P1, Q0, Q1, h1⟩, h2⟩ := h
  obtain ⟨a, b, c, d⟩ := h1.step hx hy v0 v1 k0 k1
  refine ⟨⟨⟨_, _, _, _, _, a⟩, .inr ⟨b, c, ?_, ?_⟩⟩, b⟩
  · rcases h2 with ⟨rfl, rfl, rfl, rfl, rfl, rfl⟩ | h2
    · omega
    · omega
  · rcases h2 with ⟨rfl, rfl, rfl, rfl, rfl, rfl⟩ | h2
    · omega
    · omega
theorem drop_bd {xs : List Int} {m j : Nat} (hx : digs xs) (hl : xs.length ≤ m + 3) (hj : m < j) : val (xs.drop j) < 4294967296 := by
  rw [val_drop_div hx]
  have h1 := val_lt hx
  have h2 : 65536 ^ xs.length ≤ 65536 ^ j * 65536 ^ 2 := by rw [← Nat.pow_add]; exact Nat.pow_le_pow_right (by omega) (by omega)
  exact Nat.div_lt_of_lt_mul (Nat.lt_of_lt_of_le h1 h2)
set_option maxHeartbeats 2000000 in
theorem iThree (a : Option Addr) (len cap : Nat) (xs : List Int) (m : Nat) (w : World) (hR : InI w a len cap xs) (hx : digs xs) (hl : len ≤ m + 3) (hb : len ≤ 65536) (hm : m ≤ 65536) :
    Calls Tryz.prog 118 #[.slice a len cap, .int .i64 (m : Int)] w fun e w' => e = .returned (.int .i64 ((val xs / 65536 ^ m : Nat) : Int)) ∧ w' = w := by
  have hp := hR.1
  have hend : Hid (∀ j, (m ≤ j ∨ j = len) → j ≤ len → (j : Int) - 1 < (m : Int) → val (xs.drop j) = val xs / 65536 ^ m) := by
    intro j h1 h2 h3
    rw [← val_drop_div hx]
    by_cases e : j = m
    · rw [e]
    · have : j = len := by omega
      rw [List.drop_of_length_le (by omega), List.drop_of_length_le (by omega)]
  generalize val xs / 65536 ^ m = V at *
  have hbd := hd (fun j h => drop_bd (xs := xs) (m := m) (j := j) hx (by omega) h)
  have hst := hd (fun j h => val_drop (xs := xs) (j := j) h)
  have hcase : len < m + 3 ∨ len = m + 3 := by omega
  have hM : (m : Int) ≤ 65536 := by omega
  have hM0 : (0 : Int) ≤ (m : Int) := by omega
  have hL : (len : Int) ≤ 65536 := by omega
  have hL0 : (0 : Int) ≤ (len : Int) := by omega
  go_enter Tryz.func118, Tryz.ntmps118
  rcases hcase with hc | hc
  · have hc' : (len : Int) < (m : Int) + 3 := by omega
    go_wp2
    go_loopw [5, 6] (fun n i wr => ∃ (j : Nat), j ≤ len ∧ (m ≤ j ∨ j = len) ∧ n = .int .i64 ((val (xs.drop j) : Nat) : Int) ∧ i = .int .i64 ((j : Int) - 1) ∧ wr = w) (fun _ i _ => (intOf i + 1).toNat)
    case atStart =>
      refine ⟨len, Nat.le_refl _, .inr rfl, by rw [List.drop_of_length_le (by omega)]; rfl, ?_, rfl⟩
      first | rfl | (congr 1; omega) | (rw [hc']; rfl)
    case round =>
      obtain ⟨j, hj, hj2, rfl, rfl, hw⟩ := hrel
      obtain rfl : w = wr := hw.symm
      clear hw
      by_cases hgo : m < j
      · obtain ⟨k, rfl⟩ : ∃ k, j = k + 1 := ⟨j - 1, by omega⟩
        obtain ⟨b, off, x, rfl, hbl, hx2, -, c0⟩ := hR.at (k := k) (by omega)
        have dx := digs_getD hx k
        rw [hx2] at dx
        have h1 := hbd.out (k + 1) hgo
        have h2 := hst.out k (by omega)
        rw [hx2] at h2
        have hor := i64_or16 (r := ((val (xs.drop (k + 1)) : Nat) : Int)) (x := x) (by omega) (by omega) dx
        unfold dig at dx
        have h3 : Hid (((val (xs.drop k) : Nat) : Int) = ((val (xs.drop (k + 1)) : Nat) : Int) * 65536 + x) := by show _ = _; omega
        have hr0 : (0 : Int) ≤ ((val (xs.drop (k + 1)) : Nat) : Int) := by omega
        have hr1 : ((val (xs.drop (k + 1)) : Nat) : Int) < 4294967296 := by omega
        have ekI : ((k + 1 : Nat) : Int) - 1 = (k : Int) := by omega
        have hkm : (m : Int) ≤ (k : Int) := by omega
        have hkl : (k : Int) < (len : Int) := by omega
        have hk1 : Hid (m ≤ k ∧ k < len) := by show _ ∧ _; omega
        rw [ekI]
        generalize ((val (xs.drop (k + 1)) : Nat) : Int) = r at *
        clear h1 h2 hj hj2 hgo ekI hl hb hm hp
        go_wp2
        go_roundw
        case rel => exact ⟨k, Nat.le_of_lt hk1.out.2, .inl hk1.out.1, by rw [h3.out], rfl, trivial⟩
        case measure => (simp [intOf] <;> omega)
      · have hv := hend.out j hj2 hj (by omega)
        have hjm : ((j : Int) - 1) < (m : Int) := by omega
        rw [hv]
        generalize hJ : (j : Int) - 1 = J at *
        have hJ0 : -1 ≤ J := by omega
        clear hJ hj hj2 hgo hv hbd hst hend
        go_wp2
        go_ret
        exact ⟨rfl, rfl⟩
  · have hc' : (len : Int) = (m : Int) + 3 := by omega
    go_wp2
    go_loopw [5, 6] (fun n i wr => ∃ (j : Nat), j ≤ len ∧ (m ≤ j ∨ j = len) ∧ n = .int .i64 ((val (xs.drop j) : Nat) : Int) ∧ i = .int .i64 ((j : Int) - 1) ∧ wr = w) (fun _ i _ => (intOf i + 1).toNat)
    case atStart =>
      refine ⟨len, Nat.le_refl _, .inr rfl, by rw [List.drop_of_length_le (by omega)]; rfl, ?_, rfl⟩
      first | rfl | (congr 1; omega) | (rw [hc']; rfl)
    case round =>
      obtain ⟨j, hj, hj2, rfl, rfl, hw⟩ := hrel
      obtain rfl : w = wr := hw.symm
      clear hw
      by_cases hgo : m < j
      · obtain ⟨k, rfl⟩ : ∃ k, j = k + 1 := ⟨j - 1, by omega⟩
        obtain ⟨b, off, x, rfl, hbl, hx2, -, c0⟩ := hR.at (k := k) (by omega)
        have dx := digs_getD hx k
        rw [hx2] at dx
        have h1 := hbd.out (k + 1) hgo
        have h2 := hst.out k (by omega)
        rw [hx2] at h2
        have hor := i64_or16 (r := ((val (xs.drop (k + 1)) : Nat) : Int)) (x := x) (by omega) (by omega) dx
        unfold dig at dx
        have h3 : Hid (((val (xs.drop k) : Nat) : Int) = ((val (xs.drop (k + 1)) : Nat) : Int) * 65536 + x) := by show _ = _; omega
        have hr0 : (0 : Int) ≤ ((val (xs.drop (k + 1)) : Nat) : Int) := by omega
        have hr1 : ((val (xs.drop (k + 1)) : Nat) : Int) < 4294967296 := by omega
        have ekI : ((k + 1 : Nat) : Int) - 1 = (k : Int) := by omega
        have hkm : (m : Int) ≤ (k : Int) := by omega
        have hkl : (k : Int) < (len : Int) := by omega
        have hk1 : Hid (m ≤ k ∧ k < len) := by show _ ∧ _; omega
        rw [ekI]
        generalize ((val (xs.drop (k + 1)) : Nat) : Int) = r at *
        clear h1 h2 hj hj2 hgo ekI hl hb hm hp
        go_wp2
        go_roundw
        case rel => exact ⟨k, Nat.le_of_lt hk1.out.2, .inl hk1.out.1, by rw [h3.out], rfl, trivial⟩
        case measure => (simp [intOf] <;> omega)
      · have hv := hend.out j hj2 hj (by omega)
        have hjm : ((j : Int) - 1) < (m : Int) := by omega
        rw [hv]
        generalize hJ : (j : Int) - 1 = J at *
        have hJ0 : -1 ≤ J := by omega
        clear hJ hj hj2 hgo hv hbd hst hend
        go_wp2
        go_ret
        exact ⟨rfl, rfl⟩
end Go.Proofs.YtgoffjpfddmhhaaGreatDoor

/- Rests by the highest digits: the program's search for how often both numbers are taken in them. Conditions: two numbers below 2^48, the first not below the second. -/
namespace Go.Proofs.YtgoffjpfddmhhaaGreatDoor
open Go.RowKit
set_option linter.unusedVariables false
set_option maxRecDepth 100000

/-- a block of four numbers of one's own -/
def Loc4 (w : World) (b : Nat) (p0 p1 q0 q1 : Int) : Prop := b < w.heap.size ∧ (w.cell? ⟨b, 0, none⟩ = some (.int .i64 p0) ∧ w.cell? ⟨b, 1, none⟩ = some (.int .i64 p1) ∧ w.cell? ⟨b, 2, none⟩ = some (.int .i64 q0) ∧ w.cell? ⟨b, 3, none⟩ = some (.int .i64 q1)) ∧ w.frozen? ⟨b, 0, none⟩ = false ∧ w.frozen? ⟨b, 1, none⟩ = false ∧ w.frozen? ⟨b, 2, none⟩ = false ∧ w.frozen? ⟨b, 3, none⟩ = false
theorem Loc4.old {w w' : World} {b : Nat} {p0 p1 q0 q1 : Int} (h : Loc4 w b p0 p1 q0 q1) (g : Below w.heap.size w w') : Loc4 w' b p0 p1 q0 q1 := by
  obtain ⟨h1, ⟨a, b', c, d⟩, e, f, g', i⟩ := h
  exact ⟨Nat.lt_of_lt_of_le h1 g.size, ⟨(g.cell (p := ⟨b, 0, none⟩) h1).trans a, (g.cell (p := ⟨b, 1, none⟩) h1).trans b', (g.cell (p := ⟨b, 2, none⟩) h1).trans c, (g.cell (p := ⟨b, 3, none⟩) h1).trans d⟩, (g.frozen (p := ⟨b, 0, none⟩) h1).trans e, (g.frozen (p := ⟨b, 1, none⟩) h1).trans f, (g.frozen (p := ⟨b, 2, none⟩) h1).trans g', (g.frozen (p := ⟨b, 3, none⟩) h1).trans i⟩
theorem Loc4.new (w : World) (p0 p1 q0 q1 : Int) (t : TypeId) : Loc4 (w.alloc (.cells #[.int .i64 p0, .int .i64 p1, .int .i64 q0, .int .i64 q1] t)) w.heap.size p0 p1 q0 q1 := by
  refine ⟨by simp, ⟨?_, ?_, ?_, ?_⟩, ?_, ?_, ?_, ?_⟩ <;> simp [go_sem]
theorem Loc4.set {W : World} {b : Nat} {v0 v1 v2 v3 : Int} (h : Loc4 W b v0 v1 v2 v3) (p0 p1 q0 q1 : Int) : Loc4 ((((W.setCell ⟨b, 0, none⟩ (.int .i64 p0)).setCell ⟨b, 1, none⟩ (.int .i64 p1)).setCell ⟨b, 2, none⟩ (.int .i64 q0)).setCell ⟨b, 3, none⟩ (.int .i64 q1)) b p0 p1 q0 q1 := by
  obtain ⟨h1, ⟨a0, a1, a2, a3⟩, f0, f1, f2, f3⟩ := h
  have o : ∀ (w : World) (i j : Nat) (v : Value), i ≠ j → (w.setCell ⟨b, j, none⟩ v).cell? ⟨b, i, none⟩ = w.cell? ⟨b, i, none⟩ := fun w i j v hn => World.cell?_setCell_other _ _ _ _ (by intro h; injection h with _ h2; omega)
  refine ⟨by simpa [World.setCell] using h1, ⟨?_, ?_, ?_, ?_⟩, by simpa using f0, by simpa using f1, by simpa using f2, by simpa using f3⟩
  · rw [o _ 0 3 _ (by omega), o _ 0 2 _ (by omega), o _ 0 1 _ (by omega)]
    exact World.cell?_setCell_same _ _ _ a0
  · rw [o _ 1 3 _ (by omega), o _ 1 2 _ (by omega)]
    exact World.cell?_setCell_same _ _ _ ((o _ 1 0 _ (by omega)).trans a1)
  · rw [o _ 2 3 _ (by omega)]
    exact World.cell?_setCell_same _ _ _ ((o _ 2 1 _ (by omega)).trans ((o _ 2 0 _ (by omega)).trans a2))
  · exact World.cell?_setCell_same _ _ _ ((o _ 3 2 _ (by omega)).trans ((o _ 3 1 _ (by omega)).trans ((o _ 3 0 _ (by omega)).trans a3)))
theorem Loc4.far1 {W : World} {b c i : Nat} {v0 v1 v2 v3 : Int} {v : Value} (h : Loc4 W b v0 v1 v2 v3) (hn : b ≠ c) : Loc4 (W.setCell ⟨c, i, none⟩ v) b v0 v1 v2 v3 := by
  obtain ⟨h1, ⟨a0, a1, a2, a3⟩, f0, f1, f2, f3⟩ := h
  have o : ∀ (j : Nat), (W.setCell ⟨c, i, none⟩ v).cell? ⟨b, j, none⟩ = W.cell? ⟨b, j, none⟩ := fun j => World.cell?_setCell_other _ _ _ _ (by intro h; injection h with h2 _; omega)
  exact ⟨by simpa [World.setCell] using h1, ⟨(o 0).trans a0, (o 1).trans a1, (o 2).trans a2, (o 3).trans a3⟩, by simpa using f0, by simpa using f1, by simpa using f2, by simpa using f3⟩
theorem set4_below {n : Nat} {a W : World} (h : Below n a W) {b : Nat} (hb : n ≤ b) (v0 v1 v2 v3 : Value) : Below n a ((((W.setCell ⟨b, 0, none⟩ v0).setCell ⟨b, 1, none⟩ v1).setCell ⟨b, 2, none⟩ v2).setCell ⟨b, 3, none⟩ v3) :=
  (((h.setCell (p := ⟨b, 0, none⟩) hb _).setCell (p := ⟨b, 1, none⟩) hb _).setCell (p := ⟨b, 2, none⟩) hb _).setCell (p := ⟨b, 3, none⟩) hb _
theorem res4 {W : World} {b : Nat} {p0 p1 q0 q1 : Int} {tmps : Array Value} (h : Loc4 W b p0 p1 q0 q1) (ht : tmps[4]? = some (.pointer (some ⟨b, 0, none⟩))) : (results Tryz.f117 tmps).run Tryz.prog W = .ok (.agg #[.int .i64 p0, .int .i64 p1, .int .i64 q0, .int .i64 q1]) W := by
  obtain ⟨h1, ⟨a0, a1, a2, a3⟩, -⟩ := h
  simp [results, Tryz.results117, go_sem, a0, a1, a2, a3, ht]
set_option maxHeartbeats 4000000 in
theorem iSure (x0 y0 : Int) (w : World) (hx : 0 ≤ x0 ∧ x0 < 281474976710656) (hy : 0 ≤ y0 ∧ y0 < 281474976710656) (hxy : y0 ≤ x0) :
    Calls Tryz.prog 117 #[.int .i64 x0, .int .i64 y0] w fun e w' => (∃ p0 p1 q0 q1, e = .returned (.agg #[.int .i64 p0, .int .i64 p1, .int .i64 q0, .int .i64 q1]) ∧ GoodRests x0 y0 p0 p1 q0 q1) ∧ Below w.heap.size w w' := by
  have NR := hd iNoRests
  go_enter Tryz.func117, Tryz.ntmps117
  go_wp2_with fail
  refine (NR.out _).mono ?_
  rintro e w1 ⟨rfl, hb1⟩
  go_wp2_with fail
  have L4 := (Loc4.new w 0 0 0 0 186).old hb1
  have hB1 : Below w.heap.size w w1 := old_trans (old_alloc (Below.refl _ w) _) hb1
  have L5 := Loc4.new w1 1 0 0 1 186
  have L4' := L4.old (old_alloc (Below.refl _ w1) (.cells #[.int .i64 1, .int .i64 0, .int .i64 0, .int .i64 1] 186))
  have hB2 := old_alloc hB1 (.cells #[.int .i64 1, .int .i64 0, .int .i64 0, .int .i64 1] 186)
  have hne : w.heap.size < w1.heap.size := by have := hb1.size; simp at this; omega
  clear L4 hb1 hB1
  generalize hrb : w1.heap.size = rb at *
  generalize w1.alloc (.cells #[.int .i64 1, .int .i64 0, .int .i64 0, .int .i64 1] 186) = w2 at *
  clear hrb
  go_loopg [0, 1] y0.toNat (fun k s t wr => ∃ (x y p0 p1 q0 q1 : Int), s = .int .i64 x ∧ t = .int .i64 y ∧ (y + q0).toNat = k ∧ LemR x0 y0 p0 p1 q0 q1 x y ∧ Loc4 wr w.heap.size 0 0 0 0 ∧ Loc4 wr rb p0 p1 q0 q1 ∧ Below w.heap.size w wr)
  case atStart => exact ⟨x0, y0, 1, 0, 0, 1, rfl, rfl, by simp, LemR.start hx.1 hy.1, L4', L5, hB2⟩
  case round =>
    clear L4' L5 hB2
    obtain ⟨x, y, p0, p1, q0, q1, rfl, rfl, hk, hL, Lo, Lr, hB⟩ := hrel
    obtain ⟨s1, ⟨s2, s3, s4, s5⟩, s6, s7, s8, s9⟩ := Lr
    obtain ⟨⟨⟨z1, z2⟩, ⟨z3, z4⟩, ⟨z5, z6⟩, ⟨z7, z8⟩⟩, ⟨a1, a2⟩, ⟨a3, a4⟩, ⟨a5, a6⟩, a7, a8⟩ := hL.bd hx hy hxy
    have hL' := hd hL
    clear hL
    go_wp2_with fail
    go_region_held3 (fun w' => (w'.cell? ⟨rb, 0, none⟩ = some (.int .i64 p0) ∧ w'.cell? ⟨rb, 1, none⟩ = some (.int .i64 p1) ∧ w'.cell? ⟨rb, 2, none⟩ = some (.int .i64 q0) ∧ w'.cell? ⟨rb, 3, none⟩ = some (.int .i64 q1))) (go_keep) (fail)
    · have hs := hB.size
      have hBW : Below wr.heap.size wr (((wr.alloc (.cells #[.int .i64 p0, .int .i64 p1] 184)).alloc (.cells #[.int .i64 q0, .int .i64 q1] 184)).drew) := (old_alloc (old_alloc (Below.refl _ wr) _) _).drew
      have Lo2 := Lo.old hBW
      have Lr2 := (show Loc4 wr rb p0 p1 q0 q1 from ⟨s1, ⟨s2, s3, s4, s5⟩, s6, s7, s8, s9⟩).old hBW
      have hB2 := old_trans hB hBW
      have e1 : (((wr.alloc (.cells #[.int .i64 p0, .int .i64 p1] 184)).alloc (.cells #[.int .i64 q0, .int .i64 q1] 184)).drew).cell? ⟨wr.heap.size, 0, none⟩ = some (.int .i64 p0) := by simp [go_sem]
      have e2 : (((wr.alloc (.cells #[.int .i64 p0, .int .i64 p1] 184)).alloc (.cells #[.int .i64 q0, .int .i64 q1] 184)).drew).cell? ⟨wr.heap.size, 1, none⟩ = some (.int .i64 p1) := by simp [go_sem]
      have e3 : (((wr.alloc (.cells #[.int .i64 p0, .int .i64 p1] 184)).alloc (.cells #[.int .i64 q0, .int .i64 q1] 184)).drew).cell? ⟨wr.heap.size + 1, 0, none⟩ = some (.int .i64 q0) := by simp [go_sem]
      have e4 : (((wr.alloc (.cells #[.int .i64 p0, .int .i64 p1] 184)).alloc (.cells #[.int .i64 q0, .int .i64 q1] 184)).drew).cell? ⟨wr.heap.size + 1, 1, none⟩ = some (.int .i64 q1) := by simp [go_sem]
      obtain ⟨m1, ⟨m2, m3, m4, m5⟩, m6, m7, m8, m9⟩ := Lo2
      obtain ⟨n1, ⟨n2, n3, n4, n5⟩, n6, n7, n8, n9⟩ := Lr2
      clear hBW s1 s2 s3 s4 s5 s6 s7 s8 s9 Lo
      generalize hLB : wr.heap.size = lb at *
      generalize hNB : wr.heap.size + 1 = nb at *
      generalize ((wr.alloc (.cells #[.int .i64 p0, .int .i64 p1] 184)).alloc (.cells #[.int .i64 q0, .int .i64 q1] 184)).drew = W at *
      clear hLB hNB
      by_cases hz0 : y + q0 = 0
      · have hzb : (y + q0 == 0) = true := by simpa using hz0
        have hG := hd hL'.out.good
        clear hL'
        go_wp2
        refine bodyPost_ret (res4 ((show Loc4 W w.heap.size 0 0 0 0 from ⟨m1, ⟨m2, m3, m4, m5⟩, m6, m7, m8, m9⟩).set p0 p1 q0 q1) rfl) rfl ⟨⟨_, _, _, _, rfl, hG.out⟩, set4_below hB2 (Nat.le_refl _) _ _ _ _⟩
      · have hzb : (y + q0 == 0) = false := by simpa using hz0
        by_cases hz1 : y + q1 = 0
        · have hzc : (y + q1 == 0) = true := by simpa using hz1
          have hG := hd hL'.out.good
          clear hL'
          go_wp2
          refine bodyPost_ret (res4 ((show Loc4 W w.heap.size 0 0 0 0 from ⟨m1, ⟨m2, m3, m4, m5⟩, m6, m7, m8, m9⟩).set p0 p1 q0 q1) rfl) rfl ⟨⟨_, _, _, _, rfl, hG.out⟩, set4_below hB2 (Nat.le_refl _) _ _ _ _⟩
        · have hzc : (y + q1 == 0) = false := by simpa using hz1
          have t0 : (x + p0).tdiv (y + q0) = (x + p0) / (y + q0) := Int.tdiv_eq_ediv_of_nonneg a1
          have t1 : (x + p1).tdiv (y + q1) = (x + p1) / (y + q1) := Int.tdiv_eq_ediv_of_nonneg a3
          have g0 : 0 ≤ (x + p0) / (y + q0) := Int.ediv_nonneg a1 a5
          have g1 : 0 ≤ (x + p1) / (y + q1) := Int.ediv_nonneg a3 a7
          have g2 : (x + p0) / (y + q0) ≤ 281474976710656 := Int.le_trans (Int.ediv_le_self _ a1) a2
          have g3 : (x + p1) / (y + q1) ≤ 281474976710656 := Int.le_trans (Int.ediv_le_self _ a3) a4
          by_cases hq : (x + p0) / (y + q0) = (x + p1) / (y + q1)
          · have hS := hL'.out.step hx hy (by omega) (by omega) rfl hq
            obtain ⟨⟨⟨w1, w2⟩, ⟨w3, w4⟩, ⟨w5, w6⟩, ⟨w7, w8⟩⟩, ⟨b1, b2⟩, ⟨b3, b4⟩, ⟨b5, b6⟩, b7, b8⟩ := hS.1.bd hx hy hxy
            rw [← hq] at t1
            have hS' := hd hS
            clear hS hL' g1 g3 hq
            generalize (x + p0) / (y + q0) = kk at *
            have h1 : -33554432 ≤ kk * q0 ∧ kk * q0 ≤ 33554432 := by omega
            have h2 : -33554432 ≤ kk * q1 ∧ kk * q1 ≤ 33554432 := by omega
            have h3 : -1125899906842624 ≤ kk * y ∧ kk * y ≤ 1125899906842624 := by omega
            go_wp2
            go_roundg ((x - kk * y) + (p0 - kk * q0)).toNat
            case measure =>
              have h9 := hS'.out.2
              omega
            case rel => exact ⟨y, x - kk * y, q0, q1, p0 - kk * q0, p1 - kk * q1, rfl, rfl, rfl, hS'.out.1, ((((show Loc4 W w.heap.size 0 0 0 0 from ⟨m1, ⟨m2, m3, m4, m5⟩, m6, m7, m8, m9⟩).far1 (by omega)).far1 (by omega)).far1 (by omega)).far1 (by omega), (show Loc4 W rb p0 p1 q0 q1 from ⟨n1, ⟨n2, n3, n4, n5⟩, n6, n7, n8, n9⟩).set q0 q1 (p0 - kk * q0) (p1 - kk * q1), set4_below hB2 (by omega) _ _ _ _⟩
          · have hG := hd hL'.out.good
            clear hL'
            generalize (x + p0) / (y + q0) = kk at *
            generalize (x + p1) / (y + q1) = kl at *
            have hqb : (kk == kl) = false := by simpa using hq
            go_wp2
            refine bodyPost_ret (res4 ((show Loc4 W w.heap.size 0 0 0 0 from ⟨m1, ⟨m2, m3, m4, m5⟩, m6, m7, m8, m9⟩).set p0 p1 q0 q1) rfl) rfl ⟨⟨_, _, _, _, rfl, hG.out⟩, set4_below hB2 (Nat.le_refl _) _ _ _ _⟩
    · have hs := hB.size
      have hBW : Below wr.heap.size wr (((wr.alloc (.cells #[.int .i64 q0, .int .i64 q1] 184)).alloc (.cells #[.int .i64 p0, .int .i64 p1] 184)).drew) := (old_alloc (old_alloc (Below.refl _ wr) _) _).drew
      have Lo2 := Lo.old hBW
      have Lr2 := (show Loc4 wr rb p0 p1 q0 q1 from ⟨s1, ⟨s2, s3, s4, s5⟩, s6, s7, s8, s9⟩).old hBW
      have hB2 := old_trans hB hBW
      have e1 : (((wr.alloc (.cells #[.int .i64 q0, .int .i64 q1] 184)).alloc (.cells #[.int .i64 p0, .int .i64 p1] 184)).drew).cell? ⟨wr.heap.size + 1, 0, none⟩ = some (.int .i64 p0) := by simp [go_sem]
      have e2 : (((wr.alloc (.cells #[.int .i64 q0, .int .i64 q1] 184)).alloc (.cells #[.int .i64 p0, .int .i64 p1] 184)).drew).cell? ⟨wr.heap.size + 1, 1, none⟩ = some (.int .i64 p1) := by simp [go_sem]
      have e3 : (((wr.alloc (.cells #[.int .i64 q0, .int .i64 q1] 184)).alloc (.cells #[.int .i64 p0, .int .i64 p1] 184)).drew).cell? ⟨wr.heap.size, 0, none⟩ = some (.int .i64 q0) := by simp [go_sem]
      have e4 : (((wr.alloc (.cells #[.int .i64 q0, .int .i64 q1] 184)).alloc (.cells #[.int .i64 p0, .int .i64 p1] 184)).drew).cell? ⟨wr.heap.size, 1, none⟩ = some (.int .i64 q1) := by simp [go_sem]
      obtain ⟨m1, ⟨m2, m3, m4, m5⟩, m6, m7, m8, m9⟩ := Lo2
      obtain ⟨n1, ⟨n2, n3, n4, n5⟩, n6, n7, n8, n9⟩ := Lr2
      clear hBW s1 s2 s3 s4 s5 s6 s7 s8 s9 Lo
      generalize hLB : wr.heap.size + 1 = lb at *
      generalize hNB : wr.heap.size = nb at *
      generalize ((wr.alloc (.cells #[.int .i64 q0, .int .i64 q1] 184)).alloc (.cells #[.int .i64 p0, .int .i64 p1] 184)).drew = W at *
      clear hLB hNB
      by_cases hz0 : y + q0 = 0
      · have hzb : (y + q0 == 0) = true := by simpa using hz0
        have hG := hd hL'.out.good
        clear hL'
        go_wp2
        refine bodyPost_ret (res4 ((show Loc4 W w.heap.size 0 0 0 0 from ⟨m1, ⟨m2, m3, m4, m5⟩, m6, m7, m8, m9⟩).set p0 p1 q0 q1) rfl) rfl ⟨⟨_, _, _, _, rfl, hG.out⟩, set4_below hB2 (Nat.le_refl _) _ _ _ _⟩
      · have hzb : (y + q0 == 0) = false := by simpa using hz0
        by_cases hz1 : y + q1 = 0
        · have hzc : (y + q1 == 0) = true := by simpa using hz1
          have hG := hd hL'.out.good
          clear hL'
          go_wp2
          refine bodyPost_ret (res4 ((show Loc4 W w.heap.size 0 0 0 0 from ⟨m1, ⟨m2, m3, m4, m5⟩, m6, m7, m8, m9⟩).set p0 p1 q0 q1) rfl) rfl ⟨⟨_, _, _, _, rfl, hG.out⟩, set4_below hB2 (Nat.le_refl _) _ _ _ _⟩
        · have hzc : (y + q1 == 0) = false := by simpa using hz1
          have t0 : (x + p0).tdiv (y + q0) = (x + p0) / (y + q0) := Int.tdiv_eq_ediv_of_nonneg a1
          have t1 : (x + p1).tdiv (y + q1) = (x + p1) / (y + q1) := Int.tdiv_eq_ediv_of_nonneg a3
          have g0 : 0 ≤ (x + p0) / (y + q0) := Int.ediv_nonneg a1 a5
          have g1 : 0 ≤ (x + p1) / (y + q1) := Int.ediv_nonneg a3 a7
          have g2 : (x + p0) / (y + q0) ≤ 281474976710656 := Int.le_trans (Int.ediv_le_self _ a1) a2
          have g3 : (x + p1) / (y + q1) ≤ 281474976710656 := Int.le_trans (Int.ediv_le_self _ a3) a4
          by_cases hq : (x + p0) / (y + q0) = (x + p1) / (y + q1)
          · have hS := hL'.out.step hx hy (by omega) (by omega) rfl hq
            obtain ⟨⟨⟨w1, w2⟩, ⟨w3, w4⟩, ⟨w5, w6⟩, ⟨w7, w8⟩⟩, ⟨b1, b2⟩, ⟨b3, b4⟩, ⟨b5, b6⟩, b7, b8⟩ := hS.1.bd hx hy hxy
            rw [← hq] at t1
            have hS' := hd hS
            clear hS hL' g1 g3 hq
            generalize (x + p0) / (y + q0) = kk at *
            have h1 : -33554432 ≤ kk * q0 ∧ kk * q0 ≤ 33554432 := by omega
            have h2 : -33554432 ≤ kk * q1 ∧ kk * q1 ≤ 33554432 := by omega
            have h3 : -1125899906842624 ≤ kk * y ∧ kk * y ≤ 1125899906842624 := by omega
            go_wp2
            go_roundg ((x - kk * y) + (p0 - kk * q0)).toNat
            case measure =>
              have h9 := hS'.out.2
              omega
            case rel => exact ⟨y, x - kk * y, q0, q1, p0 - kk * q0, p1 - kk * q1, rfl, rfl, rfl, hS'.out.1, ((((show Loc4 W w.heap.size 0 0 0 0 from ⟨m1, ⟨m2, m3, m4, m5⟩, m6, m7, m8, m9⟩).far1 (by omega)).far1 (by omega)).far1 (by omega)).far1 (by omega), (show Loc4 W rb p0 p1 q0 q1 from ⟨n1, ⟨n2, n3, n4, n5⟩, n6, n7, n8, n9⟩).set q0 q1 (p0 - kk * q0) (p1 - kk * q1), set4_below hB2 (by omega) _ _ _ _⟩
          · have hG := hd hL'.out.good
            clear hL'
            generalize (x + p0) / (y + q0) = kk at *
            generalize (x + p1) / (y + q1) = kl at *
            have hqb : (kk == kl) = false := by simpa using hq
            go_wp2
            refine bodyPost_ret (res4 ((show Loc4 W w.heap.size 0 0 0 0 from ⟨m1, ⟨m2, m3, m4, m5⟩, m6, m7, m8, m9⟩).set p0 p1 q0 q1) rfl) rfl ⟨⟨_, _, _, _, rfl, hG.out⟩, set4_below hB2 (Nat.le_refl _) _ _ _ _⟩
end Go.Proofs.YtgoffjpfddmhhaaGreatDoor

/- One step of the program's search for a common divisor: two numbers with the same divisors in common, the second one less. Conditions: numbers, the first above the second, which is not 0. -/
namespace Go.Proofs.YtgoffjpfddmhhaaGreatDoor
open Go.RowKit
set_option linter.unusedVariables false
set_option maxRecDepth 100000

theorem eqArr2f (a b c d : Int) (w : World) : (Op.equalIn 9999 184 (.agg #[.int .i64 a, .int .i64 b]) (.agg #[.int .i64 c, .int .i64 d])).run Tryz.prog w = .ok (a == c && b == d) w := by
  have u3 := Tryz.underlying3
  have a3 := Tryz.isAgg3
  have z3 := Tryz.sizeOf3
  rw [show (9999 : Nat) = 9998 + 1 from rfl, Op.equalIn]
  simp only [Sem.run_bind, run_underlying Tryz.underlying184, Result.andThen_ok]
  simp only [Std.Legacy.Range.forIn_eq_forIn_range', Std.Legacy.Range.size, Nat.sub_zero, Nat.add_sub_cancel, Nat.div_one, List.range'_succ, List.range'_zero, List.forIn_cons, List.forIn_nil]
  go_simp
  by_cases h1 : a = c <;> by_cases h2 : b = d <;> simp [h1, h2]
theorem eqArr4 (a b c d a' b' c' d' : Int) (w : World) : (Op.equalIn 10000 186 (.agg #[.int .i64 a, .int .i64 b, .int .i64 c, .int .i64 d]) (.agg #[.int .i64 a', .int .i64 b', .int .i64 c', .int .i64 d'])).run Tryz.prog w = .ok (a == a' && b == b' && (c == c' && d == d')) w := by
  have u3 := Tryz.underlying3
  have a3 := Tryz.isAgg3
  have z3 := Tryz.sizeOf3
  have u4 := Tryz.underlying184
  have a4 := Tryz.isAgg184
  have z4 := Tryz.sizeOf184
  rw [show (10000 : Nat) = 9999 + 1 from rfl, Op.equalIn]
  simp only [Sem.run_bind, run_underlying Tryz.underlying186, Result.andThen_ok]
  simp only [Std.Legacy.Range.forIn_eq_forIn_range', Std.Legacy.Range.size, Nat.sub_zero, Nat.add_sub_cancel, Nat.div_one, List.range'_succ, List.range'_zero, List.forIn_cons, List.forIn_nil]
  go_simp
  simp only [eqArr2f, Result.andThen_ok]
  cases h1 : (a == a' && b == b') <;> cases h2 : (c == c' && d == d') <;> simp
attribute [local go_sem] eqArr4

theorem gcd_int {A B X Y : Nat} {p0 p1 q0 q1 : Int} (h : ∀ A B : Int, Int.gcd (p0 * A + p1 * B) (q0 * A + q1 * B) = Int.gcd A B) (hX : p0 * (A : Int) + p1 * (B : Int) = (X : Int)) (hY : q0 * (A : Int) + q1 * (B : Int) = (Y : Int)) : Nat.gcd X Y = Nat.gcd A B := by
  have := h A B
  rw [hX, hY, Int.gcd_natCast_natCast, Int.gcd_natCast_natCast] at this
  exact this
/-- what the highest digits say of a number -/
theorem high_bd (A m : Nat) : (((A / 65536 ^ m : Nat) : Int) * ((65536 ^ m : Nat) : Int) ≤ (A : Int)) ∧ (A : Int) < (((A / 65536 ^ m : Nat) : Int) + 1) * ((65536 ^ m : Nat) : Int) := by
  have hP : 0 < 65536 ^ m := Nat.pow_pos (by omega)
  have h1 := Nat.div_mul_le_self A (65536 ^ m)
  have h2 : A < (A / 65536 ^ m + 1) * 65536 ^ m := by
    have := Nat.lt_div_mul_add (a := A) hP
    rw [Nat.add_mul]
    omega
  exact ⟨by exact_mod_cast h1, by exact_mod_cast h2⟩
/-- what a step brings, in numbers -/
theorem rests_nat {A B m : Nat} {p0 p1 q0 q1 : Int} (h : GoodRests ((A / 65536 ^ m : Nat) : Int) ((B / 65536 ^ m : Nat) : Int) p0 p1 q0 q1) (hn : ¬ (p0 = 1 ∧ p1 = 0 ∧ q0 = 0 ∧ q1 = 1)) (hA : 0 < A) (hB : 0 < B) :
    ∃ X Y : Nat, (A : Int) * p0 + (B : Int) * p1 = (X : Int) ∧ (A : Int) * q0 + (B : Int) * q1 = (Y : Int) ∧ X ≤ B ∧ Y < B ∧ Y < X ∧ Nat.gcd X Y = Nat.gcd A B ∧ (-16777216 ≤ p0 ∧ p0 ≤ 16777216) ∧ (-16777216 ≤ p1 ∧ p1 ≤ 16777216) ∧ (-16777216 ≤ q0 ∧ q0 ≤ 16777216) ∧ (-16777216 ≤ q1 ∧ q1 ≤ 16777216) := by
  rcases h with h | ⟨x, y, e, P0, P1, Q0, Q1, hL, l0, l1, g0, g1⟩
  · exact absurd h hn
  have a := high_bd A m
  have b := high_bd B m
  have hP : (0 : Int) < ((65536 ^ m : Nat) : Int) := by exact_mod_cast (Nat.pow_pos (by omega) : 0 < 65536 ^ m)
  obtain ⟨r1, r2, r3, r4, r5⟩ := hL.rests hP (Int.natCast_nonneg _) (Int.natCast_nonneg _) a.1 a.2 b.1 b.2 (by omega) (by omega) l0 l1 g0 g1
  have bd := hL.bd
  refine ⟨(p0 * A + p1 * B).toNat, (q0 * A + q1 * B).toNat, ?_, ?_, by omega, by omega, by omega, gcd_int hL.gc (by omega) (by omega), bd⟩
  · rw [Int.mul_comm _ p0, Int.mul_comm _ p1]; omega
  · rw [Int.mul_comm _ q0, Int.mul_comm _ q1]; omega
theorem lt48 {a : Nat} (h : a < 281474976710656) : ((a : Nat) : Int) < 281474976710656 := by omega
theorem three_lt {A m : Nat} (h : (natL A).length ≤ m + 3) : A / 65536 ^ m < 281474976710656 := by
  have h1 := natL_lt_pow A
  have h2 : 65536 ^ (natL A).length ≤ 65536 ^ m * 65536 ^ 3 := by rw [← Nat.pow_add]; exact Nat.pow_le_pow_right (by omega) (by omega)
  exact Nat.div_lt_of_lt_mul (Nat.lt_of_lt_of_le h1 h2)
theorem cell_lt {w : World} {b i : Nat} {v : Value} (h : w.cell? ⟨b, i, none⟩ = some v) : b < w.heap.size := by
  apply Nat.lt_of_not_le
  intro hn
  have e : w.heap[b]? = none := Array.getElem?_eq_none hn
  simp [World.cell?, e] at h
def valM (A B : Nat) (fa fb : Int) : Nat := ((A : Int) * fa + (B : Int) * fb).toNat
def MixC (A B : Nat) (fa fb : Int) : Prop := ∃ X : Nat, (A : Int) * fa + (B : Int) * fb = (X : Int) ∧ X ≤ B ∧ (-16777216 ≤ fa ∧ fa ≤ 16777216) ∧ (-16777216 ≤ fb ∧ fb ≤ 16777216)
theorem MixC.bdA {A B : Nat} {fa fb : Int} (h : MixC A B fa fb) : -16777216 ≤ fa ∧ fa ≤ 16777216 := by obtain ⟨X, -, -, h, -⟩ := h; exact h
theorem MixC.bdB {A B : Nat} {fa fb : Int} (h : MixC A B fa fb) : -16777216 ≤ fb ∧ fb ≤ 16777216 := by obtain ⟨X, -, -, -, h⟩ := h; exact h
theorem MixC.eq {A B : Nat} {fa fb : Int} (h : MixC A B fa fb) : (A : Int) * fa + (B : Int) * fb = (valM A B fa fb : Int) := by obtain ⟨X, h, -⟩ := h; unfold valM; rw [h]; rfl
theorem MixC.le {A B : Nat} {fa fb : Int} (h : MixC A B fa fb) : valM A B fa fb ≤ B := by obtain ⟨X, h, k, -⟩ := h; unfold valM; rw [h]; exact k
set_option maxHeartbeats 4000000 in
theorem iNearer0 (a b : Option Addr) (ca cb : Nat) (A B m : Nat) (w : World) (hA : InI w a (natL A).length ca (natL A)) (hB : InI w b (natL B).length cb (natL B)) (hlA : (natL A).length ≤ 65536) (hAB : B < A) (hB0 : 0 < B)
    (hm : (3 < (natL A).length ∧ (natL A).length = m + 3) ∨ ((natL A).length ≤ 3 ∧ m = 0)) :
    Calls Tryz.prog 106 #[.slice a (natL A).length ca, .slice b (natL B).length cb] w fun e w' => (∃ (u v : Nat) (av : Option Addr) (cv : Nat) (av2 : Option Addr) (cv2 : Nat), e = .returned (.tuple #[.slice av (natL u).length cv, .slice av2 (natL v).length cv2]) ∧ InI w' av (natL u).length cv (natL u) ∧ InI w' av2 (natL v).length cv2 (natL v) ∧ Nat.gcd u v = Nat.gcd A B ∧ v < B ∧ v < u ∧ u ≤ B) ∧ Below w.heap.size w w' := by
  have hlB : (natL B).length ≤ (natL A).length := natL_le (Nat.le_of_lt hAB)
  have hl3 : (natL A).length ≤ m + 3 := by omega
  have hm2 : m ≤ 65536 := by omega
  have T1 := hd (iThree a _ ca _ m w hA (digs_natL A) hl3 hlA hm2)
  have T2 := hd (fun w' (h : Below w.heap.size w w') => iThree b _ cb _ m w' (hB.old h) (digs_natL B) (by omega) (by omega) hm2)
  rw [val_natL] at T1 T2
  have S := hd (fun w' => iSure ((A / 65536 ^ m : Nat) : Int) ((B / 65536 ^ m : Nat) : Int) w' ⟨Int.natCast_nonneg _, lt48 (three_lt hl3)⟩ ⟨Int.natCast_nonneg _, lt48 (three_lt (show (natL B).length ≤ m + 3 by omega))⟩ (Int.ofNat_le.2 (Nat.div_le_div_right (Nat.le_of_lt hAB))))
  have NR := hd iNoRests
  have DV := hd (fun w' (h : Below w.heap.size w w') => iDivided a b _ _ ca cb _ _ w' (hA.old h) (hB.old h) (digs_natL A) (digs_natL B) (topped_natL B) hlA (by omega) (natL_length_pos hB0))
  rw [val_natL, val_natL] at DV
  have hgR := hd (fun p0 p1 q0 q1 h hn => rests_nat (A := A) (B := B) (m := m) (p0 := p0) (p1 := p1) (q0 := q0) (q1 := q1) h hn (by omega) hB0)
  have MX := hd (fun w' (h : Below w.heap.size w w') fa fb (X : Nat) (ha : -16777216 ≤ fa ∧ fa ≤ 16777216) (hb : -16777216 ≤ fb ∧ fb ≤ 16777216) (hX : (A : Int) * fa + (B : Int) * fb = (X : Int)) (hXB : X ≤ B) => iMixed a b _ _ ca cb _ _ fa fb 16777216 w' (hA.old h) (hB.old h) (digs_natL A) (digs_natL B) (by omega) (by omega) (by omega) (by omega) ha hb (X : Int) (by rw [val_natL, val_natL]; exact hX.symm) (Int.natCast_nonneg _) (by
    have h1 := natL_lt_pow B
    have h2 : 65536 ^ (natL B).length ≤ 65536 ^ (max (natL A).length (natL B).length + 1) := Nat.pow_le_pow_right (by omega) (by omega)
    have h3 : X < 65536 ^ (max (natL A).length (natL B).length + 1) := by omega
    have h4 := pow_cast (max (natL A).length (natL B).length + 1)
    omega))
  simp only [Int.toNat_natCast] at MX
  have hBin := hd hB
  have hAin := hd hA
  have hmod := hd (Nat.mod_lt A hB0)
  have hgcd : Hid (Nat.gcd B (A % B) = Nat.gcd A B) := by
    show _ = _
    rw [Nat.gcd_comm A B, Nat.gcd_rec B A, Nat.gcd_comm (A % B) B]
  generalize ((A / 65536 ^ m : Nat) : Int) = x0 at *
  generalize ((B / 65536 ^ m : Nat) : Int) = y0 at *
  clear hl3
  have hlA0 : (0 : Int) ≤ ((natL A).length : Int) := by omega
  have hlA1 : ((natL A).length : Int) ≤ 65536 := by omega
  generalize hM : (m : Int) = M at *
  have hM2 : M = max (((natL A).length : Int) - 3) 0 := by omega
  clear hM hm hlB hm2 hlA
  generalize (natL A).length = la at *
  subst hM2
  go_enter Tryz.func106, Tryz.ntmps106
  go_wp2_with fail
  refine T1.out.mono ?_
  rintro e w1 ⟨rfl, hw⟩
  obtain rfl : w = w1 := hw.symm
  clear hw
  go_wp2_with fail
  refine (T2.out _ (Below.refl _ _)).mono ?_
  rintro e w1 ⟨rfl, hw⟩
  obtain rfl : w = w1 := hw.symm
  clear hw
  go_wp2_with fail
  refine (S.out _).mono ?_
  rintro e w1 ⟨⟨p0, p1, q0, q1, rfl, hG⟩, hb1⟩
  have L5 := Loc4.new w1 p0 p1 q0 q1 186
  have hB2 := old_alloc hb1 (.cells #[.int .i64 p0, .int .i64 p1, .int .i64 q0, .int .i64 q1] 186)
  have hgR2 := hd (hgR.out p0 p1 q0 q1 hG)
  clear T1 T2 S hgR hG
  go_wp2_with fail
  generalize hrb : w1.heap.size = rb at *
  generalize w1.alloc (.cells #[.int .i64 p0, .int .i64 p1, .int .i64 q0, .int .i64 q1] 186) = w2 at *
  obtain ⟨s1, ⟨s2, s3, s4, s5⟩, s6, s7, s8, s9⟩ := L5
  clear hb1 hrb s6 s7 s8 s9
  have NR2 := hd (fun w' (h : w'.cell? ⟨rb, 0, none⟩ = some (.int .i64 p0) ∧ w'.cell? ⟨rb, 1, none⟩ = some (.int .i64 p1) ∧ w'.cell? ⟨rb, 2, none⟩ = some (.int .i64 q0) ∧ w'.cell? ⟨rb, 3, none⟩ = some (.int .i64 q1)) => (NR.out w').mono (fun e w'' (k : _ ∧ _) => (⟨k, by
    have hl : rb < w'.heap.size := cell_lt h.1
    exact ⟨(k.2.cell (p := ⟨rb, 0, none⟩) hl).trans h.1, (k.2.cell (p := ⟨rb, 1, none⟩) hl).trans h.2.1, (k.2.cell (p := ⟨rb, 2, none⟩) hl).trans h.2.2.1, (k.2.cell (p := ⟨rb, 3, none⟩) hl).trans h.2.2.2⟩⟩ : (_ ∧ _) ∧ (w''.cell? ⟨rb, 0, none⟩ = some (.int .i64 p0) ∧ w''.cell? ⟨rb, 1, none⟩ = some (.int .i64 p1) ∧ w''.cell? ⟨rb, 2, none⟩ = some (.int .i64 q0) ∧ w''.cell? ⟨rb, 3, none⟩ = some (.int .i64 q1)))))
  go_region_held3 (fun w' => w'.cell? ⟨rb, 0, none⟩ = some (.int .i64 p0) ∧ w'.cell? ⟨rb, 1, none⟩ = some (.int .i64 p1) ∧ w'.cell? ⟨rb, 2, none⟩ = some (.int .i64 q0) ∧ w'.cell? ⟨rb, 3, none⟩ = some (.int .i64 q1)) (go_keep) (first | (go_at_call 119; refine (NR2.out _ (by assumption)).mono ?_; rintro e w3 ⟨⟨rfl, hb3⟩, hc3⟩))
  clear NR NR2 s2 s3 s4 s5
  have hB3 := old_trans hB2.drew hb3
  generalize hbb : (p0 == 1 && p1 == 0 && (q0 == 0 && q1 == 1)) = bb
  cases bb
  rotate_left
  · clear hgR2 MX hbb
    go_wp2_with fail
    refine (DV.out _ hB3).mono ?_
    rintro e w4 ⟨⟨av, cv, rfl, hO⟩, hb4⟩
    go_wp2
    go_ret2
    exact ⟨⟨B, A % B, b, cb, av, cv, rfl, hBin.out.old (old_trans hB3 hb4), hO.inI, hgcd.out, hmod.out, hmod.out, Nat.le_refl _⟩, old_trans hB3 hb4⟩
  · have hid : ¬ (p0 = 1 ∧ p1 = 0 ∧ q0 = 0 ∧ q1 = 1) := by
      rintro ⟨rfl, rfl, rfl, rfl⟩
      simp at hbb
    clear hbb
    obtain ⟨X, Y, eX, eY, hX, hY, hYX, hg, b0, b1, b2, b3⟩ := hgR2.out hid
    have M1 : MixC A B p0 p1 := ⟨X, eX, hX, b0, b1⟩
    have M2 : MixC A B q0 q1 := ⟨Y, eY, Nat.le_of_lt hY, b2, b3⟩
    have v1 : Hid (valM A B p0 p1 = X) := by show valM A B p0 p1 = X; unfold valM; rw [eX, Int.toNat_natCast]
    have v2 : Hid (valM A B q0 q1 = Y) := by show valM A B q0 q1 = Y; unfold valM; rw [eY, Int.toNat_natCast]
    have hfin : Hid (Nat.gcd X Y = Nat.gcd A B ∧ Y < B ∧ Y < X ∧ X ≤ B) := ⟨hg, hY, hYX, hX⟩
    have MY := hd (fun w' fa fb (hS : w'.cell? ⟨rb, 0, none⟩ = some (.int .i64 p0) ∧ w'.cell? ⟨rb, 1, none⟩ = some (.int .i64 p1) ∧ w'.cell? ⟨rb, 2, none⟩ = some (.int .i64 q0) ∧ w'.cell? ⟨rb, 3, none⟩ = some (.int .i64 q1)) (h : Below w.heap.size w w') (hC : MixC A B fa fb) => (MX.out w' h fa fb (valM A B fa fb) hC.bdA hC.bdB hC.eq hC.le).mono (fun e w'' (k : _ ∧ _) => (⟨k.1, k.2, by
      have hl : rb < w'.heap.size := cell_lt hS.1
      exact ⟨(k.2.cell (p := ⟨rb, 0, none⟩) hl).trans hS.1, (k.2.cell (p := ⟨rb, 1, none⟩) hl).trans hS.2.1, (k.2.cell (p := ⟨rb, 2, none⟩) hl).trans hS.2.2.1, (k.2.cell (p := ⟨rb, 3, none⟩) hl).trans hS.2.2.2⟩⟩ : _ ∧ _ ∧ (w''.cell? ⟨rb, 0, none⟩ = some (.int .i64 p0) ∧ w''.cell? ⟨rb, 1, none⟩ = some (.int .i64 p1) ∧ w''.cell? ⟨rb, 2, none⟩ = some (.int .i64 q0) ∧ w''.cell? ⟨rb, 3, none⟩ = some (.int .i64 q1)))))
    clear hgR2 MX DV eX eY hX hY hYX hg b0 b1 b2 b3 hid hgcd hmod hAB hB0
    go_wp2_with fail
    go_region_held3 (fun w' => w'.cell? ⟨rb, 0, none⟩ = some (.int .i64 p0) ∧ w'.cell? ⟨rb, 1, none⟩ = some (.int .i64 p1) ∧ w'.cell? ⟨rb, 2, none⟩ = some (.int .i64 q0) ∧ w'.cell? ⟨rb, 3, none⟩ = some (.int .i64 q1)) (go_keep) (first | (go_at_call 115; refine (MY.out _ _ _ (by assumption) (by repeat (first | exact hB3 | refine Below.drew ?_ | refine old_trans ?_ (by assumption))) (by assumption)).mono ?_; rintro e w4 ⟨⟨av, cv, rfl, hO⟩, hb4, hc4⟩))
    all_goals
      go_wp2
      go_ret2
      have h9 : Nat.gcd (valM A B p0 p1) (valM A B q0 q1) = Nat.gcd A B ∧ valM A B q0 q1 < B ∧ valM A B q0 q1 < valM A B p0 p1 ∧ valM A B p0 p1 ≤ B := by
        rw [show valM A B p0 p1 = X from v1.out, show valM A B q0 q1 = Y from v2.out]
        exact hfin.out
      refine ⟨⟨valM A B p0 p1, valM A B q0 q1, _, _, _, _, rfl, ?_, ?_, h9⟩, (by repeat (first | exact hB3 | refine Below.drew ?_ | refine old_trans ?_ (by assumption)))⟩
      · first | exact OI.inI (by assumption) | exact OI.inI (OI.later (by assumption) (by assumption))
      · first | exact OI.inI (by assumption) | exact OI.inI (OI.later (by assumption) (by assumption))
theorem iNearer (a b : Option Addr) (ca cb : Nat) (A B : Nat) (w : World) (hA : InI w a (natL A).length ca (natL A)) (hB : InI w b (natL B).length cb (natL B)) (hlA : (natL A).length ≤ 65536) (hAB : B < A) (hB0 : 0 < B) :
    Calls Tryz.prog 106 #[.slice a (natL A).length ca, .slice b (natL B).length cb] w fun e w' => (∃ (u v : Nat) (av : Option Addr) (cv : Nat) (av2 : Option Addr) (cv2 : Nat), e = .returned (.tuple #[.slice av (natL u).length cv, .slice av2 (natL v).length cv2]) ∧ InI w' av (natL u).length cv (natL u) ∧ InI w' av2 (natL v).length cv2 (natL v) ∧ Nat.gcd u v = Nat.gcd A B ∧ v < B ∧ v < u ∧ u ≤ B) ∧ Below w.heap.size w w' := by
  by_cases h : 3 < (natL A).length
  · exact iNearer0 a b ca cb A B ((natL A).length - 3) w hA hB hlA hAB hB0 (by omega)
  · exact iNearer0 a b ca cb A B 0 w hA hB hlA hAB hB0 (by omega)
end Go.Proofs.YtgoffjpfddmhhaaGreatDoor
