/- How often a number goes into digits that have one more, guessed by the highest digits: never too few. Conditions: digits, two at least. -/
import Derived.Test.YtpamnpdigoikoaaDoorV4m
import Derived.Test.YtpamnpdigoikoaaDoorV7
import Derived.BigQuiet
import Derived.Laws.StructEq
import Derived.Laws.Tables
import Derived.Laws.Cover2
import Derived.KernelRfl
import Derived.Deep.RegionHeld3
namespace Go.Proofs.YtpamnpdigoikoaaDoor
open Go.RowKit
set_option linter.unusedVariables false
set_option maxRecDepth 100000

theorem eqArr2 (a b c d : Int) (w : World) : (Op.equalIn 10000 109 (.agg #[.int .i64 a, .int .i64 b]) (.agg #[.int .i64 c, .int .i64 d])).run Tryd.prog w = .ok (a == c && b == d) w := by
  have u3 := Tryd.underlying3
  have a3 := Tryd.isAgg3
  have z3 := Tryd.sizeOf3
  rw [show (10000 : Nat) = 9999 + 1 from rfl, Op.equalIn]
  simp only [Sem.run_bind, run_underlying Tryd.underlying109, Result.andThen_ok]
  simp only [Std.Legacy.Range.forIn_eq_forIn_range', Std.Legacy.Range.size, Nat.sub_zero, Nat.add_sub_cancel, Nat.div_one, List.range'_succ, List.range'_zero, List.forIn_cons, List.forIn_nil]
  go_simp
  by_cases h1 : a = c <;> by_cases h2 : b = d <;> simp [h1, h2]
attribute [local go_sem] eqArr2
theorem below_drewN {n : Nat} {a b : World} (h : Below n a b) (k : Nat) : Below n a (b.drewN k) := ⟨h.1, h.2, h.3, h.4, h.5⟩
theorem top2 {xs : List Int} {m : Nat} (hx : digs xs) (hl : xs.length = m + 2) : ((val xs / 65536 ^ m : Nat) : Int) = xs.getD (m + 1) 0 * 65536 + xs.getD m 0 := by
  rw [← val_drop_div hx, val_drop (by omega), val_drop (by omega), List.drop_of_length_le (by omega), val_nil]
  have d1 := digs_getD hx m
  have d2 := digs_getD hx (m + 1)
  unfold dig at d1 d2
  omega
theorem top3 {xs : List Int} {m : Nat} (hx : digs xs) (hl : xs.length = m + 3) : ((val xs / 65536 ^ m : Nat) : Int) = (xs.getD (m + 2) 0 * 65536 + xs.getD (m + 1) 0) * 65536 + xs.getD m 0 := by
  rw [← val_drop_div hx, val_drop (by omega), val_drop (by omega), val_drop (by omega), List.drop_of_length_le (by omega), val_nil]
  have d1 := digs_getD hx m
  have d2 := digs_getD hx (m + 1)
  have d3 := digs_getD hx (m + 2)
  rw [show m + 1 + 1 = m + 2 from rfl]
  unfold dig at d1 d2 d3
  generalize xs.getD (m + 2) 0 = z2 at *
  generalize xs.getD (m + 1) 0 = z1 at *
  generalize xs.getD m 0 = z0 at *
  omega
theorem arith_top {T3 T2 : Nat} {r2 r1 r0 a1 a0 : Int} (t3 : ((T3 : Nat) : Int) = (r2 * 65536 + r1) * 65536 + r0) (t2 : ((T2 : Nat) : Int) = a1 * 65536 + a0) (d1 : 0 ≤ r1 ∧ r1 < 65536) (d0 : 0 ≤ r0 ∧ r0 < 65536) (dA : 0 ≤ a0 ∧ a0 < 65536) (hb : T3 < (T2 + 1) * 65536) (hne : ¬ (r2 = a1 ∧ r1 = a0)) : T3 < T2 * 65536 := by
  have hb1 : ((T3 : Nat) : Int) < (((T2 + 1) * 65536 : Nat) : Int) := Int.ofNat_lt.2 hb
  rw [Int.natCast_mul, Int.natCast_add, t3, t2] at hb1
  have hb2 : (r2 * 65536 + r1) * 65536 + r0 < (a1 * 65536 + a0 + 1) * 65536 := hb1
  have h1 : r2 * 65536 + r1 ≤ a1 * 65536 + a0 := by omega
  have h2 : r2 * 65536 + r1 ≠ a1 * 65536 + a0 := by
    intro e
    exact hne ⟨by omega, by omega⟩
  have h3 : ((T3 : Nat) : Int) < ((T2 * 65536 : Nat) : Int) := by
    rw [Int.natCast_mul, t3, t2]
    show (r2 * 65536 + r1) * 65536 + r0 < (a1 * 65536 + a0) * 65536
    omega
  exact Int.ofNat_lt.1 h3
/-- what the guess is worth -/
theorem guess3 {xs rs : List Int} {m : Nat} (hx : digs xs) (hr : digs rs) (hl : xs.length = m + 2) (hl2 : rs.length = m + 3) (hR : val rs < val xs * 65536) {r2 r1 r0 a1 a0 : Int} (e2 : rs.getD (m + 2) 0 = r2) (e1 : rs.getD (m + 1) 0 = r1) (e0 : rs.getD m 0 = r0) (f1 : xs.getD (m + 1) 0 = a1) (f0 : xs.getD m 0 = a0) (ha : 0 < a1) :
    (¬ (r2 = a1 ∧ r1 = a0) → ∃ t : Nat, ((r2 * 65536 + r1) * 65536 + r0) / (a1 * 65536 + a0) = (t : Int) ∧ val rs / val xs ≤ t ∧ t ≤ 65535) ∧ val rs / val xs ≤ 65535 := by
  have t2 := top2 hx hl
  have t3 := top3 hr hl2
  rw [e2, e1, e0] at t3
  rw [f1, f0] at t2
  have hP : 0 < 65536 ^ m := Nat.pow_pos (by omega)
  have dA := digs_getD hx m
  have dr1 := digs_getD hr (m + 1)
  have dr0 := digs_getD hr m
  rw [f0] at dA
  rw [e1] at dr1
  rw [e0] at dr0
  unfold dig at dA dr1 dr0
  have hD : 0 < val xs / 65536 ^ m := by omega
  have hg := guess_le (R := val rs) (Y := val xs) hP hD
  have hxp : 0 < val xs := Nat.lt_of_lt_of_le hD (Nat.div_le_self _ _)
  have hlast : val rs / val xs ≤ 65535 := by
    have : val rs / val xs < 65536 := Nat.div_lt_of_lt_mul hR
    omega
  refine ⟨fun hne => ⟨val rs / 65536 ^ m / (val xs / 65536 ^ m), ?_, hg, ?_⟩, hlast⟩
  · rw [← t3, ← t2]; rfl
  · -- the two highest digits are below the divisor's
    have hb : val rs / 65536 ^ m < (val xs / 65536 ^ m + 1) * 65536 := by
      refine Nat.div_lt_of_lt_mul ?_
      have h6 : val xs < 65536 ^ m * (val xs / 65536 ^ m + 1) := by
        have := Nat.div_add_mod (val xs) (65536 ^ m)
        have := Nat.mod_lt (val xs) hP
        rw [Nat.mul_add, Nat.mul_one]
        generalize 65536 ^ m * (val xs / 65536 ^ m) = z at *
        generalize 65536 ^ m = P at *
        omega
      rw [← Nat.mul_assoc]
      exact Nat.lt_of_lt_of_le hR (Nat.mul_le_mul_right _ (Nat.le_of_lt h6))
    have hlt : val rs / 65536 ^ m < (val xs / 65536 ^ m) * 65536 := arith_top t3 t2 dr1 dr0 dA hb hne
    exact Nat.le_of_lt_succ (Nat.div_lt_of_lt_mul hlt)
set_option maxRecDepth 100000 in
set_option maxHeartbeats 4000000 in
theorem iGuessed0 (ba oa n n3 i1 i0 ca g cr : Nat) (a1 a0 r2 r1 r0 : Int) (q : Nat) (w : World)
    (c1 : w.cell? ⟨ba, oa + i1, none⟩ = some (.int .i64 a1)) (c0 : w.cell? ⟨ba, oa + i0, none⟩ = some (.int .i64 a0)) (k2 : w.cell? ⟨g, n, none⟩ = some (.int .i64 r2)) (k1 : w.cell? ⟨g, i1, none⟩ = some (.int .i64 r1)) (k0 : w.cell? ⟨g, i0, none⟩ = some (.int .i64 r0))
    (s1 : (n : Int) - 1 = (i1 : Int)) (s0 : (n : Int) - 2 = (i0 : Int)) (u3 : (n : Int) < (n3 : Int)) (hb : (n : Int) ≤ 1048578) (hn0 : (0 : Int) ≤ (n : Int)) (hi1 : (0 : Int) ≤ (i1 : Int)) (hi0 : (0 : Int) ≤ (i0 : Int))
    (dA1 : 0 < a1 ∧ a1 < 65536) (dA0 : 0 ≤ a0 ∧ a0 < 65536) (d2 : 0 ≤ r2 ∧ r2 < 65536) (d1 : 0 ≤ r1 ∧ r1 < 65536) (d0 : 0 ≤ r0 ∧ r0 < 65536) (hbl : ba < w.heap.size) (hgl : g < w.heap.size)
    (G1 : ¬ (r2 = a1 ∧ r1 = a0) → ∃ t : Nat, ((r2 * 65536 + r1) * 65536 + r0) / (a1 * 65536 + a0) = (t : Int) ∧ q ≤ t ∧ t ≤ 65535) (G2 : q ≤ 65535) :
    Calls Tryd.prog 106 #[.slice (some ⟨ba, oa, none⟩) n ca, .slice (some ⟨g, 0, none⟩) n3 cr] w fun e w' => (∃ t : Nat, e = .returned (.int .i64 (t : Int)) ∧ q ≤ t ∧ t ≤ 65535) ∧ Below w.heap.size w w' := by
  have x1 : 0 ≤ (n : Int) - 1 := by omega
  have x2 : (n : Int) - 1 < (n3 : Int) := by omega
  have x3 : (n : Int) - 1 < (n : Int) := by omega
  have x4 : ((n : Int) - 1).toNat = i1 := by omega
  have x5 : IntKind.i64.wrap ((n : Int) - 1) = (n : Int) - 1 := by simp [IntKind.wrap, IntKind.bits, IntKind.signed]; omega
  have y1 : 0 ≤ (n : Int) - 2 := by omega
  have y2 : (n : Int) - 2 < (n3 : Int) := by omega
  have y3 : (n : Int) - 2 < (n : Int) := by omega
  have y4 : ((n : Int) - 2).toNat = i0 := by omega
  have y5 : IntKind.i64.wrap ((n : Int) - 2) = (n : Int) - 2 := by simp [IntKind.wrap, IntKind.bits, IntKind.signed]; omega
  have z4 : ((n : Int)).toNat = n := by omega
  have z5 : 1 ≤ (n : Int) := by omega
  have z6 : 2 ≤ (n : Int) := by omega
  have z7 : (n : Int) ≤ (n3 : Int) := by omega
  have z8 : (n : Int) < (n3 : Int) + 1 := by omega
  have z9 : (n : Int) < (n3 : Int) + 2 := by omega
  have v1 : (n : Int) < (n : Int) + 1 := by omega
  have v2 : (n : Int) < (n : Int) + 2 := by omega
  clear s1 s0 hi1 hi0
  have ne1 : ba ≠ w.heap.size := by omega
  have ne2 : g ≠ w.heap.size := by omega
  have ne3 : ba ≠ w.heap.size + 1 := by omega
  have ne4 : g ≠ w.heap.size + 1 := by omega
  by_cases heq : r2 = a1 ∧ r1 = a0
  · obtain ⟨rfl, rfl⟩ := heq
    clear G1
    go_enter Tryd.func106, Tryd.ntmps106
    generalize hN : (n : Int) = N at *
    generalize hN3 : (n3 : Int) = N3 at *
    go_wp2
    go_region_held3 (fun w' => w'.cell? ⟨ba, oa + i1, none⟩ = some (.int .i64 r2) ∧ w'.cell? ⟨ba, oa + i0, none⟩ = some (.int .i64 r1) ∧ w'.cell? ⟨g, n, none⟩ = some (.int .i64 r2) ∧ w'.cell? ⟨g, i1, none⟩ = some (.int .i64 r1) ∧ w'.cell? ⟨g, i0, none⟩ = some (.int .i64 r0)) (go_keep) (fail)
    go_wp2
    go_region_held3 (fun w' => w'.cell? ⟨ba, oa + i1, none⟩ = some (.int .i64 r2) ∧ w'.cell? ⟨ba, oa + i0, none⟩ = some (.int .i64 r1) ∧ w'.cell? ⟨g, n, none⟩ = some (.int .i64 r2) ∧ w'.cell? ⟨g, i1, none⟩ = some (.int .i64 r1) ∧ w'.cell? ⟨g, i0, none⟩ = some (.int .i64 r0)) (go_keep) (fail)
    go_wp2
    go_ret
    exact ⟨⟨65535, rfl, G2, Nat.le_refl _⟩, (by repeat (first | exact Below.refl _ _ | refine Below.drew ?_ | refine old_alloc ?_ _ | refine old_trans ?_ (by assumption)))⟩
  · obtain ⟨t, et, q1, q2⟩ := G1 heq
    have hD0 : 0 < a1 * 65536 + a0 := by omega
    have hD1 : a1 * 65536 + a0 < 4294967296 := by omega
    have hT0 : 0 ≤ (r2 * 65536 + r1) * 65536 + r0 := by omega
    have hT1 : (r2 * 65536 + r1) * 65536 + r0 < 281474976710656 := by omega
    have htd : Int.tdiv ((r2 * 65536 + r1) * 65536 + r0) (a1 * 65536 + a0) = (t : Int) := by rw [Int.tdiv_eq_ediv_of_nonneg hT0, et]
    have heqb : (r2 == a1 && r1 == a0) = false := by simpa using heq
    have hw1 : IntKind.i64.wrap (r2 * 65536) = r2 * 65536 := by simp [IntKind.wrap, IntKind.bits, IntKind.signed]; omega
    have hw2 : IntKind.i64.wrap (r2 * 65536 + r1) = r2 * 65536 + r1 := by simp [IntKind.wrap, IntKind.bits, IntKind.signed]; omega
    have hw3 : IntKind.i64.wrap ((r2 * 65536 + r1) * 65536) = (r2 * 65536 + r1) * 65536 := by simp [IntKind.wrap, IntKind.bits, IntKind.signed]; omega
    have hw4 : IntKind.i64.wrap ((r2 * 65536 + r1) * 65536 + r0) = (r2 * 65536 + r1) * 65536 + r0 := by simp [IntKind.wrap, IntKind.bits, IntKind.signed]; omega
    have hw5 : IntKind.i64.wrap (a1 * 65536) = a1 * 65536 := by simp [IntKind.wrap, IntKind.bits, IntKind.signed]; omega
    have hw6 : IntKind.i64.wrap (a1 * 65536 + a0) = a1 * 65536 + a0 := by simp [IntKind.wrap, IntKind.bits, IntKind.signed]; omega
    have hz1 : ¬ a1 * 65536 + a0 = 0 := by omega
    have hz2 : (a1 * 65536 + a0 == 0) = false := by simp; omega
    have ht : IntKind.i64.wrap (t : Int) = (t : Int) := by simp [IntKind.wrap, IntKind.bits, IntKind.signed]; omega
    have q1' := hd q1
    have q2' := hd q2
    clear G1 et q1 q2 G2
    generalize hN : (n : Int) = N at *
    generalize hN3 : (n3 : Int) = N3 at *
    generalize htI : (t : Int) = tI at *
    go_enter Tryd.func106, Tryd.ntmps106
    go_wp2
    go_region_held3 (fun w' => w'.cell? ⟨ba, oa + i1, none⟩ = some (.int .i64 a1) ∧ w'.cell? ⟨ba, oa + i0, none⟩ = some (.int .i64 a0) ∧ w'.cell? ⟨g, n, none⟩ = some (.int .i64 r2) ∧ w'.cell? ⟨g, i1, none⟩ = some (.int .i64 r1) ∧ w'.cell? ⟨g, i0, none⟩ = some (.int .i64 r0)) (go_keep) (fail)
    go_wp2
    go_region_held3 (fun w' => w'.cell? ⟨ba, oa + i1, none⟩ = some (.int .i64 a1) ∧ w'.cell? ⟨ba, oa + i0, none⟩ = some (.int .i64 a0) ∧ w'.cell? ⟨g, n, none⟩ = some (.int .i64 r2) ∧ w'.cell? ⟨g, i1, none⟩ = some (.int .i64 r1) ∧ w'.cell? ⟨g, i0, none⟩ = some (.int .i64 r0)) (go_keep) (fail)
    go_wp2
    go_quiet (fail)
    go_wp2
    go_ret
    exact ⟨⟨t, by rw [htI]; rfl, q1'.out, q2'.out⟩, below_drewN (by repeat (first | exact Below.refl _ _ | refine Below.drew ?_ | refine old_alloc ?_ _ | refine old_trans ?_ (by assumption))) _⟩
theorem iGuessed (a : Option Addr) (n ca g cr : Nat) (xs rs : List Int) (w : World) (hA : InI w a n ca xs) (h2 : 2 ≤ n) (hr : IRow w g rs) (hl : rs.length = n + 1) (hx : digs xs) (tx : topped xs) (hd0 : digs rs) (hR : val rs < val xs * 65536) (hm : n ≤ 1048576) :
    Calls Tryd.prog 106 #[.slice a n ca, .slice (some ⟨g, 0, none⟩) (n + 1) cr] w fun e w' => (∃ t : Nat, e = .returned (.int .i64 (t : Int)) ∧ val rs / val xs ≤ t ∧ t ≤ 65535) ∧ Below w.heap.size w w' := by
  have pa := hA.1
  obtain ⟨m, rfl⟩ : ∃ m, n = m + 2 := ⟨n - 2, by omega⟩
  obtain ⟨ba, oa, a1, rfl, hba, f1, -, c1⟩ := hA.at (k := m + 1) (by omega)
  obtain ⟨b0, o0, a0, he, -, f0, -, c0⟩ := hA.at (k := m) (by omega)
  cases he
  obtain ⟨r2, e2, k2, -⟩ := hr.at (k := m + 2) (by omega)
  obtain ⟨r1, e1, k1, -⟩ := hr.at (k := m + 1) (by omega)
  obtain ⟨r0, e0, k0, -⟩ := hr.at (k := m) (by omega)
  have dA1 := digs_getD hx (m + 1)
  have dA0 := digs_getD hx m
  have d2 := digs_getD hd0 (m + 2)
  have d1 := digs_getD hd0 (m + 1)
  have d0 := digs_getD hd0 m
  have tA := tx.resolve_left (by omega)
  rw [pa, show m + 2 - 1 = m + 1 from rfl, f1] at tA
  rw [f1] at dA1
  rw [f0] at dA0
  rw [e2] at d2
  rw [e1] at d1
  rw [e0] at d0
  unfold dig at dA1 dA0 d2 d1 d0
  obtain ⟨G1, G2⟩ := guess3 hx hd0 pa hl hR e2 e1 e0 f1 f0 (by omega)
  exact iGuessed0 ba oa (m + 2) (m + 2 + 1) (m + 1) m ca g cr a1 a0 r2 r1 r0 _ w c1 c0 k2 k1 k0 (by omega) (by omega) (by omega) (by omega) (by omega) (by omega) (by omega) (by omega) (by omega) (by omega) (by omega) (by omega) hba hr.1 G1 G2
end Go.Proofs.YtpamnpdigoikoaaDoor
