/- How often a number goes into digits that have one more, guessed by the highest digits: never too few. Conditions: digits, two at least. -/
import Derived.Test.YtgoffjpfddmhhaaGreatDoorPK12
import Derived.Test.YtgoffjpfddmhhaaGreatDoorPK08
import Derived.BigQuiet
import Derived.Laws.StructEq
import Derived.Laws.Tables
import Derived.Laws.Cover2
import Derived.KernelRfl
import Derived.Deep.RegionHeld3
import Derived.Test.YtgoffjpfddmhhaaGreatDoorPK11
namespace Go.Proofs.YtgoffjpfddmhhaaGreatDoor
open Go.RowKit
set_option linter.unusedVariables false
set_option maxRecDepth 100000

theorem eqArr2 (a b c d : Int) (w : World) : (Op.equalIn 10000 184 (.agg #[.int .i64 a, .int .i64 b]) (.agg #[.int .i64 c, .int .i64 d])).run Tryz.prog w = .ok (a == c && b == d) w := by
  have u3 := Tryz.underlying3
  have a3 := Tryz.isAgg3
  have z3 := Tryz.sizeOf3
  rw [show (10000 : Nat) = 9999 + 1 from rfl, Op.equalIn]
  simp only [Sem.run_bind, run_underlying Tryz.underlying184, Result.andThen_ok]
  simp only [Std.Legacy.Range.forIn_eq_forIn_range', Std.Legacy.Range.size, Nat.sub_zero, Nat.add_sub_cancel, Nat.div_one, List.range'_succ, List.range'_zero, List.forIn_cons, List.forIn_nil]
  go_simp
  by_cases h1 : a = c <;> by_cases h2 : b = d <;> simp [h1, h2]
attribute [local go_sem] eqArr2
theorem below_drewN {n : Nat} {a b : World} (h : Below n a b) (k : Nat) : Below n a (b.drewN k) := ⟨h.1, h.2, h.3, h.4, h.5⟩
theorem top2 {xs : List Int} {m : Nat} (hx : digs xs) (hl : xs.length = m + 2) : ((val xs / 65536 ^ m : Nat) : Int) = xs.getD (m + 1) 0 * 65536 + xs.getD m 0 := by
  rw [← val_drop_div hx, val_drop (by omega), val_drop (by omega), List.drop_of_length_le (by omega), val_nil]
  have d1 := digs_getD hx m
  have d2 := digs_getD hx (m + 1)
  unfold dig at d1 d2
  omega
theorem top3 {xs : List Int} {m : Nat} (hx : digs xs) (hl : xs.length = m + 3) : ((val xs / 65536 ^ m : Nat) : Int) = (xs.getD (m + 2) 0 * 65536 + xs.getD (m + 1) 0) * 65536 + xs.getD m 0 := by
  rw [← val_drop_div hx, val_drop (by omega), val_drop (by omega), val_drop (by omega), List.drop_of_length_le (by omega), val_nil]
  have d1 := digs_getD hx m
  have d2 := digs_getD hx (m + 1)
  have d3 := digs_getD hx (m + 2)
  rw [show m + 1 + 1 = m + 2 from rfl]
  unfold dig at d1 d2 d3
  generalize xs.getD (m + 2) 0 = z2 at *
  generalize xs.getD (m + 1) 0 = z1 at *
  generalize xs.getD m 0 = z0 at *
  omega
theorem arith_top {T3 T2 : Nat} {r2 r1 r0 a1 a0 : Int} (t3 : ((T3 : Nat) : Int) = (r2 * 65536 + r1) * 65536 + r0) (t2 : ((T2 : Nat) : Int) = a1 * 65536 + a0) (d1 : 0 ≤ r1 ∧ r1 < 65536) (d0 : 0 ≤ r0 ∧ r0 < 65536) (dA : 0 ≤ a0 ∧ a0 < 65536) (hb : T3 < (T2 + 1) * 65536) (hne : ¬ (r2 = a1 ∧ r1 = a0)) : T3 < T2 * 65536 := by
  have hb1 : ((T3 : Nat) : Int) < (((T2 + 1) * 65536 : Nat) : Int) := Int.ofNat_lt.2 hb
  rw [Int.natCast_mul, Int.natCast_add, t3, t2] at hb1
  have hb2 : (r2 * 65536 + r1) * 65536 + r0 < (a1 * 65536 + a0 + 1) * 65536 := hb1
  have h1 : r2 * 65536 + r1 ≤ a1 * 65536 + a0 := by omega
  have h2 : r2 * 65536 + r1 ≠ a1 * 65536 + a0 := by
    intro e
    exact hne ⟨by omega, by omega⟩
  have h3 : ((T3 : Nat) : Int) < ((T2 * 65536 : Nat) : Int) := by
    rw [Int.natCast_mul, t3, t2]
    show (r2 * 65536 + r1) * 65536 + r0 < (a1 * 65536 + a0) * 65536
    omega
  exact Int.ofNat_lt.1 h3
/-- what the guess is worth -/
theorem guess3 {xs rs : List Int} {m : Nat} (hx : digs xs) (hr : digs rs) (hl : xs.length = m + 2) (hl2 : rs.length = m + 3) (hR : val rs < val xs * 65536) {r2 r1 r0 a1 a0 : Int} (e2 : rs.getD (m + 2) 0 = r2) (e1 : rs.getD (m + 1) 0 = r1) (e0 : rs.getD m 0 = r0) (f1 : xs.getD (m + 1) 0 = a1) (f0 : xs.getD m 0 = a0) (ha : 0 < a1) :
    (¬ (r2 = a1 ∧ r1 = a0) → ∃ t : Nat, ((r2 * 65536 + r1) * 65536 + r0) / (a1 * 65536 + a0) = (t : Int) ∧ val rs / val xs ≤ t ∧ t ≤ 65535) ∧ val rs / val xs ≤ 65535 := by
  have t2 := top2 hx hl
  have t3 := top3 hr hl2
  rw [e2, e1, e0] at t3
  rw [f1, f0] at t2
  have hP : 0 < 65536 ^ m := Nat.pow_pos (by omega)
  have dA := digs_getD hx m
  have dr1 := digs_getD hr (m + 1)
  have dr0 := digs_getD hr m
  rw [f0] at dA
  rw [e1] at dr1
  rw [e0] at dr0
  unfold dig at dA dr1 dr0
  have hD : 0 < val xs / 65536 ^ m := by omega
  have hg := guess_le (R := val rs) (Y := val xs) hP hD
  have hxp : 0 < val xs := Nat.lt_of_lt_of_le hD (Nat.div_le_self _ _)
  have hlast : val rs / val xs ≤ 65535 := by
    have : val rs / val xs < 65536 := Nat.div_lt_of_lt_mul hR
    omega
  refine ⟨fun hne => ⟨val rs / 65536 ^ m / (val xs / 65536 ^ m), ?_, hg, ?_⟩, hlast⟩
  · rw [← t3, ← t2]; rfl
  · -- the two highest digits are below the divisor's
    have hb : val rs / 65536 ^ m < (val xs / 65536 ^ m + 1) * 65536 := by
      refine Nat.div_lt_of_lt_mul ?_
      have h6 : val xs < 65536 ^ m * (val xs / 65536 ^ m + 1) := by
        have := Nat.div_add_mod (val xs) (65536 ^ m)
        have := Nat.mod_lt (val xs) hP
        rw [Nat.mul_add, Nat.mul_one]
        generalize 65536 ^ m * (val xs / 65536 ^ m) = z at *
        generalize 65536 ^ m = P at *
        omega
      rw [← Nat.mul_assoc]
      exact Nat.lt_of_lt_of_le hR (Nat.mul_le_mul_right _ (Nat.le_of_lt h6))
    have hlt : val rs / 65536 ^ m < (val xs / 65536 ^ m) * 65536 := arith_top t3 t2 dr1 dr0 dA hb hne
    exact Nat.le_of_lt_succ (Nat.div_lt_of_lt_mul hlt)
set_option maxRecDepth 100000 in
set_option maxHeartbeats 4000000 in
theorem iGuessed0 (ba oa n n3 i1 i0 ca g cr : Nat) (a1 a0 r2 r1 r0 : Int) (q : Nat) (w : World)
    (c1 : w.cell? ⟨ba, oa + i1, none⟩ = some (.int .i64 a1)) (c0 : w.cell? ⟨ba, oa + i0, none⟩ = some (.int .i64 a0)) (k2 : w.cell? ⟨g, n, none⟩ = some (.int .i64 r2)) (k1 : w.cell? ⟨g, i1, none⟩ = some (.int .i64 r1)) (k0 : w.cell? ⟨g, i0, none⟩ = some (.int .i64 r0))
    (s1 : (n : Int) - 1 = (i1 : Int)) (s0 : (n : Int) - 2 = (i0 : Int)) (u3 : (n : Int) < (n3 : Int)) (hb : (n : Int) ≤ 1048578) (hn0 : (0 : Int) ≤ (n : Int)) (hi1 : (0 : Int) ≤ (i1 : Int)) (hi0 : (0 : Int) ≤ (i0 : Int))
    (dA1 : 0 < a1 ∧ a1 < 65536) (dA0 : 0 ≤ a0 ∧ a0 < 65536) (d2 : 0 ≤ r2 ∧ r2 < 65536) (d1 : 0 ≤ r1 ∧ r1 < 65536) (d0 : 0 ≤ r0 ∧ r0 < 65536) (hbl : ba < w.heap.size) (hgl : g < w.heap.size)
    (G1 : ¬ (r2 = a1 ∧ r1 = a0) → ∃ t : Nat, ((r2 * 65536 + r1) * 65536 + r0) / (a1 * 65536 + a0) = (t : Int) ∧ q ≤ t ∧ t ≤ 65535) (G2 : q ≤ 65535) :
    Calls Tryz.prog 109 #[.slice (some ⟨ba, oa, none⟩) n ca, .slice (some ⟨g, 0, none⟩) n3 cr] w fun e w' => (∃ t : Nat, e = .returned (.int .i64 (t : Int)) ∧ q ≤ t ∧ t ≤ 65535) ∧ Below w.heap.size w w' := by
  have x1 : 0 ≤ (n : Int) - 1 := by omega
  have x2 : (n : Int) - 1 < (n3 : Int) := by omega
  have x3 : (n : Int) - 1 < (n : Int) := by omega
  have x4 : ((n : Int) - 1).toNat = i1 := by omega
  have x5 : IntKind.i64.wrap ((n : Int) - 1) = (n : Int) - 1 := by simp [IntKind.wrap, IntKind.bits, IntKind.signed]; omega
  have y1 : 0 ≤ (n : Int) - 2 := by omega
  have y2 : (n : Int) - 2 < (n3 : Int) := by omega
  have y3 : (n : Int) - 2 < (n : Int) := by omega
  have y4 : ((n : Int) - 2).toNat = i0 := by omega
  have y5 : IntKind.i64.wrap ((n : Int) - 2) = (n : Int) - 2 := by simp [IntKind.wrap, IntKind.bits, IntKind.signed]; omega
  have z4 : ((n : Int)).toNat = n := by omega
  have z5 : 1 ≤ (n : Int) := by omega
  have z6 : 2 ≤ (n : Int) := by omega
  have z7 : (n : Int) ≤ (n3 : Int) := by omega
  have z8 : (n : Int) < (n3 : Int) + 1 := by omega
  have z9 : (n : Int) < (n3 : Int) + 2 := by omega
  have v1 : (n : Int) < (n : Int) + 1 := by omega
  have v2 : (n : Int) < (n : Int) + 2 := by omega
  clear s1 s0 hi1 hi0
  have ne1 : ba ≠ w.heap.size := by omega
  have ne2 : g ≠ w.heap.size := by omega
  have ne3 : ba ≠ w.heap.size + 1 := by omega
  have ne4 : g ≠ w.heap.size + 1 := by omega
  by_cases heq : r2 = a1 ∧ r1 = a0
  · obtain ⟨rfl, rfl⟩ := heq
    clear G1
    go_enter Tryz.func109, Tryz.ntmps109
    generalize hN : (n : Int) = N at *
    generalize hN3 : (n3 : Int) = N3 at *
    go_wp2
    go_region_held3 (fun w' => w'.cell? ⟨ba, oa + i1, none⟩ = some (.int .i64 r2) ∧ w'.cell? ⟨ba, oa + i0, none⟩ = some (.int .i64 r1) ∧ w'.cell? ⟨g, n, none⟩ = some (.int .i64 r2) ∧ w'.cell? ⟨g, i1, none⟩ = some (.int .i64 r1) ∧ w'.cell? ⟨g, i0, none⟩ = some (.int .i64 r0)) (go_keep) (fail)
    go_wp2
    go_region_held3 (fun w' => w'.cell? ⟨ba, oa + i1, none⟩ = some (.int .i64 r2) ∧ w'.cell? ⟨ba, oa + i0, none⟩ = some (.int .i64 r1) ∧ w'.cell? ⟨g, n, none⟩ = some (.int .i64 r2) ∧ w'.cell? ⟨g, i1, none⟩ = some (.int .i64 r1) ∧ w'.cell? ⟨g, i0, none⟩ = some (.int .i64 r0)) (go_keep) (fail)
    go_wp2
    go_ret
    exact ⟨⟨65535, rfl, G2, Nat.le_refl _⟩, (by repeat (first | exact Below.refl _ _ | refine Below.drew ?_ | refine old_alloc ?_ _ | refine old_trans ?_ (by assumption)))⟩
  · obtain ⟨t, et, q1, q2⟩ := G1 heq
    have hD0 : 0 < a1 * 65536 + a0 := by omega
    have hD1 : a1 * 65536 + a0 < 4294967296 := by omega
    have hT0 : 0 ≤ (r2 * 65536 + r1) * 65536 + r0 := by omega
    have hT1 : (r2 * 65536 + r1) * 65536 + r0 < 281474976710656 := by omega
    have htd : Int.tdiv ((r2 * 65536 + r1) * 65536 + r0) (a1 * 65536 + a0) = (t : Int) := by rw [Int.tdiv_eq_ediv_of_nonneg hT0, et]
    have heqb : (r2 == a1 && r1 == a0) = false := by simpa using heq
    have hw1 : IntKind.i64.wrap (r2 * 65536) = r2 * 65536 := by simp [IntKind.wrap, IntKind.bits, IntKind.signed]; omega
    have hw2 : IntKind.i64.wrap (r2 * 65536 + r1) = r2 * 65536 + r1 := by simp [IntKind.wrap, IntKind.bits, IntKind.signed]; omega
    have hw3 : IntKind.i64.wrap ((r2 * 65536 + r1) * 65536) = (r2 * 65536 + r1) * 65536 := by simp [IntKind.wrap, IntKind.bits, IntKind.signed]; omega
    have hw4 : IntKind.i64.wrap ((r2 * 65536 + r1) * 65536 + r0) = (r2 * 65536 + r1) * 65536 + r0 := by simp [IntKind.wrap, IntKind.bits, IntKind.signed]; omega
    have hw5 : IntKind.i64.wrap (a1 * 65536) = a1 * 65536 := by simp [IntKind.wrap, IntKind.bits, IntKind.signed]; omega
    have hw6 : IntKind.i64.wrap (a1 * 65536 + a0) = a1 * 65536 + a0 := by simp [IntKind.wrap, IntKind.bits, IntKind.signed]; omega
    have hz1 : ¬ a1 * 65536 + a0 = 0 := by omega
    have hz2 : (a1 * 65536 + a0 == 0) = false := by simp; omega
    have ht : IntKind.i64.wrap (t : Int) = (t : Int) := by simp [IntKind.wrap, IntKind.bits, IntKind.signed]; omega
    have q1' := hd q1
    have q2' := hd q2
    clear G1 et q1 q2 G2
    generalize hN : (n : Int) = N at *
    generalize hN3 : (n3 : Int) = N3 at *
    generalize htI : (t : Int) = tI at *
    go_enter Tryz.func109, Tryz.ntmps109
    go_wp2
    go_region_held3 (fun w' => w'.cell? ⟨ba, oa + i1, none⟩ = some (.int .i64 a1) ∧ w'.cell? ⟨ba, oa + i0, none⟩ = some (.int .i64 a0) ∧ w'.cell? ⟨g, n, none⟩ = some (.int .i64 r2) ∧ w'.cell? ⟨g, i1, none⟩ = some (.int .i64 r1) ∧ w'.cell? ⟨g, i0, none⟩ = some (.int .i64 r0)) (go_keep) (fail)
    go_wp2
    go_region_held3 (fun w' => w'.cell? ⟨ba, oa + i1, none⟩ = some (.int .i64 a1) ∧ w'.cell? ⟨ba, oa + i0, none⟩ = some (.int .i64 a0) ∧ w'.cell? ⟨g, n, none⟩ = some (.int .i64 r2) ∧ w'.cell? ⟨g, i1, none⟩ = some (.int .i64 r1) ∧ w'.cell? ⟨g, i0, none⟩ = some (.int .i64 r0)) (go_keep) (fail)
    go_wp2
    go_quiet (fail)
    go_wp2
    go_ret
    exact ⟨⟨t, by rw [htI]; rfl, q1'.out, q2'.out⟩, below_drewN (by repeat (first | exact Below.refl _ _ | refine Below.drew ?_ | refine old_alloc ?_ _ | refine old_trans ?_ (by assumption))) _⟩
theorem iGuessed (a : Option Addr) (n ca g cr : Nat) (xs rs : List Int) (w : World) (hA : InI w a n ca xs) (h2 : 2 ≤ n) (hr : IRow w g rs) (hl : rs.length = n + 1) (hx : digs xs) (tx : topped xs) (hd0 : digs rs) (hR : val rs < val xs * 65536) (hm : n ≤ 1048576) :
    Calls Tryz.prog 109 #[.slice a n ca, .slice (some ⟨g, 0, none⟩) (n + 1) cr] w fun e w' => (∃ t : Nat, e = .returned (.int .i64 (t : Int)) ∧ val rs / val xs ≤ t ∧ t ≤ 65535) ∧ Below w.heap.size w w' := by
  have pa := hA.1
  obtain ⟨m, rfl⟩ : ∃ m, n = m + 2 := ⟨n - 2, by omega⟩
  obtain ⟨ba, oa, a1, rfl, hba, f1, -, c1⟩ := hA.at (k := m + 1) (by omega)
  obtain ⟨b0, o0, a0, he, -, f0, -, c0⟩ := hA.at (k := m) (by omega)
  cases he
  obtain ⟨r2, e2, k2, -⟩ := hr.at (k := m + 2) (by omega)
  obtain ⟨r1, e1, k1, -⟩ := hr.at (k := m + 1) (by omega)
  obtain ⟨r0, e0, k0, -⟩ := hr.at (k := m) (by omega)
  have dA1 := digs_getD hx (m + 1)
  have dA0 := digs_getD hx m
  have d2 := digs_getD hd0 (m + 2)
  have d1 := digs_getD hd0 (m + 1)
  have d0 := digs_getD hd0 m
  have tA := tx.resolve_left (by omega)
  rw [pa, show m + 2 - 1 = m + 1 from rfl, f1] at tA
  rw [f1] at dA1
  rw [f0] at dA0
  rw [e2] at d2
  rw [e1] at d1
  rw [e0] at d0
  unfold dig at dA1 dA0 d2 d1 d0
  obtain ⟨G1, G2⟩ := guess3 hx hd0 pa hl hR e2 e1 e0 f1 f0 (by omega)
  exact iGuessed0 ba oa (m + 2) (m + 2 + 1) (m + 1) m ca g cr a1 a0 r2 r1 r0 _ w c1 c0 k2 k1 k0 (by omega) (by omega) (by omega) (by omega) (by omega) (by omega) (by omega) (by omega) (by omega) (by omega) (by omega) (by omega) hba hr.1 G1 G2
end Go.Proofs.YtgoffjpfddmhhaaGreatDoor

/- A number is taken from digits that have one more, as often as it goes: the program. Conditions: digits, two at least; the lists apart. -/
namespace Go.Proofs.YtgoffjpfddmhhaaGreatDoor
open Go.RowKit
set_option linter.unusedVariables false
set_option maxRecDepth 100000

theorem sval_neg {n : Nat} {qs : List Int} (h : digs (qs.take n)) (hl : qs.length = n + 1) : (sval n qs < 0 → qs.getD n 0 < 0) ∧ (0 ≤ sval n qs → 0 ≤ qs.getD n 0) := by
  have hv := val_lt h
  rw [List.length_take, Nat.min_eq_left (by omega)] at hv
  have e := pow_cast n
  unfold sval
  generalize val (qs.take n) = v at *
  generalize qs.getD n 0 = t at *
  have hv' : (v : Int) < (65536 : Int) ^ n := by rw [← e]; exact Int.ofNat_lt.2 hv
  generalize (65536 : Int) ^ n = P at *
  clear hv e
  constructor
  · intro hs
    rcases Int.lt_or_le t 0 with g | g
    · exact g
    · have := Int.mul_nonneg (show 0 ≤ P by omega) g
      omega
  · intro hs
    rcases Int.lt_or_le t 0 with g | g
    · have : P * t ≤ P * (-1) := Int.mul_le_mul_of_nonneg_left (by omega) (by omega)
      omega
    · exact g
theorem sval_top {n : Nat} {qs : List Int} (h : digs (qs.take n)) (hl : qs.length = n + 1) (h1 : -(65536 * (65536 : Int) ^ n) ≤ sval n qs) (h2 : sval n qs < 65536 * (65536 : Int) ^ n) : -65537 ≤ qs.getD n 0 ∧ qs.getD n 0 ≤ 65536 := by
  have hv := val_lt h
  rw [List.length_take, Nat.min_eq_left (by omega)] at hv
  have e := pow_cast n
  unfold sval at h1 h2
  generalize val (qs.take n) = v at *
  generalize qs.getD n 0 = t at *
  have hv' : (v : Int) < (65536 : Int) ^ n := by rw [← e]; exact Int.ofNat_lt.2 hv
  generalize (65536 : Int) ^ n = P at *
  clear hv e
  constructor
  · rcases Int.lt_or_le t (-65537) with g | g
    · have : P * t ≤ P * (-65538) := Int.mul_le_mul_of_nonneg_left (by omega) (by omega)
      omega
    · exact g
  · rcases Int.lt_or_le 65536 t with g | g
    · have : P * 65537 ≤ P * t := Int.mul_le_mul_of_nonneg_left (by omega) (by omega)
      omega
    · exact g
theorem sval_small {n : Nat} {qs : List Int} (h : digs (qs.take n)) (hl : qs.length = n + 1) (S : Nat) (hs : sval n qs = (S : Int)) (hS : S < 65536 ^ n) : digs qs ∧ val qs = S := by
  have hv := val_lt h
  rw [List.length_take, Nat.min_eq_left (by omega)] at hv
  have hspl : qs = qs.take n ++ [qs.getD n 0] := by
    have := take_snoc (xs := qs) (k := n) (by omega)
    rw [List.take_of_length_le (by omega)] at this
    exact this
  have e := pow_cast n
  have ht : qs.getD n 0 = 0 := by
    unfold sval at hs
    generalize val (qs.take n) = v at *
    generalize qs.getD n 0 = t at *
    have hv' : (v : Int) < (65536 : Int) ^ n := by rw [← e]; exact Int.ofNat_lt.2 hv
    have hS' : (S : Int) < (65536 : Int) ^ n := by rw [← e]; exact Int.ofNat_lt.2 hS
    generalize (65536 : Int) ^ n = P at *
    clear hv e hS hspl
    rcases Int.lt_trichotomy t 0 with g | g | g
    · have : P * t ≤ P * (-1) := Int.mul_le_mul_of_nonneg_left (by omega) (by omega)
      omega
    · exact g
    · have : P * 1 ≤ P * t := Int.mul_le_mul_of_nonneg_left (by omega) (by omega)
      omega
  unfold sval at hs
  rw [ht, Int.mul_zero, Int.add_zero] at hs
  rw [ht] at hspl
  rw [hspl]
  refine ⟨digs_append.2 ⟨h, digs_cons.2 ⟨by unfold dig; omega, digs_nil⟩⟩, ?_⟩
  rw [val_append, val_cons, val_nil]
  simp
  omega
theorem sval_digs {n : Nat} {rs : List Int} (h : digs rs) (hl : rs.length = n + 1) : sval n rs = (val rs : Nat) := by
  have hspl := take_snoc (xs := rs) (k := n) (by omega)
  rw [List.take_of_length_le (by omega)] at hspl
  have hv : val rs = val (rs.take n) + 65536 ^ n * (rs.getD n 0).toNat := by
    have := congrArg val hspl
    rw [val_append, List.length_take, Nat.min_eq_left (by omega), val_cons, val_nil] at this
    rw [this]; simp
  have d := digs_getD h n
  unfold dig at d
  unfold sval
  rw [hv, Int.natCast_add, Int.natCast_mul, pow_cast, show (((rs.getD n 0).toNat : Nat) : Int) = rs.getD n 0 by omega]
theorem grown_after {a b c : World} {r : Option Nat} (h : Below a.heap.size a b) (k : b.grownBy c r) : a.grownBy c r :=
  ⟨k.os.trans h.1, k.tape.trans h.2, k.output.trans h.3, Nat.le_trans h.4 k.size, fun i hi hne => (k.block i (Nat.lt_of_lt_of_le hi h.4) hne).trans (h.5 i hi)⟩
theorem grown_on {a b c : World} {r : Option Nat} (h : a.grownBy b r) (k : b.grownBy c r) : a.grownBy c r :=
  ⟨k.os.trans h.os, k.tape.trans h.tape, k.output.trans h.output, Nat.le_trans h.size k.size, fun i hi hne => (k.block i (Nat.lt_of_lt_of_le hi h.size) hne).trans (h.block i hi hne)⟩
/-- what is left when it was taken t times -/
structure TakeI (n : Nat) (qs : List Int) (R A : Nat) (t : Nat) : Prop where
  sz : qs.length = n + 1
  dg : digs (qs.take n)
  eq : sval n qs = (R : Int) - (A : Int) * (t : Int)
  ge : R / A ≤ t
  le : t ≤ 65535
theorem TakeI.bounds {n : Nat} {qs : List Int} {R A t : Nat} (h : TakeI n qs R A t) (hA : A < 65536 ^ n) (hR : R < A * 65536) : -65537 ≤ qs.getD n 0 ∧ qs.getD n 0 ≤ 65536 := by
  have e := pow_cast n
  have hA' : (A : Int) < (65536 : Int) ^ n := by rw [← e]; exact Int.ofNat_lt.2 hA
  have ht : (A : Int) * (t : Int) ≤ (A : Int) * 65535 := Int.mul_le_mul_of_nonneg_left (by have := h.le; omega) (by omega)
  have ht0 : 0 ≤ (A : Int) * (t : Int) := Int.mul_nonneg (by omega) (by omega)
  have hR' : (R : Int) < (A : Int) * 65536 := by have := Int.ofNat_lt.2 hR; rw [Int.natCast_mul] at this; exact this
  refine sval_top h.dg h.sz ?_ ?_
  · rw [h.eq]
    generalize (65536 : Int) ^ n = P at *
    generalize (A : Int) * (t : Int) = At at *
    omega
  · rw [h.eq]
    generalize (65536 : Int) ^ n = P at *
    generalize (A : Int) * (t : Int) = At at *
    omega
theorem TakeI.done {n : Nat} {qs : List Int} {R A t : Nat} (h : TakeI n qs R A t) (hA : A < 65536 ^ n) (hA0 : 0 < A) (ht : 0 ≤ qs.getD n 0) : t = R / A ∧ digs qs ∧ val qs = R % A := by
  have h0 : 0 ≤ sval n qs := by
    rcases Int.lt_or_le (sval n qs) 0 with g | g
    · have := (sval_neg h.dg h.sz).1 g
      omega
    · exact g
  rw [h.eq] at h0
  have hle : A * t ≤ R := by
    have : ((A * t : Nat) : Int) ≤ (R : Int) := by rw [Int.natCast_mul]; omega
    exact Int.ofNat_le.1 this
  obtain ⟨e1, e2⟩ := guess_fits hA0 h.ge hle
  refine ⟨e1, ?_⟩
  have hs : sval n qs = ((R % A : Nat) : Int) := by
    rw [h.eq, ← e2, Int.natCast_sub hle, Int.natCast_mul]
  exact sval_small h.dg h.sz _ hs (Nat.lt_trans (Nat.mod_lt _ hA0) hA)
theorem TakeI.less {n : Nat} {qs : List Int} {R A t : Nat} (h : TakeI n qs R A t) (hA0 : 0 < A) (ht : qs.getD n 0 < 0) : 0 < t ∧ R / A ≤ t - 1 := by
  have h0 : sval n qs < 0 := by
    rcases Int.lt_or_le (sval n qs) 0 with g | g
    · exact g
    · have := (sval_neg h.dg h.sz).2 g
      omega
  rw [h.eq] at h0
  have hlt : R < A * t := by
    have : (R : Int) < ((A * t : Nat) : Int) := by rw [Int.natCast_mul]; omega
    exact Int.ofNat_lt.1 this
  have := guess_not hA0 hlt
  exact ⟨this.1, this.2.1⟩
set_option maxRecDepth 100000 in
set_option maxHeartbeats 4000000 in
theorem iTaken (a : Option Addr) (n ca g cr : Nat) (xs rs : List Int) (w : World) (hA : InI w a n ca xs) (h2 : 2 ≤ n) (hr : IRow w g rs) (hl : rs.length = n + 1) (hx : digs xs) (tx : topped xs) (hd0 : digs rs) (hR : val rs < val xs * 65536) (hm : n ≤ 1048576) (hcr : n + 1 ≤ cr) (hsep : ∀ q, a = some q → q.block ≠ g) :
    Calls Tryz.prog 91 #[.slice a n ca, .slice (some ⟨g, 0, none⟩) (n + 1) cr] w fun e w' => e = .returned (.int .i64 ((val rs / val xs : Nat) : Int)) ∧ (∃ qs, qs.length = n + 1 ∧ digs qs ∧ val qs = val rs % val xs ∧ IRow w' g qs) ∧ w.grownBy w' (some g) := by
  have pa := hA.1
  have hAv : val xs < 65536 ^ n := by rw [← pa]; exact val_lt hx
  have hA0 : 0 < val xs := Nat.lt_of_lt_of_le (Nat.pow_pos (by omega)) (val_ge hx tx (by omega))
  have G := hd (iGuessed a n ca g cr xs rs w hA h2 hr hl hx tx hd0 hR hm)
  have hI0 := hd (fun t (h1 : val rs / val xs ≤ t) (h3 : t ≤ 65535) (qs : List Int) (e1 : qs.length = n + 1) (e2 : digs (qs.take n)) (e3 : sval n qs = sval n rs + (-(t : Int)) * (val xs : Nat)) => (show TakeI n qs (val rs) (val xs) t from ⟨e1, e2, by rw [e3, sval_digs hd0 hl, Int.neg_mul, Int.mul_comm]; omega, h1, h3⟩))
  have hdt := hd (digs_take (n := n) hd0)
  have d0 := digs_getD hd0 n
  unfold dig at d0
  have hzero : Hid (val rs / val xs = 0 → val rs % val xs = val rs) := fun h => by
    have h5 : val rs < val xs := by
      rcases Nat.lt_or_ge (val rs) (val xs) with g | g
      · exact g
      · have := Nat.div_pos g hA0; omega
    exact Nat.mod_eq_of_lt h5
  have AD := hd (fun (rs : List Int) (t : Int) w' (h1 : InI w' a n ca xs) (h2 : IRow w' g rs) (h3 : rs.length = n + 1) (h4 : digs (rs.take n)) (h5 : -65535 ≤ t ∧ t ≤ 65535) (h6 : -1099511627776 ≤ rs.getD n 0 ∧ rs.getD n 0 ≤ 1099511627776) => iAddTo a n ca g cr xs rs t w' h1 h2 h3 hx h4 (fun _ => hsep) h5 h6 hm hcr)
  have hgl := hr.1
  have hfin := hd (fun (t : Nat) (qs : List Int) (h : TakeI n qs (val rs) (val xs) t) (ht : 0 ≤ qs.getD n 0) => h.done hAv hA0 ht)
  have hles := hd (fun (t : Nat) (qs : List Int) (h : TakeI n qs (val rs) (val xs) t) (ht : qs.getD n 0 < 0) => h.less hA0 ht)
  have hbds := hd (fun (t : Nat) (qs : List Int) (h : TakeI n qs (val rs) (val xs) t) => h.bounds hAv hR)
  have hstp := hd (fun (t : Nat) (qs qs' : List Int) (h : TakeI n qs (val rs) (val xs) t) (h0 : 0 < t) (h1 : val rs / val xs ≤ t - 1) (e1 : qs'.length = n + 1) (e2 : digs (qs'.take n)) (e3 : sval n qs' = sval n qs + 1 * (val xs : Nat)) => (show TakeI n qs' (val rs) (val xs) (t - 1) from ⟨e1, e2, by rw [e3, h.eq, Int.natCast_sub (by omega), Int.mul_sub]; omega, h1, by have := h.le; omega⟩))
  generalize val rs / val xs = Q at *
  generalize val rs % val xs = M at *
  have hdd := hd hd0
  clear hd0 hR tx hAv hA0
  go_enter Tryz.func91, Tryz.ntmps91
  go_wp2_with fail
  refine G.out.mono ?_
  rintro e w1 ⟨⟨t, rfl, ht1, ht2⟩, hb1⟩
  have hA1 := hA.old hb1
  have hr1 := hr.old hb1
  clear G
  by_cases ht0 : t = 0
  · obtain rfl : Q = 0 := by omega
    have hz := hzero.out rfl
    subst ht0
    go_wp2
    go_ret
    exact ⟨rfl, ⟨rs, hl, hdd.out, hz.symm, hr1⟩, grown_after hb1 (World.grownBy.refl _ _)⟩
  · have A1 := hd (AD.out rs (-(t : Int)) w1 hA1 hr1 hl hdt.out (by omega) (by omega))
    have ht1' := hd ht1
    have ht2' := hd ht2
    have p1 : (0 : Int) < (t : Int) := by omega
    have p2 : (t : Int) ≤ 65535 := by omega
    have p3 : ((t : Int) == 0) = false := by simp; omega
    clear ht0 ht1 ht2
    generalize hT : (t : Int) = T at *
    go_wp2_with fail
    refine A1.out.mono ?_
    rintro e w2 ⟨⟨v, rfl⟩, ⟨qs, e1, e2, e3, hr2⟩, hg2⟩
    have hI := hd (hI0.out t ht1'.out ht2'.out qs e1 e2 (by rw [hT]; exact e3))
    have hG := grown_after hb1 hg2
    clear A1 e1 e2 e3 hI0
    go_wp2_with fail
    go_loopw [5] (fun s wr => ∃ (t : Nat) (qs : List Int), s = .int .i64 (t : Int) ∧ TakeI n qs (val rs) (val xs) t ∧ IRow wr g qs ∧ w.grownBy wr (some g)) (fun s _ => (intOf s).toNat)
    case atStart => exact ⟨t, qs, by rw [hT], hI.out, hr2, hG⟩
    case round =>
      clear hI hG hr2 hg2 hT p1 p2 p3 ht1' ht2' hr1 hA1
      obtain ⟨t', qs', rfl, hI, hrr, hgg⟩ := hrel
      have hA2 := hA.kept hgg (fun h q e => by intro e2; injection e2 with e3; exact hsep q e e3)
      obtain ⟨z, ez, k0, k2⟩ := hrr.at (k := n) (by rw [hI.sz]; omega)
      have hbd := hbds.out _ _ hI
      rw [ez] at hbd
      by_cases hneg : z < 0
      · obtain ⟨j1, j2⟩ := hles.out _ _ hI (by rw [ez]; exact hneg)
        have A1 := hd (AD.out qs' 1 wr hA2 hrr hI.sz hI.dg (by omega) (by rw [ez]; omega))
        have hle := hI.le
        have j1' := hd j1
        have hst := hd (fun qs'' e1 e2 e3 => hstp.out _ qs' qs'' hI j1 j2 e1 e2 e3)
        have p1 : (1 : Int) ≤ (t' : Int) := by omega
        have p2 : (t' : Int) ≤ 65535 := by omega
        have hgn : Hid ((t' : Int) - 1 = ((t' - 1 : Nat) : Int)) := by show _ = _; omega
        clear hI hle j1 j2 hbd hA2
        generalize hT : (t' : Int) = T' at *
        go_wp2_with fail
        refine A1.out.mono ?_
        rintro e w3 ⟨⟨v, rfl⟩, ⟨qs3, e1, e2, e3, hr3⟩, hg3⟩
        go_wp2_with fail
        go_roundw
        case rel => exact ⟨t' - 1, qs3, by rw [hgn.out], hst.out _ e1 e2 e3, hr3, grown_on hgg hg3⟩
        case measure => (subst hT; have := j1'.out; simp [intOf] <;> omega)
      · obtain ⟨j1, j2, j3⟩ := hfin.out _ _ hI (by rw [ez]; omega)
        have hsz := hI.sz
        clear hI hbd hA2
        subst j1
        generalize hT9 : (t' : Int) = T' at *
        go_wp2
        go_ret
        exact ⟨by subst hT9; rfl, ⟨qs', hsz, j2, j3, hrr⟩, hgg⟩
end Go.Proofs.YtgoffjpfddmhhaaGreatDoor

/- The program's quotient and rest by a number of two digits or more. Conditions: digits, no needless noughts in the divisor. -/
namespace Go.Proofs.YtgoffjpfddmhhaaGreatDoor
open Go.RowKit Go.Shelf
attribute [local go_sem] Oper.semAt_some
set_option linter.unusedVariables false
set_option maxRecDepth 100000

/-- quotient and rest of what came, the highest digit ahead: the rest as a number -/
def cutF (xs : List Int) (D : Nat) {len : Nat} (pre : List (Fin len)) : List Int × Nat := pre.foldl (fun s y => (s.1.set y.val (((s.2 * 65536 + (xs.getD y.val 0).toNat) / D : Nat) : Int), (s.2 * 65536 + (xs.getD y.val 0).toNat) % D)) (List.replicate len 0, 0)
theorem cutF_snoc (xs : List Int) (D : Nat) {len : Nat} (pre : List (Fin len)) (y : Fin len) : cutF xs D (pre ++ [y]) = ((cutF xs D pre).1.set y.val ((((cutF xs D pre).2 * 65536 + (xs.getD y.val 0).toNat) / D : Nat) : Int), ((cutF xs D pre).2 * 65536 + (xs.getD y.val 0).toNat) % D) := by simp [cutF]
theorem cutF_bd {xs : List Int} {D : Nat} (hD : 0 < D) {len : Nat} (n : Nat) : ∀ (pre : List (Fin len)), pre.length = n → (cutF xs D pre).1.length = len ∧ (cutF xs D pre).2 < D := by
  induction n with
  | zero =>
    intro pre hp
    have : pre = [] := List.length_eq_zero_iff.1 hp
    subst this; simp [cutF]; omega
  | succ n ih =>
    intro pre hp
    obtain ⟨q, x, rfl⟩ : ∃ q x, pre = q ++ [x] := ⟨pre.dropLast, pre.getLast (by intro e; subst e; simp at hp), (List.dropLast_concat_getLast _).symm⟩
    have := ih q (by simpa using hp)
    rw [cutF_snoc]
    exact ⟨by simpa using this.1, Nat.mod_lt _ hD⟩
theorem cutF_val {xs : List Int} {len D : Nat} (hp : xs.length = len) (hx : digs xs) (hD : 0 < D) (k : Nat) : ∀ (ys : List (Fin len)), k ≤ len → ys.map Fin.val = downR len k → LongI len xs (cutF xs D ys).1 D (len - k) (cutF xs D ys).2 := by
  induction k with
  | zero =>
    intro ys hk hy
    have : ys = [] := by simpa [downR] using hy
    subst this
    refine ⟨by simp [cutF], by simp [cutF]; exact digs_zeros _, by simp [cutF]; omega, ?_⟩
    rw [Nat.sub_zero, List.drop_of_length_le (by omega), List.drop_of_length_le (by simp [cutF])]
    simp [cutF, val]
  | succ k ih =>
    intro ys hk hy
    have hl : ys.length = k + 1 := by have := congrArg List.length hy; simpa [downR] using this
    obtain ⟨q, x, rfl⟩ : ∃ q x, ys = q ++ [x] := ⟨ys.dropLast, ys.getLast (by intro e; subst e; simp at hl), (List.dropLast_concat_getLast _).symm⟩
    obtain ⟨j, hj, hq, hxv⟩ := downR_last hy
    obtain rfl : k = j := by omega
    rw [cutF_snoc]
    have hI := ih q (by omega) hq
    have e1 : len - k = (len - (k + 1)) + 1 := by omega
    rw [e1] at hI
    have e2 : x.val = len - (k + 1) := by omega
    have := (hI.step (by omega) (by omega) hx _ rfl).2
    rw [e2]
    exact this
theorem cutF_all {xs : List Int} {len D : Nat} (hp : xs.length = len) (hx : digs xs) (hD : 0 < D) (ys : List (Fin len)) (hy : ys.map Fin.val = downR len len) : val (cutF xs D ys).1 = val xs / D ∧ (cutF xs D ys).2 = val xs % D ∧ digs (cutF xs D ys).1 := by
  have h := cutF_val hp hx hD len ys (Nat.le_refl _) hy
  rw [Nat.sub_self] at h
  exact ⟨h.all.1, h.all.2, h.dg⟩
/-- digits that move up by one place, a digit comes in below -/
theorem shift_in {rs : List Int} {n : Nat} {d : Int} (hl : rs.length = n + 1) (hd : digs rs) (hv : val rs < 65536 ^ n) (hdd : dig d) : (d :: rs.take n).length = n + 1 ∧ digs (d :: rs.take n) ∧ val (d :: rs.take n) = val rs * 65536 + d.toNat := by
  refine ⟨by simp [hl], digs_cons.2 ⟨hdd, digs_take hd⟩, ?_⟩
  rw [val_cons]
  have hspl := take_snoc (xs := rs) (k := n) (by omega)
  rw [List.take_of_length_le (by omega)] at hspl
  have hv2 : val rs = val (rs.take n) + 65536 ^ n * (rs.getD n 0).toNat := by
    have := congrArg val hspl
    rw [val_append, List.length_take, Nat.min_eq_left (by omega), val_cons, val_nil] at this
    rw [this]; simp
  have ht : (rs.getD n 0).toNat = 0 := by
    rcases Nat.eq_zero_or_pos (rs.getD n 0).toNat with g | g
    · exact g
    · have : 65536 ^ n * 1 ≤ 65536 ^ n * (rs.getD n 0).toNat := Nat.mul_le_mul_left _ g
      generalize 65536 ^ n = P at *
      generalize 65536 ^ n * (rs.getD n 0).toNat = z at *
      omega
  rw [ht, Nat.mul_zero, Nat.add_zero] at hv2
  rw [hv2]
  omega
end Go.Proofs.YtgoffjpfddmhhaaGreatDoor
