/- How often a number goes into digits that have one more, guessed by the highest digits: never too few. Conditions: digits, two at least. -/
import Derived.Test.YtfdikhiaphgkpaaDoorBE
import Derived.Test.YtfdikhiaphgkpaaDoorBC
import Derived.BigQuiet
import Derived.Laws.StructEq
import Derived.Laws.Tables
import Derived.Laws.Cover2
import Derived.KernelRfl
import Derived.Deep.RegionHeld3
import Derived.Test.YtfdikhiaphgkpaaDoorVR
namespace Go.Proofs.YtfdikhiaphgkpaaDoor
open Go.RowKit
set_option linter.unusedVariables false
set_option maxRecDepth 100000

theorem below_drewN {n : Nat} {a b : World} (h : Below n a b) (k : Nat) : Below n a (b.drewN k) := ⟨h.1, h.2, h.3, h.4, h.5⟩
theorem top2 {xs : List Int} {m : Nat} (hx : digs xs) (hl : xs.length = m + 2) : ((val xs / 65536 ^ m : Nat) : Int) = xs.getD (m + 1) 0 * 65536 + xs.getD m 0 := by
  rw [← val_drop_div hx, val_drop (by omega), val_drop (by omega), List.drop_of_length_le (by omega), val_nil]
  have d1 := digs_getD hx m
  have d2 := digs_getD hx (m + 1)
  unfold dig at d1 d2
  omega
theorem top3 {xs : List Int} {m : Nat} (hx : digs xs) (hl : xs.length = m + 3) : ((val xs / 65536 ^ m : Nat) : Int) = (xs.getD (m + 2) 0 * 65536 + xs.getD (m + 1) 0) * 65536 + xs.getD m 0 := by
  rw [← val_drop_div hx, val_drop (by omega), val_drop (by omega), val_drop (by omega), List.drop_of_length_le (by omega), val_nil]
  have d1 := digs_getD hx m
  have d2 := digs_getD hx (m + 1)
  have d3 := digs_getD hx (m + 2)
  rw [show m + 1 + 1 = m + 2 from rfl]
  unfold dig at d1 d2 d3
  generalize xs.getD (m + 2) 0 = z2 at *
  generalize xs.getD (m + 1) 0 = z1 at *
  generalize xs.getD m 0 = z0 at *
  omega
theorem arith_top {T3 T2 : Nat} {r2 r1 r0 a1 a0 : Int} (t3 : ((T3 : Nat) : Int) = (r2 * 65536 + r1) * 65536 + r0) (t2 : ((T2 : Nat) : Int) = a1 * 65536 + a0) (d1 : 0 ≤ r1 ∧ r1 < 65536) (d0 : 0 ≤ r0 ∧ r0 < 65536) (dA : 0 ≤ a0 ∧ a0 < 65536) (hb : T3 < (T2 + 1) * 65536) (hne : ¬ (r2 = a1 ∧ r1 = a0)) : T3 < T2 * 65536 := by
  have hb1 : ((T3 : Nat) : Int) < (((T2 + 1) * 65536 : Nat) : Int) := Int.ofNat_lt.2 hb
  rw [Int.natCast_mul, Int.natCast_add, t3, t2] at hb1
  have hb2 : (r2 * 65536 + r1) * 65536 + r0 < (a1 * 65536 + a0 + 1) * 65536 := hb1
  have h1 : r2 * 65536 + r1 ≤ a1 * 65536 + a0 := by omega
  have h2 : r2 * 65536 + r1 ≠ a1 * 65536 + a0 := by
    intro e
    exact hne ⟨by omega, by omega⟩
  have h3 : ((T3 : Nat) : Int) < ((T2 * 65536 : Nat) : Int) := by
    rw [Int.natCast_mul, t3, t2]
    show (r2 * 65536 + r1) * 65536 + r0 < (a1 * 65536 + a0) * 65536
    omega
  exact Int.ofNat_lt.1 h3
/-- what the guess is worth -/
theorem guess3 {xs rs : List Int} {m : Nat} (hx : digs xs) (hr : digs rs) (hl : xs.length = m + 2) (hl2 : rs.length = m + 3) (hR : val rs < val xs * 65536) {r2 r1 r0 a1 a0 : Int} (e2 : rs.getD (m + 2) 0 = r2) (e1 : rs.getD (m + 1) 0 = r1) (e0 : rs.getD m 0 = r0) (f1 : xs.getD (m + 1) 0 = a1) (f0 : xs.getD m 0 = a0) (ha : 0 < a1) :
    (¬ (r2 = a1 ∧ r1 = a0) → ∃ t : Nat, ((r2 * 65536 + r1) * 65536 + r0) / (a1 * 65536 + a0) = (t : Int) ∧ val rs / val xs ≤ t ∧ t ≤ 65535) ∧ val rs / val xs ≤ 65535 := by
  have t2 := top2 hx hl
  have t3 := top3 hr hl2
  rw [e2, e1, e0] at t3
  rw [f1, f0] at t2
  have hP : 0 < 65536 ^ m := Nat.pow_pos (by omega)
  have dA := digs_getD hx m
  have dr1 := digs_getD hr (m + 1)
  have dr0 := digs_getD hr m
  rw [f0] at dA
  rw [e1] at dr1
  rw [e0] at dr0
  unfold dig at dA dr1 dr0
  have hD : 0 < val xs / 65536 ^ m := by omega
  have hg := guess_le (R := val rs) (Y := val xs) hP hD
  have hxp : 0 < val xs := Nat.lt_of_lt_of_le hD (Nat.div_le_self _ _)
  have hlast : val rs / val xs ≤ 65535 := by
    have : val rs / val xs < 65536 := Nat.div_lt_of_lt_mul hR
    omega
  refine ⟨fun hne => ⟨val rs / 65536 ^ m / (val xs / 65536 ^ m), ?_, hg, ?_⟩, hlast⟩
  · rw [← t3, ← t2]; rfl
  · -- the two highest digits are below the divisor's
    have hb : val rs / 65536 ^ m < (val xs / 65536 ^ m + 1) * 65536 := by
      refine Nat.div_lt_of_lt_mul ?_
      have h6 : val xs < 65536 ^ m * (val xs / 65536 ^ m + 1) := by
        have := Nat.div_add_mod (val xs) (65536 ^ m)
        have := Nat.mod_lt (val xs) hP
        rw [Nat.mul_add, Nat.mul_one]
        generalize 65536 ^ m * (val xs / 65536 ^ m) = z at *
        generalize 65536 ^ m = P at *
        omega
      rw [← Nat.mul_assoc]
      exact Nat.lt_of_lt_of_le hR (Nat.mul_le_mul_right _ (Nat.le_of_lt h6))
    have hlt : val rs / 65536 ^ m < (val xs / 65536 ^ m) * 65536 := arith_top t3 t2 dr1 dr0 dA hb hne
    exact Nat.le_of_lt_succ (Nat.div_lt_of_lt_mul hlt)
end Go.Proofs.YtfdikhiaphgkpaaDoor

/- A number is taken from digits that have one more, as often as it goes: the program. Conditions: digits, two at least; the lists apart. -/
namespace Go.Proofs.YtfdikhiaphgkpaaDoor
open Go.RowKit
set_option linter.unusedVariables false
set_option maxRecDepth 100000

theorem sval_neg {n : Nat} {qs : List Int} (h : digs (qs.take n)) (hl : qs.length = n + 1) : (sval n qs < 0 → qs.getD n 0 < 0) ∧ (0 ≤ sval n qs → 0 ≤ qs.getD n 0) := by
  have hv := val_lt h
  rw [List.length_take, Nat.min_eq_left (by omega)] at hv
  have e := pow_cast n
  unfold sval
  generalize val (qs.take n) = v at *
  generalize qs.getD n 0 = t at *
  have hv' : (v : Int) < (65536 : Int) ^ n := by rw [← e]; exact Int.ofNat_lt.2 hv
  generalize (65536 : Int) ^ n = P at *
  clear hv e
  constructor
  · intro hs
    rcases Int.lt_or_le t 0 with g | g
    · exact g
    · have := Int.mul_nonneg (show 0 ≤ P by omega) g
      omega
  · intro hs
    rcases Int.lt_or_le t 0 with g | g
    · have : P * t ≤ P * (-1) := Int.mul_le_mul_of_nonneg_left (by omega) (by omega)
      omega
    · exact g
theorem sval_top {n : Nat} {qs : List Int} (h : digs (qs.take n)) (hl : qs.length = n + 1) (h1 : -(65536 * (65536 : Int) ^ n) ≤ sval n qs) (h2 : sval n qs < 65536 * (65536 : Int) ^ n) : -65537 ≤ qs.getD n 0 ∧ qs.getD n 0 ≤ 65536 := by
  have hv := val_lt h
  rw [List.length_take, Nat.min_eq_left (by omega)] at hv
  have e := pow_cast n
  unfold sval at h1 h2
  generalize val (qs.take n) = v at *
  generalize qs.getD n 0 = t at *
  have hv' : (v : Int) < (65536 : Int) ^ n := by rw [← e]; exact Int.ofNat_lt.2 hv
  generalize (65536 : Int) ^ n = P at *
  clear hv e
  constructor
  · rcases Int.lt_or_le t (-65537) with g | g
    · have : P * t ≤ P * (-65538) := Int.mul_le_mul_of_nonneg_left (by omega) (by omega)
      omega
    · exact g
  · rcases Int.lt_or_le 65536 t with g | g
    · have : P * 65537 ≤ P * t := Int.mul_le_mul_of_nonneg_left (by omega) (by omega)
      omega
    · exact g
theorem sval_small {n : Nat} {qs : List Int} (h : digs (qs.take n)) (hl : qs.length = n + 1) (S : Nat) (hs : sval n qs = (S : Int)) (hS : S < 65536 ^ n) : digs qs ∧ val qs = S := by
  have hv := val_lt h
  rw [List.length_take, Nat.min_eq_left (by omega)] at hv
  have hspl : qs = qs.take n ++ [qs.getD n 0] := by
    have := take_snoc (xs := qs) (k := n) (by omega)
    rw [List.take_of_length_le (by omega)] at this
    exact this
  have e := pow_cast n
  have ht : qs.getD n 0 = 0 := by
    unfold sval at hs
    generalize val (qs.take n) = v at *
    generalize qs.getD n 0 = t at *
    have hv' : (v : Int) < (65536 : Int) ^ n := by rw [← e]; exact Int.ofNat_lt.2 hv
    have hS' : (S : Int) < (65536 : Int) ^ n := by rw [← e]; exact Int.ofNat_lt.2 hS
    generalize (65536 : Int) ^ n = P at *
    clear hv e hS hspl
    rcases Int.lt_trichotomy t 0 with g | g | g
    · have : P * t ≤ P * (-1) := Int.mul_le_mul_of_nonneg_left (by omega) (by omega)
      omega
    · exact g
    · have : P * 1 ≤ P * t := Int.mul_le_mul_of_nonneg_left (by omega) (by omega)
      omega
  unfold sval at hs
  rw [ht, Int.mul_zero, Int.add_zero] at hs
  rw [ht] at hspl
  rw [hspl]
  refine ⟨digs_append.2 ⟨h, digs_cons.2 ⟨by unfold dig; omega, digs_nil⟩⟩, ?_⟩
  rw [val_append, val_cons, val_nil]
  simp
  omega
theorem sval_digs {n : Nat} {rs : List Int} (h : digs rs) (hl : rs.length = n + 1) : sval n rs = (val rs : Nat) := by
  have hspl := take_snoc (xs := rs) (k := n) (by omega)
  rw [List.take_of_length_le (by omega)] at hspl
  have hv : val rs = val (rs.take n) + 65536 ^ n * (rs.getD n 0).toNat := by
    have := congrArg val hspl
    rw [val_append, List.length_take, Nat.min_eq_left (by omega), val_cons, val_nil] at this
    rw [this]; simp
  have d := digs_getD h n
  unfold dig at d
  unfold sval
  rw [hv, Int.natCast_add, Int.natCast_mul, pow_cast, show (((rs.getD n 0).toNat : Nat) : Int) = rs.getD n 0 by omega]
theorem grown_after {a b c : World} {r : Option Nat} (h : Below a.heap.size a b) (k : b.grownBy c r) : a.grownBy c r :=
  ⟨k.os.trans h.1, k.tape.trans h.2, k.output.trans h.3, Nat.le_trans h.4 k.size, fun i hi hne => (k.block i (Nat.lt_of_lt_of_le hi h.4) hne).trans (h.5 i hi)⟩
theorem grown_on {a b c : World} {r : Option Nat} (h : a.grownBy b r) (k : b.grownBy c r) : a.grownBy c r :=
  ⟨k.os.trans h.os, k.tape.trans h.tape, k.output.trans h.output, Nat.le_trans h.size k.size, fun i hi hne => (k.block i (Nat.lt_of_lt_of_le hi h.size) hne).trans (h.block i hi hne)⟩
/-- what is left when it was taken t times -/
structure TakeI (n : Nat) (qs : List Int) (R A : Nat) (t : Nat) : Prop where
  sz : qs.length = n + 1
  dg : digs (qs.take n)
  eq : sval n qs = (R : Int) - (A : Int) * (t : Int)
  ge : R / A ≤ t
  le : t ≤ 65535
theorem TakeI.bounds {n : Nat} {qs : List Int} {R A t : Nat} (h : TakeI n qs R A t) (hA : A < 65536 ^ n) (hR : R < A * 65536) : -65537 ≤ qs.getD n 0 ∧ qs.getD n 0 ≤ 65536 := by
  have e := pow_cast n
  have hA' : (A : Int) < (65536 : Int) ^ n := by rw [← e]; exact Int.ofNat_lt.2 hA
  have ht : (A : Int) * (t : Int) ≤ (A : Int) * 65535 := Int.mul_le_mul_of_nonneg_left (by have := h.le; omega) (by omega)
  have ht0 : 0 ≤ (A : Int) * (t : Int) := Int.mul_nonneg (by omega) (by omega)
  have hR' : (R : Int) < (A : Int) * 65536 := by have := Int.ofNat_lt.2 hR; rw [Int.natCast_mul] at this; exact this
  refine sval_top h.dg h.sz ?_ ?_
  · rw [h.eq]
    generalize (65536 : Int) ^ n = P at *
    generalize (A : Int) * (t : Int) = At at *
    omega
  · rw [h.eq]
    generalize (65536 : Int) ^ n = P at *
    generalize (A : Int) * (t : Int) = At at *
    omega
theorem TakeI.done {n : Nat} {qs : List Int} {R A t : Nat} (h : TakeI n qs R A t) (hA : A < 65536 ^ n) (hA0 : 0 < A) (ht : 0 ≤ qs.getD n 0) : t = R / A ∧ digs qs ∧ val qs = R % A := by
  have h0 : 0 ≤ sval n qs := by
    rcases Int.lt_or_le (sval n qs) 0 with g | g
    · have := (sval_neg h.dg h.sz).1 g
      omega
    · exact g
  rw [h.eq] at h0
  have hle : A * t ≤ R := by
    have : ((A * t : Nat) : Int) ≤ (R : Int) := by rw [Int.natCast_mul]; omega
    exact Int.ofNat_le.1 this
  obtain ⟨e1, e2⟩ := guess_fits hA0 h.ge hle
  refine ⟨e1, ?_⟩
  have hs : sval n qs = ((R % A : Nat) : Int) := by
    rw [h.eq, ← e2, Int.natCast_sub hle, Int.natCast_mul]
  exact sval_small h.dg h.sz _ hs (Nat.lt_trans (Nat.mod_lt _ hA0) hA)
theorem TakeI.less {n : Nat} {qs : List Int} {R A t : Nat} (h : TakeI n qs R A t) (hA0 : 0 < A) (ht : qs.getD n 0 < 0) : 0 < t ∧ R / A ≤ t - 1 := by
  have h0 : sval n qs < 0 := by
    rcases Int.lt_or_le (sval n qs) 0 with g | g
    · exact g
    · have := (sval_neg h.dg h.sz).2 g
      omega
  rw [h.eq] at h0
  have hlt : R < A * t := by
    have : (R : Int) < ((A * t : Nat) : Int) := by rw [Int.natCast_mul]; omega
    exact Int.ofNat_lt.1 this
  have := guess_not hA0 hlt
  exact ⟨this.1, this.2.1⟩
end Go.Proofs.YtfdikhiaphgkpaaDoor

/- The program's quotient and rest by a number of two digits or more. Conditions: digits, no needless noughts in the divisor. -/
namespace Go.Proofs.YtfdikhiaphgkpaaDoor
open Go.RowKit Go.Shelf
attribute [local go_sem] Oper.semAt_some
set_option linter.unusedVariables false
set_option maxRecDepth 100000

/-- quotient and rest of what came, the highest digit ahead: the rest as a number -/
def cutF (xs : List Int) (D : Nat) {len : Nat} (pre : List (Fin len)) : List Int × Nat := pre.foldl (fun s y => (s.1.set y.val (((s.2 * 65536 + (xs.getD y.val 0).toNat) / D : Nat) : Int), (s.2 * 65536 + (xs.getD y.val 0).toNat) % D)) (List.replicate len 0, 0)
theorem cutF_snoc (xs : List Int) (D : Nat) {len : Nat} (pre : List (Fin len)) (y : Fin len) : cutF xs D (pre ++ [y]) = ((cutF xs D pre).1.set y.val ((((cutF xs D pre).2 * 65536 + (xs.getD y.val 0).toNat) / D : Nat) : Int), ((cutF xs D pre).2 * 65536 + (xs.getD y.val 0).toNat) % D) := by simp [cutF]
theorem cutF_bd {xs : List Int} {D : Nat} (hD : 0 < D) {len : Nat} (n : Nat) : ∀ (pre : List (Fin len)), pre.length = n → (cutF xs D pre).1.length = len ∧ (cutF xs D pre).2 < D := by
  induction n with
  | zero =>
    intro pre hp
    have : pre = [] := List.length_eq_zero_iff.1 hp
    subst this; simp [cutF]; omega
  | succ n ih =>
    intro pre hp
    obtain ⟨q, x, rfl⟩ : ∃ q x, pre = q ++ [x] := ⟨pre.dropLast, pre.getLast (by intro e; subst e; simp at hp), (List.dropLast_concat_getLast _).symm⟩
    have := ih q (by simpa using hp)
    rw [cutF_snoc]
    exact ⟨by simpa using this.1, Nat.mod_lt _ hD⟩
theorem cutF_val {xs : List Int} {len D : Nat} (hp : xs.length = len) (hx : digs xs) (hD : 0 < D) (k : Nat) : ∀ (ys : List (Fin len)), k ≤ len → ys.map Fin.val = downR len k → LongI len xs (cutF xs D ys).1 D (len - k) (cutF xs D ys).2 := by
  induction k with
  | zero =>
    intro ys hk hy
    have : ys = [] := by simpa [downR] using hy
    subst this
    refine ⟨by simp [cutF], by simp [cutF]; exact digs_zeros _, by simp [cutF]; omega, ?_⟩
    rw [Nat.sub_zero, List.drop_of_length_le (by omega), List.drop_of_length_le (by simp [cutF])]
    simp [cutF, val]
  | succ k ih =>
    intro ys hk hy
    have hl : ys.length = k + 1 := by have := congrArg List.length hy; simpa [downR] using this
    obtain ⟨q, x, rfl⟩ : ∃ q x, ys = q ++ [x] := ⟨ys.dropLast, ys.getLast (by intro e; subst e; simp at hl), (List.dropLast_concat_getLast _).symm⟩
    obtain ⟨j, hj, hq, hxv⟩ := downR_last hy
    obtain rfl : k = j := by omega
    rw [cutF_snoc]
    have hI := ih q (by omega) hq
    have e1 : len - k = (len - (k + 1)) + 1 := by omega
    rw [e1] at hI
    have e2 : x.val = len - (k + 1) := by omega
    have := (hI.step (by omega) (by omega) hx _ rfl).2
    rw [e2]
    exact this
theorem cutF_all {xs : List Int} {len D : Nat} (hp : xs.length = len) (hx : digs xs) (hD : 0 < D) (ys : List (Fin len)) (hy : ys.map Fin.val = downR len len) : val (cutF xs D ys).1 = val xs / D ∧ (cutF xs D ys).2 = val xs % D ∧ digs (cutF xs D ys).1 := by
  have h := cutF_val hp hx hD len ys (Nat.le_refl _) hy
  rw [Nat.sub_self] at h
  exact ⟨h.all.1, h.all.2, h.dg⟩
/-- digits that move up by one place, a digit comes in below -/
theorem shift_in {rs : List Int} {n : Nat} {d : Int} (hl : rs.length = n + 1) (hd : digs rs) (hv : val rs < 65536 ^ n) (hdd : dig d) : (d :: rs.take n).length = n + 1 ∧ digs (d :: rs.take n) ∧ val (d :: rs.take n) = val rs * 65536 + d.toNat := by
  refine ⟨by simp [hl], digs_cons.2 ⟨hdd, digs_take hd⟩, ?_⟩
  rw [val_cons]
  have hspl := take_snoc (xs := rs) (k := n) (by omega)
  rw [List.take_of_length_le (by omega)] at hspl
  have hv2 : val rs = val (rs.take n) + 65536 ^ n * (rs.getD n 0).toNat := by
    have := congrArg val hspl
    rw [val_append, List.length_take, Nat.min_eq_left (by omega), val_cons, val_nil] at this
    rw [this]; simp
  have ht : (rs.getD n 0).toNat = 0 := by
    rcases Nat.eq_zero_or_pos (rs.getD n 0).toNat with g | g
    · exact g
    · have : 65536 ^ n * 1 ≤ 65536 ^ n * (rs.getD n 0).toNat := Nat.mul_le_mul_left _ g
      generalize 65536 ^ n = P at *
      generalize 65536 ^ n * (rs.getD n 0).toNat = z at *
      omega
  rw [ht, Nat.mul_zero, Nat.add_zero] at hv2
  rw [hv2]
  omega
end Go.Proofs.YtfdikhiaphgkpaaDoor
