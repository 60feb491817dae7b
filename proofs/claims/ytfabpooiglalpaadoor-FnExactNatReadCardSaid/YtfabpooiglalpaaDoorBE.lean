/- The program's quotient and rest by a small number. Conditions: digits; the divisor from 1 to 2^46. -/
import Derived.Test.YtfabpooiglalpaaDoorBD
import Derived.Test.YtfabpooiglalpaaDoorBC
import Derived.Test.YtfabpooiglalpaaDoorVR
import Derived.BigRegionIn
import Derived.Stop.RegionWithIn
namespace Go.Proofs.YtfabpooiglalpaaDoor
open Go.RowKit Go.Shelf
attribute [local go_sem] Oper.semAt_some
set_option linter.unusedVariables false

theorem i64_or16 {r x : Int} (h0 : 0 ≤ r) (h1 : r < 70368744177664) (hx : dig x) : bits .or .i64 (r * 65536) x = r * 65536 + x := by
  unfold dig at hx
  obtain ⟨r', rfl⟩ := Int.eq_ofNat_of_zero_le h0
  obtain ⟨x', rfl⟩ := Int.eq_ofNat_of_zero_le hx.1
  have hj := nat_join 16 (r' * 65536) x' (Nat.mul_mod_left _ _) (by omega)
  show IntKind.i64.wrap ((BitVec.ofInt 64 ((r' : Int) * 65536) ||| BitVec.ofInt 64 (x' : Int)).toNat : Int) = _
  have e1 : (BitVec.ofInt 64 ((r' : Int) * 65536)).toNat = r' * 65536 := by
    have := ofInt_u64 (r' * 65536) (by omega)
    rw [← this]; simp
  have e2 : (BitVec.ofInt 64 (x' : Int)).toNat = x' := ofInt_u64 x' (by omega)
  rw [BitVec.toNat_or, e1, e2, hj]
  simp [IntKind.wrap, IntKind.bits, IntKind.signed]
  omega
theorem irow_kept {A B : World} {b : Nat} {xs : List Int} {row : Option Nat} (h : IRow A b xs) (hg : A.grownBy B row) (hr : ∀ r, row = some r → ∃ o, A.heap[r]? = some o ∧ o.isCells = false) : IRow B b xs :=
  ⟨Nat.lt_of_lt_of_le h.1 hg.size, fun i hi => ⟨cell_kept (h.2 i hi).1 hg hr, (frozen_kept (h.2 i hi).1 hg hr).trans (h.2 i hi).2⟩⟩
theorem oi_kept {A B : World} {base cv : Nat} {av : Option Addr} {xs : List Int} {row : Option Nat} (h : OI A base av cv xs) (hg : A.grownBy B row) (hr : ∀ r, row = some r → ∃ o, A.heap[r]? = some o ∧ o.isCells = false) : OI B base av cv xs := by
  obtain ⟨h1, h2, h3, h4 | ⟨g, h4, h5, h6⟩⟩ := h
  · exact ⟨h1, h2, h3, .inl h4⟩
  · exact ⟨h1, h2, h3, .inr ⟨g, h4, h5, irow_kept h6 hg hr⟩⟩
/-- quotient and rest of what came, the highest digit ahead -/
def divF (xs : List Int) (d : Nat) {len : Nat} (pre : List (Fin len)) : List Int × Int := pre.foldl (fun s y => (s.1.set y.val ((s.2 * 65536 + xs.getD y.val 0) / (d : Int)), (s.2 * 65536 + xs.getD y.val 0) % (d : Int))) (List.replicate len 0, 0)
theorem divF_snoc (xs : List Int) (d : Nat) {len : Nat} (pre : List (Fin len)) (y : Fin len) : divF xs d (pre ++ [y]) = ((divF xs d pre).1.set y.val (((divF xs d pre).2 * 65536 + xs.getD y.val 0) / (d : Int)), ((divF xs d pre).2 * 65536 + xs.getD y.val 0) % (d : Int)) := by simp [divF]
theorem divF_bd {xs : List Int} {d : Nat} (hd0 : 0 < d) {len : Nat} (n : Nat) : ∀ (pre : List (Fin len)), pre.length = n → (divF xs d pre).1.length = len ∧ 0 ≤ (divF xs d pre).2 ∧ (divF xs d pre).2 < d := by
  induction n with
  | zero =>
    intro pre hp
    have : pre = [] := List.length_eq_zero_iff.1 hp
    subst this; simp [divF]; omega
  | succ n ih =>
    intro pre hp
    obtain ⟨q, x, rfl⟩ : ∃ q x, pre = q ++ [x] := ⟨pre.dropLast, pre.getLast (by intro e; subst e; simp at hp), (List.dropLast_concat_getLast _).symm⟩
    have := ih q (by simpa using hp)
    rw [divF_snoc]
    exact ⟨by simpa using this.1, Int.emod_nonneg _ (by omega), Int.emod_lt_of_pos _ (by omega)⟩
theorem divF_val {xs : List Int} {len d : Nat} (hp : xs.length = len) (hx : digs xs) (hd0 : 0 < d) (k : Nat) : ∀ (ys : List (Fin len)), k ≤ len → ys.map Fin.val = downR len k → DivI len xs (divF xs d ys).1 d k (divF xs d ys).2 := by
  induction k with
  | zero =>
    intro ys hk hy
    have : ys = [] := by simpa [downR] using hy
    subst this
    refine ⟨by simp [divF], by simp [divF]; exact digs_zeros _, by simp [divF], by simp [divF]; omega, ?_⟩
    rw [Nat.sub_zero, List.drop_of_length_le (by omega), List.drop_of_length_le (by simp [divF])]
    simp [divF, val]
  | succ k ih =>
    intro ys hk hy
    have hl : ys.length = k + 1 := by have := congrArg List.length hy; simpa [downR] using this
    obtain ⟨q, x, rfl⟩ : ∃ q x, ys = q ++ [x] := ⟨ys.dropLast, ys.getLast (by intro e; subst e; simp at hl), (List.dropLast_concat_getLast _).symm⟩
    obtain ⟨j, hj, hq, hxv⟩ := downR_last hy
    obtain rfl : k = j := by omega
    rw [divF_snoc]
    exact ((ih q (by omega) hq).step (i := x.val) hp (by omega) hx _ rfl).1
theorem divF_digs {xs : List Int} (hx : digs xs) {len d : Nat} (hd0 : 0 < d) (pre : List (Fin len)) (y : Fin len) : 0 ≤ ((divF xs d pre).2 * 65536 + xs.getD y.val 0) / (d : Int) ∧ ((divF xs d pre).2 * 65536 + xs.getD y.val 0) / (d : Int) < 65536 := by
  have h := divF_bd (xs := xs) hd0 pre.length pre rfl
  have dx := digs_getD hx y.val
  unfold dig at dx
  exact ⟨Int.ediv_nonneg (by omega) (by omega), Int.ediv_lt_of_lt_mul (by omega) (by omega)⟩
end Go.Proofs.YtfabpooiglalpaaDoor

/- Digits of numbers shifted down: mathematics alone. No condition. -/
namespace Go.Proofs.YtfabpooiglalpaaDoor
open Go.RowKit Go.Shelf
set_option linter.unusedVariables false

theorem val_of_digits {qs : List Int} : ∀ {V : Nat}, (∀ j, j < qs.length → qs.getD j 0 = ((V / 65536 ^ j % 65536 : Nat) : Int)) → val qs = V % 65536 ^ qs.length := by
  induction qs with
  | nil => intro V h; simp [val, Nat.mod_one]
  | cons x xs ih =>
    intro V h
    have h0 := h 0 (by simp)
    simp at h0
    have h1 := ih (V := V / 65536) (fun j hj => by
      have := h (j + 1) (by simp; omega)
      rw [List.getD_cons_succ] at this
      rw [this, Nat.div_div_eq_div_mul, Nat.pow_succ, Nat.mul_comm])
    rw [val_cons, h1, h0, List.length_cons, Nat.pow_succ, Nat.mul_comm (65536 ^ xs.length), Nat.mod_mul]
    omega
theorem val_drop_div {xs : List Int} (hx : digs xs) (k : Nat) : val (xs.drop k) = val xs / 65536 ^ k := by
  by_cases h : k ≤ xs.length
  · have e := val_append (xs.take k) (xs.drop k)
    rw [List.take_append_drop, List.length_take, Nat.min_eq_left h] at e
    have ht : digs (xs.take k) := (digs_append.1 (by rw [List.take_append_drop]; exact hx)).1
    have hl := val_lt ht
    rw [List.length_take, Nat.min_eq_left h] at hl
    rw [e, Nat.add_mul_div_left _ _ (Nat.pow_pos (by omega)), Nat.div_eq_of_lt hl]; omega
  · rw [List.drop_of_length_le (by omega), val_nil]
    have hl := val_lt hx
    have hp : 65536 ^ xs.length ≤ 65536 ^ k := Nat.pow_le_pow_right (by omega) (by omega)
    exact (Nat.div_eq_of_lt (Nat.lt_of_lt_of_le hl hp)).symm
theorem drop_two {xs : List Int} (hx : digs xs) {j : Nat} (h : j < xs.length) : ∃ m, val (xs.drop j) = (xs.getD j 0).toNat + 65536 * (xs.getD (j + 1) 0).toNat + 4294967296 * m := by
  by_cases h2 : j + 1 < xs.length
  · refine ⟨val (xs.drop (j + 1 + 1)), ?_⟩
    rw [val_drop h, val_drop h2]; omega
  · refine ⟨0, ?_⟩
    have e0 : xs.getD (j + 1) 0 = 0 := getD_out (by omega)
    rw [val_drop h, List.drop_of_length_le (by omega), val_nil, e0]; simp
/-- a digit of a number shifted down hangs on two digits -/
theorem down_digit {xs : List Int} (hx : digs xs) {p j : Nat} (hp : p < 16) (h : j < xs.length) : ((((xs.getD (j + 1) 0) * 65536 + xs.getD j 0) / ((2 ^ p : Nat) : Int)) % 65536) = ((val xs / 2 ^ p / 65536 ^ j % 65536 : Nat) : Int) := by
  obtain ⟨m, hm⟩ := drop_two hx h
  have d1 := digs_getD hx j
  have d2 := digs_getD hx (j + 1)
  unfold dig at d1 d2
  rw [Nat.div_div_eq_div_mul, Nat.mul_comm, ← Nat.div_div_eq_div_mul, ← val_drop_div hx, hm]
  obtain ⟨u, hu⟩ := Int.eq_ofNat_of_zero_le d1.1
  obtain ⟨v, hv⟩ := Int.eq_ofNat_of_zero_le d2.1
  rw [hu, hv, Int.toNat_natCast, Int.toNat_natCast]
  have e : (v : Int) * 65536 + (u : Int) = ((v * 65536 + u : Nat) : Int) := by omega
  have hT : 2 ^ p * 2 ^ (16 - p) = 65536 := by rw [← Nat.pow_add, show p + (16 - p) = 16 by omega]
  rw [e, ← Int.natCast_ediv, show (65536 : Int) = ((65536 : Nat) : Int) from rfl, ← Int.natCast_emod]
  congr 1
  have e2 : u + 65536 * v + 4294967296 * m = (v * 65536 + u) + 2 ^ p * (2 ^ (16 - p) * 65536 * m) := by
    have : 2 ^ p * (2 ^ (16 - p) * 65536 * m) = (2 ^ p * 2 ^ (16 - p)) * 65536 * m := by rw [Nat.mul_assoc, Nat.mul_assoc, Nat.mul_assoc]
    rw [this, hT]; omega
  rw [e2, Nat.add_mul_div_left _ _ (Nat.pow_pos (by omega)), show 2 ^ (16 - p) * 65536 * m = 65536 * (2 ^ (16 - p) * m) by rw [Nat.mul_right_comm, Nat.mul_comm], Nat.add_mul_mod_self_left]
/-- what came, the highest digit ahead, shifted down -/
def dnF (xs : List Int) (p : Nat) {len : Nat} (pre : List (Fin len)) : List Int × Int := pre.foldl (fun s y => (s.1.set y.val (((s.2 * 65536 + xs.getD y.val 0) / ((2 ^ p : Nat) : Int)) % 65536), xs.getD y.val 0)) (List.replicate len 0, 0)
theorem dnF_snoc (xs : List Int) (p : Nat) {len : Nat} (pre : List (Fin len)) (y : Fin len) : dnF xs p (pre ++ [y]) = ((dnF xs p pre).1.set y.val ((((dnF xs p pre).2 * 65536 + xs.getD y.val 0) / ((2 ^ p : Nat) : Int)) % 65536), xs.getD y.val 0) := by simp [dnF]
theorem dnF_bd {xs : List Int} {p : Nat} (hx : digs xs) {len : Nat} (n : Nat) : ∀ (pre : List (Fin len)), pre.length = n → (dnF xs p pre).1.length = len ∧ dig (dnF xs p pre).2 := by
  induction n with
  | zero =>
    intro pre hp
    have : pre = [] := List.length_eq_zero_iff.1 hp
    subst this; simp [dnF, dig]
  | succ n ih =>
    intro pre hp
    obtain ⟨q, x, rfl⟩ : ∃ q x, pre = q ++ [x] := ⟨pre.dropLast, pre.getLast (by intro e; subst e; simp at hp), (List.dropLast_concat_getLast _).symm⟩
    have := ih q (by simpa using hp)
    rw [dnF_snoc]
    exact ⟨by simpa using this.1, digs_getD hx _⟩
theorem dnF_val {xs : List Int} {len p : Nat} (hp : xs.length = len) (hx : digs xs) (k : Nat) : ∀ (ys : List (Fin len)), k ≤ len → ys.map Fin.val = downR len k → (dnF xs p ys).1.length = len ∧ (dnF xs p ys).2 = xs.getD (len - k) 0 ∧ ∀ j, len - k ≤ j → j < len → (dnF xs p ys).1.getD j 0 = (((xs.getD (j + 1) 0) * 65536 + xs.getD j 0) / ((2 ^ p : Nat) : Int)) % 65536 := by
  induction k with
  | zero =>
    intro ys hk hy
    have : ys = [] := by simpa [downR] using hy
    subst this
    refine ⟨by simp [dnF], ?_, fun j h1 h2 => by omega⟩
    have e0 : xs.getD (len - 0) 0 = 0 := getD_out (by omega)
    rw [e0]; simp [dnF]
  | succ k ih =>
    intro ys hk hy
    have hl : ys.length = k + 1 := by have := congrArg List.length hy; simpa [downR] using this
    obtain ⟨q, x, rfl⟩ : ∃ q x, ys = q ++ [x] := ⟨ys.dropLast, ys.getLast (by intro e; subst e; simp at hl), (List.dropLast_concat_getLast _).symm⟩
    obtain ⟨j, hj, hq, hxv⟩ := downR_last hy
    obtain rfl : k = j := by omega
    obtain ⟨i1, i2, i3⟩ := ih q (by omega) hq
    rw [dnF_snoc]
    refine ⟨by simpa using i1, by rw [hxv, show len - 1 - k = len - (k + 1) by omega], fun j h1 h2 => ?_⟩
    by_cases e : j = x.val
    · subst e
      rw [getD_set _ _ _ (by rw [i1]; exact x.isLt), i2, show len - k = x.val + 1 by omega]
    · have : ((dnF xs p q).1.set x.val ((((dnF xs p q).2 * 65536 + xs.getD x.val 0) / ((2 ^ p : Nat) : Int)) % 65536)).getD j 0 = (dnF xs p q).1.getD j 0 := by simp [List.getD_eq_getElem?_getD, Ne.symm e]
      rw [this]
      exact i3 j (by omega) h2
theorem dnF_all {xs : List Int} {len p : Nat} (hp : xs.length = len) (hx : digs xs) (h16 : p < 16) (ys : List (Fin len)) (hy : ys.map Fin.val = downR len len) : val (dnF xs p ys).1 = val xs / 2 ^ p ∧ digs (dnF xs p ys).1 := by
  obtain ⟨h1, -, h3⟩ := dnF_val (p := p) hp hx len ys (Nat.le_refl _) hy
  have hdig : ∀ j, j < (dnF xs p ys).1.length → (dnF xs p ys).1.getD j 0 = ((val xs / 2 ^ p / 65536 ^ j % 65536 : Nat) : Int) := fun j hj => by
    rw [h3 j (by omega) (by omega), down_digit hx h16 (by omega)]
  refine ⟨?_, fun j hj => ?_⟩
  · rw [val_of_digits hdig, h1]
    refine Nat.mod_eq_of_lt (Nat.lt_of_le_of_lt (Nat.div_le_self _ _) ?_)
    have := val_lt hx
    rwa [hp] at this
  · rw [hdig j hj]
    unfold dig
    have := Nat.mod_lt (val xs / 2 ^ p / 65536 ^ j) (show 0 < 65536 by omega)
    generalize val xs / 2 ^ p / 65536 ^ j % 65536 = z at *
    omega
theorem InI.tail {w : World} {b off len cap P : Nat} {xs : List Int} (h : InI w (some ⟨b, off, none⟩) len cap xs) (hP : P < len) : InI w (some ⟨b, off + P, none⟩) (len - P) (cap - P) (xs.drop P) := by
  obtain ⟨h1, h2, h3, h4, h5⟩ := h
  refine ⟨by rw [List.length_drop, h1], by omega, by omega, fun x hx => h4 x (List.mem_of_mem_drop hx), .inr ?_⟩
  rcases h5 with h5 | ⟨b', o', e, hb, hc⟩
  · omega
  · cases e
    refine ⟨b, off + P, rfl, hb, fun i hi => ?_⟩
    have := hc (P + i) (by omega)
    rw [show off + (P + i) = off + P + i by omega] at this
    rw [this]
    simp [List.getD_eq_getElem?_getD]
end Go.Proofs.YtfabpooiglalpaaDoor

/- Numbers shifted down, by the program. Conditions: digits. -/
namespace Go.Proofs.YtfabpooiglalpaaDoor
open Go.RowKit Go.Shelf
attribute [local go_sem] Oper.semAt_some
set_option linter.unusedVariables false

end Go.Proofs.YtfabpooiglalpaaDoor
