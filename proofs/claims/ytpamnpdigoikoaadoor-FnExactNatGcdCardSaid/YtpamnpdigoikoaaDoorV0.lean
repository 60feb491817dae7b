/- Quotients digit by digit, each guessed by the highest digits: mathematics alone. No condition. -/
import Derived.Test.YtpamnpdigoikoaaDoorNW
namespace Go.Proofs.YtpamnpdigoikoaaDoor
set_option linter.unusedVariables false
set_option maxRecDepth 100000

/-- two lists that share no block -/
def Sep (a b : Option Addr) : Prop := ∀ p q, a = some p → b = some q → p.block ≠ q.block
theorem Sep.symm {a b : Option Addr} (h : Sep a b) : Sep b a := fun p q e1 e2 => (h q p e2 e1).symm
theorem Sep.none (b : Option Addr) : Sep none b := fun p q e => by cases e
theorem OI.sepOf {w w' : World} {base base' cv cv' : Nat} {av av' : Option Addr} {ps qs : List Int} (h : OI w base av cv ps) (h' : OI w' base' av' cv' qs) (hb : w.heap.size ≤ base') : Sep av av' := by
  intro p q e1 e2
  have := h.lt p e1
  have := h'.ge q e2
  omega
theorem natL_getD (v k : Nat) : (natL v).getD k 0 = ((v / 65536 ^ k % 65536 : Nat) : Int) := by
  induction k generalizing v with
  | zero =>
    by_cases h : v = 0
    · subst h; rw [natL_zero]; rfl
    · rw [natL_pos h]; simp
  | succ k ih =>
    by_cases h : v = 0
    · subst h; rw [natL_zero]; simp
    · rw [natL_pos h, List.getD_cons_succ, ih, Nat.div_div_eq_div_mul, Nat.pow_succ, Nat.mul_comm]
/-- the two highest digits of a number of n + 1 digits at most -/
theorem top_two {R n : Nat} (h : R < 65536 ^ (n + 2)) : (natL R).getD (n + 1) 0 * 65536 + (natL R).getD n 0 = ((R / 65536 ^ n : Nat) : Int) := by
  rw [natL_getD, natL_getD, Nat.pow_succ, ← Nat.div_div_eq_div_mul]
  have h2 : R / 65536 ^ n / 65536 < 65536 := by
    rw [Nat.div_div_eq_div_mul, ← Nat.pow_succ]
    refine Nat.div_lt_of_lt_mul ?_
    rw [← Nat.pow_succ]; exact h
  generalize R / 65536 ^ n = t at *
  omega
theorem top_one {Y n : Nat} (h : Y < 65536 ^ (n + 1)) : (natL Y).getD n 0 = ((Y / 65536 ^ n : Nat) : Int) := by
  rw [natL_getD]
  have : Y / 65536 ^ n < 65536 := Nat.div_lt_of_lt_mul (by rw [← Nat.pow_succ]; exact h)
  rw [Nat.mod_eq_of_lt this]
/-- a guess by the highest digits is never too small -/
theorem guess_le {R Y P : Nat} (hP : 0 < P) (hy : 0 < Y / P) : R / Y ≤ (R / P) / (Y / P) := by
  rw [Nat.le_div_iff_mul_le hy, Nat.le_div_iff_mul_le hP]
  calc R / Y * (Y / P) * P = R / Y * (Y / P * P) := by rw [Nat.mul_assoc]
    _ ≤ R / Y * Y := Nat.mul_le_mul_left _ (Nat.div_mul_le_self _ _)
    _ ≤ R := Nat.div_mul_le_self _ _
/-- a long division, the digits from i on done -/
structure LongI (m : Nat) (xs qs : List Int) (Y i R : Nat) : Prop where
  sz : qs.length = m
  dg : digs qs
  lt : R < Y
  eq : val (xs.drop i) = Y * val (qs.drop i) + R
theorem LongI.step {m : Nat} {xs qs : List Int} {Y i R : Nat} (h : LongI m xs qs Y (i + 1) R) (hm : m ≤ xs.length) (hi : i < m) (hx : digs xs) (R' : Nat) (hR : R' = R * 65536 + (xs.getD i 0).toNat) :
    R' / Y < 65536 ∧ LongI m xs (qs.set i ((R' / Y : Nat) : Int)) Y i (R' % Y) := by
  have hY : 0 < Y := Nat.lt_of_le_of_lt (Nat.zero_le _) h.lt
  have dx := digs_getD hx i
  unfold dig at dx
  have lt := h.lt
  have q1 : R' / Y < 65536 := Nat.div_lt_of_lt_mul (by omega)
  refine ⟨q1, by simpa using h.sz, digs_set h.dg _ ⟨Int.natCast_nonneg _, Int.ofNat_lt.2 q1⟩, Nat.mod_lt _ hY, ?_⟩
  have e := h.eq
  rw [val_drop (by omega), val_drop_set (by rw [h.sz]; omega), e]
  have hsd := Nat.div_add_mod R' Y
  generalize R' / Y = g at *
  generalize R' % Y = t at *
  rw [Int.toNat_natCast]
  generalize val (qs.drop (i + 1)) = B at *
  generalize (xs.getD i 0).toNat = x at *
  grind
theorem LongI.all {m : Nat} {xs qs : List Int} {Y R : Nat} (h : LongI m xs qs Y 0 R) : val qs = val xs / Y ∧ R = val xs % Y := by
  have e := h.eq
  have lt := h.lt
  rw [List.drop_zero, List.drop_zero] at e
  have hd0 : 0 < Y := by omega
  constructor
  · rw [e, Nat.mul_add_div hd0, Nat.div_eq_of_lt lt]; omega
  · rw [e, Nat.mul_add_mod, Nat.mod_eq_of_lt lt]
theorem LongI.zero {m : Nat} {xs : List Int} {Y n : Nat} (hx : digs xs) (hm : m = xs.length - n + 1) (hn : 0 < n) (hl : n ≤ xs.length) (hY : 65536 ^ (n - 1) ≤ Y) : LongI m xs (List.replicate m 0) Y m (val (xs.drop m)) := by
  have hdd : digs (xs.drop m) := (digs_append.1 (by rw [List.take_append_drop]; exact hx)).2
  have hv := val_lt hdd
  rw [List.length_drop, show xs.length - m = n - 1 by omega] at hv
  refine ⟨by simp, digs_zeros _, by omega, ?_⟩
  rw [show (List.replicate m (0 : Int)).drop m = [] from List.drop_of_length_le (by simp), val_nil]
  omega
/-- digits that go on to the top of a number are a number -/
theorem drop_canon {v m : Nat} : (natL v).drop m = natL (val ((natL v).drop m)) := by
  have hdd : digs ((natL v).drop m) := (digs_append.1 (by rw [List.take_append_drop]; exact digs_natL v)).2
  refine (natL_canon hdd ?_).symm
  by_cases h : (natL v).length ≤ m
  · left; rw [List.length_drop]; omega
  · right
    have ht := (topped_natL v).resolve_left (by omega)
    rw [List.length_drop]
    have e : ((natL v).drop m).getD ((natL v).length - m - 1) 0 = (natL v).getD ((natL v).length - 1) 0 := by
      rw [List.getD_eq_getElem?_getD, List.getElem?_drop, List.getD_eq_getElem?_getD, show m + ((natL v).length - m - 1) = (natL v).length - 1 by omega]
    rw [e]; exact ht
theorem natL_le {a b : Nat} (h : a ≤ b) : (natL a).length ≤ (natL b).length := by
  have := val_lt (digs_natL b)
  rw [val_natL] at this
  exact natL_len.2 (Nat.lt_of_le_of_lt h this)
theorem natL_pow_le {v : Nat} (h : 0 < v) : 65536 ^ ((natL v).length - 1) ≤ v := by
  have h0 : 0 < (natL v).length := by
    rw [natL_pos (by omega)]; simp
  have := val_ge (digs_natL v) (topped_natL v) h0
  rwa [val_natL] at this
theorem natL_lt_pow (v : Nat) : v < 65536 ^ (natL v).length := by
  have := val_lt (digs_natL v)
  rwa [val_natL] at this
theorem natL_length_pos {v : Nat} (h : 0 < v) : 0 < (natL v).length := by rw [natL_pos (by omega)]; simp
end Go.Proofs.YtpamnpdigoikoaaDoor
