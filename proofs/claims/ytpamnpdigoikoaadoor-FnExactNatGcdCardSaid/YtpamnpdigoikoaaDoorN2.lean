/- Digits and the numbers that they are: mathematics alone. No condition. -/
import Derived.Test.YtpamnpdigoikoaaDoorN1
import Derived.Laws.BitsAllLaws
namespace Go.Proofs.YtpamnpdigoikoaaDoor
set_option linter.unusedVariables false
set_option maxRecDepth 100000

theorem i64_mask (a : Int) : bits .and .i64 a 65535 = a % 65536 := by
  show IntKind.i64.wrap ((BitVec.ofInt 64 a &&& BitVec.ofInt 64 65535).toNat : Int) = _
  have e1 : (BitVec.ofInt 64 a).toNat = (a % 18446744073709551616).toNat := by rw [BitVec.toNat_ofInt]; rfl
  have e2 : (BitVec.ofInt 64 65535).toNat = 65535 := by decide
  rw [BitVec.toNat_and, e1, e2]
  have e3 : ∀ x : Nat, x &&& 65535 = x % 65536 := fun x => Nat.and_two_pow_sub_one_eq_mod x 16
  rw [e3]
  simp [IntKind.wrap, IntKind.bits, IntKind.signed]
  omega
theorem u64_mask (a : Int) (h0 : 0 ≤ a) (h1 : a < 18446744073709551616) : bits .and .u64 a 65535 = a % 65536 := by
  rw [u64_and a 65535 h0 h1 (by omega) (by omega)]
  have e3 : ∀ x : Nat, x &&& 65535 = x % 65536 := fun x => Nat.and_two_pow_sub_one_eq_mod x 16
  have : (65535 : Int).toNat = 65535 := rfl
  rw [this, e3]
  omega

/-- the number that digits are -/
def val : List Int → Nat
  | [] => 0
  | x :: xs => x.toNat + 65536 * val xs
theorem val_nil : val [] = 0 := rfl
theorem val_cons (x : Int) (xs : List Int) : val (x :: xs) = x.toNat + 65536 * val xs := rfl
theorem val_append (xs ys : List Int) : val (xs ++ ys) = val xs + 65536 ^ xs.length * val ys := by
  induction xs with
  | nil => simp [val]
  | cons x xs ih =>
    rw [List.cons_append, val_cons, ih, val_cons, List.length_cons, Nat.pow_succ, Nat.mul_add]
    have : 65536 * (65536 ^ xs.length * val ys) = 65536 ^ xs.length * 65536 * val ys := by rw [Nat.mul_comm (65536 ^ xs.length) 65536, Nat.mul_assoc]
    omega
theorem digs_nil : digs [] := fun i h => absurd h (by simp)
theorem digs_cons {x : Int} {xs : List Int} : digs (x :: xs) ↔ dig x ∧ digs xs := by
  constructor
  · intro h
    refine ⟨by simpa using h 0 (by simp), fun i hi => ?_⟩
    have := h (i + 1) (by simp; omega)
    simpa using this
  · rintro ⟨h1, h2⟩ i hi
    cases i with
    | zero => simpa using h1
    | succ i => simpa using h2 i (by simpa using hi)
theorem digs_append {xs ys : List Int} : digs (xs ++ ys) ↔ digs xs ∧ digs ys := by
  induction xs with
  | nil => simp [digs_nil]
  | cons x xs ih => rw [List.cons_append, digs_cons, digs_cons, ih, and_assoc]
theorem digs_fits {xs : List Int} (h : digs xs) : IFits xs := by
  intro x hx
  obtain ⟨i, hi, rfl⟩ := List.mem_iff_getElem.1 hx
  have := h i hi
  unfold dig at this
  rw [List.getD_eq_getElem?_getD, List.getElem?_eq_getElem hi] at this
  simp at this
  omega
theorem val_lt {xs : List Int} (h : digs xs) : val xs < 65536 ^ xs.length := by
  induction xs with
  | nil => simp [val]
  | cons x xs ih =>
    obtain ⟨h1, h2⟩ := digs_cons.1 h
    have := ih h2
    unfold dig at h1
    rw [val_cons, List.length_cons, Nat.pow_succ]
    omega

/-- the digits of a number, the lowest ahead, none needless -/
def natL (v : Nat) : List Int := if h : v = 0 then [] else ((v % 65536 : Nat) : Int) :: natL (v / 65536)
  termination_by v
  decreasing_by omega
theorem natL_zero : natL 0 = [] := by rw [natL]; simp
theorem natL_pos {v : Nat} (h : v ≠ 0) : natL v = ((v % 65536 : Nat) : Int) :: natL (v / 65536) := by rw [natL]; simp [h]
theorem val_natL (v : Nat) : val (natL v) = v := by
  induction v using Nat.strongRecOn with
  | _ v ih =>
    by_cases h : v = 0
    · subst h; rw [natL_zero]; rfl
    · rw [natL_pos h, val_cons, ih _ (by omega)]
      omega
theorem digs_natL (v : Nat) : digs (natL v) := by
  induction v using Nat.strongRecOn with
  | _ v ih =>
    by_cases h : v = 0
    · subst h; rw [natL_zero]; exact digs_nil
    · rw [natL_pos h, digs_cons]
      exact ⟨by unfold dig; omega, ih _ (by omega)⟩
/-- no needless nought at the top -/
def topped (xs : List Int) : Prop := xs.length = 0 ∨ xs.getD (xs.length - 1) 0 ≠ 0
theorem topped_nil : topped [] := .inl rfl
theorem topped_one {x : Int} : topped [x] ↔ x ≠ 0 := by unfold topped; simp
theorem topped_cons {x y : Int} {xs : List Int} : topped (x :: y :: xs) ↔ topped (y :: xs) := by
  unfold topped; simp
theorem natL_canon {xs : List Int} (h : digs xs) (t : topped xs) : natL (val xs) = xs := by
  induction xs with
  | nil => rw [val_nil, natL_zero]
  | cons x xs ih =>
    obtain ⟨h1, h2⟩ := digs_cons.1 h
    unfold dig at h1
    have hx : ((x.toNat % 65536 : Nat) : Int) = x := by omega
    cases xs with
    | nil =>
      have := topped_one.1 t
      rw [val_cons, val_nil, natL_pos (by omega)]
      rw [show (x.toNat + 65536 * 0) / 65536 = 0 by omega, natL_zero, show ((x.toNat + 65536 * 0) % 65536) = x.toNat % 65536 by omega, hx]
    | cons y ys =>
      have t2 := topped_cons.1 t
      have e := ih h2 t2
      have hv : val (y :: ys) ≠ 0 := by
        intro h0
        rw [h0, natL_zero] at e
        cases e
      rw [val_cons, natL_pos (by omega)]
      rw [show (x.toNat + 65536 * val (y :: ys)) / 65536 = val (y :: ys) by omega, e, show (x.toNat + 65536 * val (y :: ys)) % 65536 = x.toNat % 65536 by omega, hx]
theorem topped_natL (v : Nat) : topped (natL v) := by
  induction v using Nat.strongRecOn with
  | _ v ih =>
    by_cases h : v = 0
    · subst h; rw [natL_zero]; exact topped_nil
    · have e := ih (v / 65536) (by omega)
      rw [natL_pos h]
      by_cases h2 : v / 65536 = 0
      · rw [h2, natL_zero]; rw [topped_one]; omega
      · rw [natL_pos h2] at e ⊢
        rw [topped_cons]; exact e
theorem natOk_canon {xs : List Int} (h : natOk xs = true) : natL (val xs) = xs := natL_canon (natOk_in h).2.1 (natOk_in h).2.2
theorem natL_fits (v : Nat) : IFits (natL v) := digs_fits (digs_natL v)
theorem natL_len {v n : Nat} : (natL v).length ≤ n ↔ v < 65536 ^ n := by
  constructor
  · intro h
    have h1 := val_lt (digs_natL v)
    rw [val_natL] at h1
    exact Nat.lt_of_lt_of_le h1 (Nat.pow_le_pow_right (by omega) h)
  · induction n generalizing v with
    | zero => intro h; have : v = 0 := by omega
              subst this; rw [natL_zero]; simp
    | succ n ih =>
      intro h
      by_cases h0 : v = 0
      · subst h0; rw [natL_zero]; simp
      · rw [natL_pos h0, List.length_cons]
        have := ih (v := v / 65536) (by rw [Nat.pow_succ] at h; omega)
        omega
theorem natOk_natL {v : Nat} (h : v < 65536 ^ 256) : natOk (natL v) = true := natOk_mk (natL_len.2 h) (digs_natL v) (topped_natL v)
theorem natOk_lt {xs : List Int} (h : natOk xs = true) : val xs < 65536 ^ 256 := by
  have := (natOk_in h).1
  exact Nat.lt_of_lt_of_le (val_lt (natOk_in h).2.1) (Nat.pow_le_pow_right (by omega) this)
theorem digs_zero {xs : List Int} (h : ∀ i, i < xs.length → xs.getD i 0 = 0) : val xs = 0 := by
  induction xs with
  | nil => rfl
  | cons x xs ih =>
    have h0 := h 0 (by simp)
    have h1 := ih (fun i hi => by have := h (i + 1) (by simp; omega); simpa using this)
    simp at h0
    rw [val_cons, h1, h0]; rfl
/-- noughts at the top fall away -/
theorem trim_natL {xs : List Int} {n : Nat} (hd : digs xs) (hn : n ≤ xs.length) (hz : ∀ i, n ≤ i → i < xs.length → xs.getD i 0 = 0) (ht : n = 0 ∨ xs.getD (n - 1) 0 ≠ 0) : xs.take n = natL (val xs) := by
  have hsplit : xs.take n ++ xs.drop n = xs := List.take_append_drop n xs
  have hv : val xs = val (xs.take n) := by
    have h2 : val (xs.drop n) = 0 := by
      apply digs_zero
      intro i hi
      rw [List.length_drop] at hi
      have := hz (n + i) (by omega) (by omega)
      simpa [List.getD_eq_getElem?_getD] using this
    rw [← hsplit, val_append, h2, hsplit]; omega
  have hdt : digs (xs.take n) := (digs_append.1 (by rw [hsplit]; exact hd)).1
  rw [hv]
  refine (natL_canon hdt ?_).symm
  unfold topped
  rw [List.length_take, Nat.min_eq_left hn]
  rcases ht with h | h
  · exact .inl h
  · by_cases h0 : n = 0
    · exact .inl h0
    · refine .inr ?_
      simpa [List.getD_eq_getElem?_getD, show n - 1 < n by omega] using h
end Go.Proofs.YtpamnpdigoikoaaDoor
