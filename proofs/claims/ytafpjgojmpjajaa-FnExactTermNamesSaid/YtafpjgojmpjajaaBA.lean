/- What a number is, by the specification and by the program; nothing is written. No condition. -/
import Derived.Test.YtafpjgojmpjajaaN0
import Derived.Laws.BitsAllLaws
namespace Go.Proofs.Ytafpjgojmpjajaa
open Go.RowKit
set_option linter.unusedVariables false
set_option maxRecDepth 100000

theorem retB {b c : Bool} (h : c = b) : Ending.returned (.bool b) = .returned (.bool c) := by rw [h]
theorem retI {k : IntKind} {b c : Int} (h : c = b) : Ending.returned (.int k b) = .returned (.int k c) := by rw [h]
def dig (x : Int) : Prop := 0 ≤ x ∧ x < 65536
def digs (xs : List Int) : Prop := ∀ i, i < xs.length → dig (xs.getD i 0)
def natOk (xs : List Int) : Bool := decide (xs.length ≤ 256 ∧ (∀ i, i < xs.length → 0 ≤ xs.getD i 0 ∧ xs.getD i 0 < 65536) ∧ (xs.length = 0 ∨ xs.getD (xs.length - 1) 0 ≠ 0))
theorem natOk_in {xs : List Int} (h : natOk xs = true) : xs.length ≤ 256 ∧ digs xs ∧ (xs.length = 0 ∨ xs.getD (xs.length - 1) 0 ≠ 0) := by
  unfold natOk at h
  rw [decide_eq_true_eq] at h
  exact h
theorem natOk_mk {xs : List Int} (h1 : xs.length ≤ 256) (h2 : digs xs) (h3 : xs.length = 0 ∨ xs.getD (xs.length - 1) 0 ≠ 0) : natOk xs = true := by
  unfold natOk
  rw [decide_eq_true_eq]
  exact ⟨h1, h2, h3⟩
theorem natOk_long {xs : List Int} (h : ¬ xs.length ≤ 256) : natOk xs = false := by
  unfold natOk
  exact decide_eq_false (fun g => h g.1)
theorem natOk_bad {xs : List Int} {k : Nat} (hk : k < xs.length) (h : ¬ dig (xs.getD k 0)) : natOk xs = false := by
  unfold natOk
  exact decide_eq_false (fun g => h (g.2.1 k hk))
theorem natOk_last {xs : List Int} (h0 : xs.length ≠ 0) (h : xs.getD (xs.length - 1) 0 = 0) : natOk xs = false := by
  unfold natOk
  exact decide_eq_false (fun g => g.2.2.elim h0 (fun q => q h))

end Go.Proofs.Ytafpjgojmpjajaa

/- Digits and the numbers that they are: mathematics alone. No condition. -/
namespace Go.Proofs.Ytafpjgojmpjajaa
set_option linter.unusedVariables false
set_option maxRecDepth 100000

theorem i64_mask (a : Int) : bits .and .i64 a 65535 = a % 65536 := by
  show IntKind.i64.wrap ((BitVec.ofInt 64 a &&& BitVec.ofInt 64 65535).toNat : Int) = _
  have e1 : (BitVec.ofInt 64 a).toNat = (a % 18446744073709551616).toNat := by rw [BitVec.toNat_ofInt]; rfl
  have e2 : (BitVec.ofInt 64 65535).toNat = 65535 := by decide
  rw [BitVec.toNat_and, e1, e2]
  have e3 : ∀ x : Nat, x &&& 65535 = x % 65536 := fun x => Nat.and_two_pow_sub_one_eq_mod x 16
  rw [e3]
  simp [IntKind.wrap, IntKind.bits, IntKind.signed]
  omega
theorem u64_mask (a : Int) (h0 : 0 ≤ a) (h1 : a < 18446744073709551616) : bits .and .u64 a 65535 = a % 65536 := by
  rw [u64_and a 65535 h0 h1 (by omega) (by omega)]
  have e3 : ∀ x : Nat, x &&& 65535 = x % 65536 := fun x => Nat.and_two_pow_sub_one_eq_mod x 16
  have : (65535 : Int).toNat = 65535 := rfl
  rw [this, e3]
  omega

/-- the number that digits are -/
def val : List Int → Nat
  | [] => 0
  | x :: xs => x.toNat + 65536 * val xs
theorem val_nil : val [] = 0 := rfl
theorem val_cons (x : Int) (xs : List Int) : val (x :: xs) = x.toNat + 65536 * val xs := rfl
theorem val_append (xs ys : List Int) : val (xs ++ ys) = val xs + 65536 ^ xs.length * val ys := by
  induction xs with
  | nil => simp [val]
  | cons x xs ih =>
    rw [List.cons_append, val_cons, ih, val_cons, List.length_cons, Nat.pow_succ, Nat.mul_add]
    have : 65536 * (65536 ^ xs.length * val ys) = 65536 ^ xs.length * 65536 * val ys := by rw [Nat.mul_comm (65536 ^ xs.length) 65536, Nat.mul_assoc]
    omega
theorem digs_nil : digs [] := fun i h => absurd h (by simp)
theorem digs_cons {x : Int} {xs : List Int} : digs (x :: xs) ↔ dig x ∧ digs xs := by
  constructor
  · intro h
    refine ⟨by simpa using h 0 (by simp), fun i hi => ?_⟩
    have := h (i + 1) (by simp; omega)
    simpa using this
  · rintro ⟨h1, h2⟩ i hi
    cases i with
    | zero => simpa using h1
    | succ i => simpa using h2 i (by simpa using hi)
theorem digs_append {xs ys : List Int} : digs (xs ++ ys) ↔ digs xs ∧ digs ys := by
  induction xs with
  | nil => simp [digs_nil]
  | cons x xs ih => rw [List.cons_append, digs_cons, digs_cons, ih, and_assoc]
theorem digs_fits {xs : List Int} (h : digs xs) : IFits xs := by
  intro x hx
  obtain ⟨i, hi, rfl⟩ := List.mem_iff_getElem.1 hx
  have := h i hi
  unfold dig at this
  rw [List.getD_eq_getElem?_getD, List.getElem?_eq_getElem hi] at this
  simp at this
  omega
theorem val_lt {xs : List Int} (h : digs xs) : val xs < 65536 ^ xs.length := by
  induction xs with
  | nil => simp [val]
  | cons x xs ih =>
    obtain ⟨h1, h2⟩ := digs_cons.1 h
    have := ih h2
    unfold dig at h1
    rw [val_cons, List.length_cons, Nat.pow_succ]
    omega

/-- the digits of a number, the lowest ahead, none needless -/
def natL (v : Nat) : List Int := if h : v = 0 then [] else ((v % 65536 : Nat) : Int) :: natL (v / 65536)
  termination_by v
  decreasing_by omega
theorem natL_zero : natL 0 = [] := by rw [natL]; simp
theorem natL_pos {v : Nat} (h : v ≠ 0) : natL v = ((v % 65536 : Nat) : Int) :: natL (v / 65536) := by rw [natL]; simp [h]
theorem val_natL (v : Nat) : val (natL v) = v := by
  induction v using Nat.strongRecOn with
  | _ v ih =>
    by_cases h : v = 0
    · subst h; rw [natL_zero]; rfl
    · rw [natL_pos h, val_cons, ih _ (by omega)]
      omega
theorem digs_natL (v : Nat) : digs (natL v) := by
  induction v using Nat.strongRecOn with
  | _ v ih =>
    by_cases h : v = 0
    · subst h; rw [natL_zero]; exact digs_nil
    · rw [natL_pos h, digs_cons]
      exact ⟨by unfold dig; omega, ih _ (by omega)⟩
/-- no needless nought at the top -/
def topped (xs : List Int) : Prop := xs.length = 0 ∨ xs.getD (xs.length - 1) 0 ≠ 0
theorem topped_nil : topped [] := .inl rfl
theorem topped_one {x : Int} : topped [x] ↔ x ≠ 0 := by unfold topped; simp
theorem topped_cons {x y : Int} {xs : List Int} : topped (x :: y :: xs) ↔ topped (y :: xs) := by
  unfold topped; simp
theorem natL_canon {xs : List Int} (h : digs xs) (t : topped xs) : natL (val xs) = xs := by
  induction xs with
  | nil => rw [val_nil, natL_zero]
  | cons x xs ih =>
    obtain ⟨h1, h2⟩ := digs_cons.1 h
    unfold dig at h1
    have hx : ((x.toNat % 65536 : Nat) : Int) = x := by omega
    cases xs with
    | nil =>
      have := topped_one.1 t
      rw [val_cons, val_nil, natL_pos (by omega)]
      rw [show (x.toNat + 65536 * 0) / 65536 = 0 by omega, natL_zero, show ((x.toNat + 65536 * 0) % 65536) = x.toNat % 65536 by omega, hx]
    | cons y ys =>
      have t2 := topped_cons.1 t
      have e := ih h2 t2
      have hv : val (y :: ys) ≠ 0 := by
        intro h0
        rw [h0, natL_zero] at e
        cases e
      rw [val_cons, natL_pos (by omega)]
      rw [show (x.toNat + 65536 * val (y :: ys)) / 65536 = val (y :: ys) by omega, e, show (x.toNat + 65536 * val (y :: ys)) % 65536 = x.toNat % 65536 by omega, hx]
theorem topped_natL (v : Nat) : topped (natL v) := by
  induction v using Nat.strongRecOn with
  | _ v ih =>
    by_cases h : v = 0
    · subst h; rw [natL_zero]; exact topped_nil
    · have e := ih (v / 65536) (by omega)
      rw [natL_pos h]
      by_cases h2 : v / 65536 = 0
      · rw [h2, natL_zero]; rw [topped_one]; omega
      · rw [natL_pos h2] at e ⊢
        rw [topped_cons]; exact e
theorem natOk_canon {xs : List Int} (h : natOk xs = true) : natL (val xs) = xs := natL_canon (natOk_in h).2.1 (natOk_in h).2.2
theorem natL_fits (v : Nat) : IFits (natL v) := digs_fits (digs_natL v)
theorem natL_len {v n : Nat} : (natL v).length ≤ n ↔ v < 65536 ^ n := by
  constructor
  · intro h
    have h1 := val_lt (digs_natL v)
    rw [val_natL] at h1
    exact Nat.lt_of_lt_of_le h1 (Nat.pow_le_pow_right (by omega) h)
  · induction n generalizing v with
    | zero => intro h; have : v = 0 := by omega
              subst this; rw [natL_zero]; simp
    | succ n ih =>
      intro h
      by_cases h0 : v = 0
      · subst h0; rw [natL_zero]; simp
      · rw [natL_pos h0, List.length_cons]
        have := ih (v := v / 65536) (by rw [Nat.pow_succ] at h; omega)
        omega
theorem natOk_natL {v : Nat} (h : v < 65536 ^ 256) : natOk (natL v) = true := natOk_mk (natL_len.2 h) (digs_natL v) (topped_natL v)
theorem natOk_lt {xs : List Int} (h : natOk xs = true) : val xs < 65536 ^ 256 := by
  have := (natOk_in h).1
  exact Nat.lt_of_lt_of_le (val_lt (natOk_in h).2.1) (Nat.pow_le_pow_right (by omega) this)
theorem digs_zero {xs : List Int} (h : ∀ i, i < xs.length → xs.getD i 0 = 0) : val xs = 0 := by
  induction xs with
  | nil => rfl
  | cons x xs ih =>
    have h0 := h 0 (by simp)
    have h1 := ih (fun i hi => by have := h (i + 1) (by simp; omega); simpa using this)
    simp at h0
    rw [val_cons, h1, h0]; rfl
/-- noughts at the top fall away -/
theorem trim_natL {xs : List Int} {n : Nat} (hd : digs xs) (hn : n ≤ xs.length) (hz : ∀ i, n ≤ i → i < xs.length → xs.getD i 0 = 0) (ht : n = 0 ∨ xs.getD (n - 1) 0 ≠ 0) : xs.take n = natL (val xs) := by
  have hsplit : xs.take n ++ xs.drop n = xs := List.take_append_drop n xs
  have hv : val xs = val (xs.take n) := by
    have h2 : val (xs.drop n) = 0 := by
      apply digs_zero
      intro i hi
      rw [List.length_drop] at hi
      have := hz (n + i) (by omega) (by omega)
      simpa [List.getD_eq_getElem?_getD] using this
    rw [← hsplit, val_append, h2, hsplit]; omega
  have hdt : digs (xs.take n) := (digs_append.1 (by rw [hsplit]; exact hd)).1
  rw [hv]
  refine (natL_canon hdt ?_).symm
  unfold topped
  rw [List.length_take, Nat.min_eq_left hn]
  rcases ht with h | h
  · exact .inl h
  · by_cases h0 : n = 0
    · exact .inl h0
    · refine .inr ?_
      simpa [List.getD_eq_getElem?_getD, show n - 1 < n by omega] using h
end Go.Proofs.Ytafpjgojmpjajaa

/- Lists of whole numbers in memory of their own: those that grow by append, those that were made; what a mark leaves. No condition. -/
namespace Go.Proofs.Ytafpjgojmpjajaa
open Go.RowKit
set_option linter.unusedVariables false
set_option maxRecDepth 100000

def ints (xs : List Int) : List Value := xs.map (fun x => .int .i64 x)
theorem ints_length (xs : List Int) : (ints xs).length = xs.length * 1 := by simp [ints]
theorem ints_snoc (xs : List Int) (x : Int) : ints (xs ++ [x]) = ints xs ++ [.int .i64 x] := by simp [ints]
theorem ints_get {xs : List Int} {i : Nat} (h : i < xs.length) : (ints xs)[i]? = some (.int .i64 (xs.getD i 0)) := by
  simp [ints, List.getD_eq_getElem?_getD, h]
/-- a list that is being made -/
def IGrows (w : World) (base : Nat) (v : Value) (xs : List Int) : Prop := w.ownsRow base 3 1 v xs.length (ints xs)
theorem IGrows.nil (w : World) (base : Nat) : IGrows w base (.slice none 0 0) [] := World.ownsRow_nil w base _ _
theorem IGrows.kept {w w' : World} {base : Nat} {v : Value} {xs : List Int} {row : Option Nat} (h : IGrows w base v xs) (g : w.grownBy w' row) (hne : ∀ b, row = some b → b < base) : IGrows w' base v xs := by
  refine World.ownsRow.kept h g ?_
  cases hv : v.ownBlock with
  | none => exact .inl rfl
  | some k =>
    refine .inr (fun e => ?_)
    have := hne k e.symm
    have := (World.ownsRow.lt h k hv).1
    omega
theorem IGrows.later {w w' : World} {base : Nat} {v : Value} {xs : List Int} (h : IGrows w base v xs) (g : Below w.heap.size w w') : IGrows w' base v xs := h.kept (grown_below g) (by simp)
theorem IGrows.alloc {w : World} {base : Nat} {v : Value} {xs : List Int} (h : IGrows w base v xs) (o : Obj) : IGrows (w.alloc o) base v xs := h.later ((Below.refl _ _).alloc (Nat.le_refl _) o)
theorem IGrows.far {w : World} {base : Nat} {v : Value} {xs : List Int} (h : IGrows w base v xs) {c : Nat} (hc : c < base) : some c ≠ v.ownBlock := fun e => by have := (World.ownsRow.lt h c e.symm).1; omega
theorem IGrows.row {w : World} {base : Nat} {v : Value} {xs : List Int} (h : IGrows w base v xs) (hp : 0 < xs.length) : ∃ g cap, v = .slice (some ⟨g, 0, none⟩) xs.length cap ∧ base ≤ g ∧ xs.length ≤ cap ∧ cap ≤ maxLen ∧ IRow w g xs := by
  have h' := h
  rcases h.2 with ⟨_, h0⟩ | ⟨g, cap, cur, rfl, hb, hg, h1, h2, -, -⟩
  · omega
  refine ⟨g, cap, rfl, hb, h1, h2, (Array.getElem?_eq_some_iff.1 hg).1, fun i hi => ?_⟩
  exact ⟨(World.ownsRow.cellAt h' i (by omega)).trans (ints_get hi), World.ownsRow.frozenAt h' _⟩
theorem IGrows.none {w : World} {base : Nat} {v : Value} (h : IGrows w base v []) : ∃ av cv, v = .slice av 0 cv := by
  rcases h.2 with ⟨h0, _⟩ | ⟨g, cap, cur, rfl, hb, hg, h1, h2, -, -⟩
  · exact ⟨_, _, h0⟩
  · exact ⟨_, _, rfl⟩
theorem cells_one (w : World) (b : Nat) (hb : b = w.heap.size) (x : Value) (t : TypeId) : ∀ j u, [x][j]? = some u → (w.alloc (.cells #[x] t)).cell? ((⟨b, 0, none⟩ : Addr).add j) = some u := by
  subst hb
  intro j u h
  match j, h with
  | 0, h => simp at h; subst h; simp [Addr.add]
  | j + 1, h => simp at h

def ownB (av : Option Addr) : Option Nat := av.map (·.block)
/-- numbers in memory of their own, at or beyond base; or none -/
def OI (w : World) (base : Nat) (av : Option Addr) (cv : Nat) (xs : List Int) : Prop :=
  IFits xs ∧ xs.length ≤ cv ∧ cv ≤ maxLen ∧ ((av = none ∧ xs = []) ∨ ∃ g, av = some ⟨g, 0, none⟩ ∧ base ≤ g ∧ IRow w g xs)
theorem fits_nil : IFits [] := fun p hp => absurd hp (by simp)
theorem OI.none (w : World) (base : Nat) : OI w base none 0 [] := ⟨fits_nil, Nat.le_refl _, Nat.zero_le _, .inl ⟨rfl, rfl⟩⟩
theorem IGrows.oi {w : World} {base : Nat} {v : Value} {xs : List Int} (h : IGrows w base v xs) (f : IFits xs) : ∃ av cv, v = .slice av xs.length cv ∧ OI w base av cv xs := by
  by_cases h0 : 0 < xs.length
  · obtain ⟨g, cap, rfl, h1, h2, h3, h4⟩ := h.row h0
    exact ⟨_, _, rfl, f, h2, h3, .inr ⟨g, rfl, h1, h4⟩⟩
  · obtain rfl : xs = [] := List.length_eq_zero_iff.1 (by omega)
    rcases h.2 with ⟨h1, _⟩ | ⟨g, cap, cur, rfl, hb, hg, h1, h2, -, -⟩
    · exact ⟨_, _, h1, fits_nil, Nat.le_refl _, Nat.zero_le _, .inl ⟨rfl, rfl⟩⟩
    · exact ⟨_, _, rfl, fits_nil, h1, h2, .inr ⟨g, rfl, hb, (Array.getElem?_eq_some_iff.1 hg).1, fun i hi => absurd hi (by simp)⟩⟩
section
variable {w w' : World} {base cv : Nat} {av : Option Addr} {ps : List Int}
theorem OI.inI (h : OI w base av cv ps) : InI w av ps.length cv ps := by
  obtain ⟨h1, h2, h3, ⟨rfl, rfl⟩ | ⟨g, rfl, h4, h5⟩⟩ := h
  · exact ⟨rfl, h2, h3, h1, .inl rfl⟩
  · exact h5.inI h1 h2 h3
theorem OI.mono {base' : Nat} (h : OI w base av cv ps) (hb : base' ≤ base) : OI w base' av cv ps := by
  obtain ⟨h1, h2, h3, h4 | ⟨g, h4, h5, h6⟩⟩ := h
  · exact ⟨h1, h2, h3, .inl h4⟩
  · exact ⟨h1, h2, h3, .inr ⟨g, h4, by omega, h6⟩⟩
theorem OI.later (h : OI w base av cv ps) (k : Below w.heap.size w w') : OI w' base av cv ps := by
  obtain ⟨h1, h2, h3, h4 | ⟨g, h4, h5, h6⟩⟩ := h
  · exact ⟨h1, h2, h3, .inl h4⟩
  · exact ⟨h1, h2, h3, .inr ⟨g, h4, h5, h6.old k⟩⟩
theorem OI.alloc (h : OI w base av cv ps) (o : Obj) : OI (w.alloc o) base av cv ps := h.later ((Below.refl _ _).alloc (Nat.le_refl _) o)
theorem OI.drew (h : OI w base av cv ps) : OI w.drew base av cv ps := h
theorem OI.kept {row : Option Nat} (h : OI w base av cv ps) (g : w.grownBy w' row) (hne : ∀ q, av = some q → some q.block ≠ row) : OI w' base av cv ps := by
  obtain ⟨h1, h2, h3, h4 | ⟨c, h4, h5, h6⟩⟩ := h
  · exact ⟨h1, h2, h3, .inl h4⟩
  · exact ⟨h1, h2, h3, .inr ⟨c, h4, h5, h6.kept g (hne _ h4)⟩⟩
theorem OI.lt (h : OI w base av cv ps) : ∀ q, av = some q → q.block < w.heap.size := by
  intro q e
  obtain ⟨h1, h2, h3, ⟨rfl, _⟩ | ⟨c, rfl, h5, h6⟩⟩ := h
  · cases e
  · cases e; exact h6.1
theorem OI.ge (h : OI w base av cv ps) : ∀ q, av = some q → base ≤ q.block := by
  intro q e
  obtain ⟨h1, h2, h3, ⟨rfl, _⟩ | ⟨c, rfl, h5, h6⟩⟩ := h
  · cases e
  · cases e; exact h5
theorem OI.sep (h : OI w base av cv ps) {a : Option Addr} (hc : ∀ q, a = some q → q.block < base) : ∀ q, a = some q → some q.block ≠ ownB av := by
  intro q e e2
  cases av with
  | none => cases e2
  | some p => have := h.ge p rfl; have := hc q e; simp [ownB] at e2; omega
theorem OI.sep' (h : OI w base av cv ps) {a : Option Addr} (hc : ∀ q, a = some q → q.block < base) : ∀ q, av = some q → some q.block ≠ ownB a := by
  intro q e e2
  have := h.ge q e
  cases a with
  | none => cases e2
  | some p => have := hc p rfl; simp [ownB] at e2; omega
end
theorem Below.marked {n : Nat} {w0 w w' : World} {base cv : Nat} {av : Option Addr} {ps : List Int} (hb : Below n w0 w) (h : OI w base av cv ps) (g : w.grownBy w' (ownB av)) (hn : n ≤ base) (h0 : n ≤ w.heap.size) : Below n w0 w' :=
  hb.grown g h0 (fun k e => by
    cases av with
    | none => cases e
    | some q => have := h.ge q rfl; simp [ownB] at e; omega)
end Go.Proofs.Ytafpjgojmpjajaa

/- The digits of a number of 64 bits, by the specification and by the program: new lists with the same digits. No condition. -/
namespace Go.Proofs.Ytafpjgojmpjajaa
open Go.RowKit
set_option linter.unusedVariables false
set_option maxRecDepth 100000

theorem snocN (m : Nat) (hm : m ≠ 0) : natL m = [(m : Int) % 65536] ++ natL (m / 65536) := by rw [natL_pos hm]; simp
end Go.Proofs.Ytafpjgojmpjajaa
