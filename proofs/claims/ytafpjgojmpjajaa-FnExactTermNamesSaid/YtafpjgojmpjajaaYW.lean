/- Ascending lists of texts: a name put in keeps a list ascending and adds just itself; two ascending lists with the same texts are one. Mathematics alone. -/
import Derived.Test.YtafpjgojmpjajaaYV
namespace Go.Proofs.Ytafpjgojmpjajaa
set_option linter.unusedVariables false
set_option maxRecDepth 100000

theorem bl_irr : ∀ x : List UInt8, Op.bytesLess x x = false
  | [] => rfl
  | a :: x => by simp [Op.bytesLess, bl_irr x, UInt8.lt_irrefl]
theorem bl_trans : ∀ {x y z : List UInt8}, Op.bytesLess x y = true → Op.bytesLess y z = true → Op.bytesLess x z = true
  | _, _, [], _, h => by cases ‹List UInt8› <;> simp [Op.bytesLess] at h
  | _, [], _ :: _, h, _ => by cases ‹List UInt8› <;> simp [Op.bytesLess] at h
  | [], _ :: _, _ :: _, _, _ => rfl
  | a :: x, b :: y, c :: z, h1, h2 => by
    simp only [Op.bytesLess, Bool.or_eq_true, decide_eq_true_eq, Bool.and_eq_true, beq_iff_eq] at h1 h2 ⊢
    rcases h1 with h1 | ⟨rfl, h1⟩
    · rcases h2 with h2 | ⟨rfl, h2⟩
      · exact .inl (UInt8.lt_trans h1 h2)
      · exact .inl h1
    · rcases h2 with h2 | ⟨rfl, h2⟩
      · exact .inl h2
      · exact .inr ⟨rfl, bl_trans h1 h2⟩
theorem bl_total : ∀ {x y : List UInt8}, Op.bytesLess x y = false → x ≠ y → Op.bytesLess y x = true
  | [], [], _, h => absurd rfl h
  | [], _ :: _, h, _ => by simp [Op.bytesLess] at h
  | _ :: _, [], _, _ => rfl
  | a :: x, b :: y, h, hn => by
    simp only [Op.bytesLess, Bool.or_eq_false_iff, decide_eq_false_iff_not, Bool.and_eq_false_iff, beq_eq_false_iff_ne] at h
    simp only [Op.bytesLess, Bool.or_eq_true, decide_eq_true_eq, Bool.and_eq_true, beq_iff_eq]
    by_cases e : a = b
    · subst e
      refine .inr ⟨rfl, bl_total (h.2.resolve_left (fun g => g rfl)) (fun g => hn (by rw [g]))⟩
    · left
      have h1 : ¬ a < b := h.1
      have e' : a.toNat ≠ b.toNat := fun g => e (UInt8.toNat_inj.1 g)
      rw [UInt8.lt_iff_toNat_lt] at h1 ⊢
      omega
/-- texts in ascending order, no two alike -/
def AscT : List ByteArray → Prop
  | [] => True
  | x :: l => (∀ y ∈ l, Op.bytesLess x.toList y.toList = true) ∧ AscT l
def insR : List ByteArray → ByteArray → List ByteArray
  | [], s => [s]
  | x :: l, s => if Op.bytesLess x.toList s.toList then x :: insR l s else if x.toList == s.toList then x :: l else s :: x :: l
theorem ba_of_list {x y : ByteArray} (h : x.toList = y.toList) : x = y := by
  apply ByteArray.ext
  have h2 : x.data.toList = y.data.toList := by rw [ByteArray.toList_eq, ByteArray.toList_eq] at h; exact h
  exact Array.toList_inj.1 h2
theorem fold_true (s : ByteArray) : ∀ (l acc : List ByteArray), l.foldl (intoStep s) (acc, true) = (acc ++ l, true) := by
  intro l
  induction l with
  | nil => intro acc; simp
  | cons x l ih =>
    intro acc
    have : intoStep s (acc, true) x = (acc ++ [x], true) := by simp [intoStep]
    rw [List.foldl_cons, this, ih]; simp
theorem fold_false (s : ByteArray) : ∀ (l acc : List ByteArray), (if (l.foldl (intoStep s) (acc, false)).2 then (l.foldl (intoStep s) (acc, false)).1 else (l.foldl (intoStep s) (acc, false)).1 ++ [s]) = acc ++ insR l s := by
  intro l
  induction l with
  | nil => intro acc; simp [insR]
  | cons x l ih =>
    intro acc
    rw [List.foldl_cons]
    unfold insR
    cases h1 : Op.bytesLess x.toList s.toList
    · cases h2 : x.toList == s.toList
      · have : intoStep s (acc, false) x = (acc ++ [s] ++ [x], true) := by simp only [intoStep, h1, h2, Bool.false_eq_true, if_false]
        rw [this, fold_true]; simp
      · have : intoStep s (acc, false) x = (acc ++ [x], true) := by simp only [intoStep, h1, h2, Bool.false_eq_true, if_false, if_true]
        rw [this, fold_true]; simp
    · have : intoStep s (acc, false) x = (acc ++ [x], false) := by simp only [intoStep, h1, Bool.false_eq_true, if_false, if_true]
      rw [this, ih]; simp
theorem intoL_ins (l : List ByteArray) (s : ByteArray) : intoL l s = insR l s := by
  have h := fold_false s l []
  unfold intoL intoAt
  rw [List.take_length]
  simpa using h
theorem insR_mem {l : List ByteArray} {s y : ByteArray} : y ∈ insR l s ↔ y ∈ l ∨ y = s := by
  induction l with
  | nil => simp [insR]
  | cons x l ih =>
    unfold insR
    cases h1 : Op.bytesLess x.toList s.toList
    · cases h2 : x.toList == s.toList
      · simp only [Bool.false_eq_true, if_false, List.mem_cons]
        constructor
        · rintro (rfl | h); exact .inr rfl; exact .inl h
        · rintro (h | rfl); exact .inr h; exact .inl rfl
      · have e : x = s := ba_of_list (by simpa using h2)
        subst e
        simp only [Bool.false_eq_true, if_false, if_true, List.mem_cons]
        constructor
        · exact fun h => .inl h
        · rintro (h | rfl); exact h; exact .inl rfl
    · simp only [if_true, List.mem_cons, ih]
      constructor
      · rintro (h | h | h); exact .inl (.inl h); exact .inl (.inr h); exact .inr h
      · rintro ((h | h) | h); exact .inl h; exact .inr (.inl h); exact .inr (.inr h)
theorem insR_asc {l : List ByteArray} {s : ByteArray} (h : AscT l) : AscT (insR l s) := by
  induction l with
  | nil => exact ⟨fun y hy => absurd hy (by simp), trivial⟩
  | cons x l ih =>
    unfold insR
    cases h1 : Op.bytesLess x.toList s.toList
    · cases h2 : x.toList == s.toList
      · have hn : x.toList ≠ s.toList := by simpa using h2
        have hsx := bl_total h1 hn
        refine ⟨fun y hy => ?_, h⟩
        rcases List.mem_cons.1 hy with rfl | hy
        · exact hsx
        · exact bl_trans hsx (h.1 y hy)
      · exact h
    · refine ⟨fun y hy => ?_, ih h.2⟩
      rcases insR_mem.1 hy with hy | rfl
      · exact h.1 y hy
      · exact h1
theorem asc_eq : ∀ {l m : List ByteArray}, AscT l → AscT m → (∀ y, y ∈ l ↔ y ∈ m) → l = m
  | [], [], _, _, _ => rfl
  | [], y :: m, _, _, h => absurd ((h y).2 (List.mem_cons_self ..)) (by simp)
  | x :: l, [], _, _, h => absurd ((h x).1 (List.mem_cons_self ..)) (by simp)
  | x :: l, y :: m, hl, hm, h => by
    have exy : x = y := by
      rcases List.mem_cons.1 ((h x).1 (List.mem_cons_self ..)) with e | hx
      · exact e
      · rcases List.mem_cons.1 ((h y).2 (List.mem_cons_self ..)) with e | hy
        · exact e.symm
        · have a := hl.1 y hy
          have b := hm.1 x hx
          have := bl_trans a b
          rw [bl_irr] at this; cases this
    subst exy
    congr 1
    refine asc_eq hl.2 hm.2 (fun z => ?_)
    have hz := h z
    rw [List.mem_cons, List.mem_cons] at hz
    constructor
    · intro g
      rcases hz.1 (.inr g) with rfl | e
      · have := hl.1 z g; rw [bl_irr] at this; cases this
      · exact e
    · intro g
      rcases hz.2 (.inr g) with rfl | e
      · have := hm.1 z g; rw [bl_irr] at this; cases this
      · exact e
theorem nmAt_asc (xs : List Tn) : ∀ k, k ≤ xs.length → AscT (nmAt xs k) := by
  intro k
  induction k with
  | zero => intro _; exact trivial
  | succ k ih =>
    intro h
    rw [nmAt_succ (by omega)]
    unfold nmStep
    split
    · rw [intoL_ins]; exact insR_asc (ih (by omega))
    · exact ih (by omega)
theorem nmAt_mem (xs : List Tn) (y : ByteArray) : ∀ k, k ≤ xs.length → (y ∈ nmAt xs k ↔ ∃ i, i < k ∧ ((xs.getD i tn0).k = 2 ∨ (xs.getD i tn0).k = 13) ∧ (xs.getD i tn0).s = y) := by
  intro k
  induction k with
  | zero => intro _; simp [nmAt]
  | succ k ih =>
    intro h
    rw [nmAt_succ (by omega)]
    have ih' := ih (by omega)
    unfold nmStep
    split
    · rename_i g
      rw [intoL_ins, insR_mem, ih']
      constructor
      · rintro (⟨i, hi, h1, h2⟩ | rfl)
        · exact ⟨i, by omega, h1, h2⟩
        · exact ⟨k, by omega, g, rfl⟩
      · rintro ⟨i, hi, h1, h2⟩
        by_cases e : i = k
        · subst e; exact .inr h2.symm
        · exact .inl ⟨i, by omega, h1, h2⟩
    · rename_i g
      rw [ih']
      constructor
      · rintro ⟨i, hi, h1, h2⟩; exact ⟨i, by omega, h1, h2⟩
      · rintro ⟨i, hi, h1, h2⟩
        by_cases e : i = k
        · subst e; exact absurd h1 g
        · exact ⟨i, by omega, h1, h2⟩
end Go.Proofs.Ytafpjgojmpjajaa
