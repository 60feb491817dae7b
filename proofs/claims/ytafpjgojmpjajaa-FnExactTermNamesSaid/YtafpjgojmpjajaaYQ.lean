/- What is sorted and compacted ascends and has the same texts, so it is what the specification makes: both name a term alike. Mathematics alone. -/
import Derived.Test.YtafpjgojmpjajaaYP
namespace Go.Proofs.Ytafpjgojmpjajaa
set_option linter.unusedVariables false
set_option maxRecDepth 100000

theorem asc_snoc {l : List ByteArray} {x : ByteArray} (h : AscT l) (hx : ∀ y ∈ l, Op.bytesLess y.toList x.toList = true) : AscT (l ++ [x]) := by
  induction l with
  | nil => exact ⟨fun y hy => absurd hy (by simp), trivial⟩
  | cons a l ih =>
    refine ⟨fun y hy => ?_, ih h.2 (fun y hy => hx y (List.mem_cons_of_mem _ hy))⟩
    rcases List.mem_append.1 hy with g | g
    · exact h.1 y g
    · rw [List.mem_singleton.1 g]; exact hx a (List.mem_cons_self ..)
theorem ofl_list (l : List UInt8) : (ofl l).toList = l := by
  rw [ByteArray.toList_eq]; simp [ofl]
/-- not below: as the library's sort compares -/
theorem le_bl (x y : List UInt8) : decide (x ≤ y) = !Op.bytesLess y x := by
  rw [bytesLess_eq]
  by_cases h : y < x
  · rw [decide_eq_false (by rw [List.not_le]; exact h), decide_eq_true h]; rfl
  · rw [decide_eq_true (List.not_lt.1 h), decide_eq_false h]; rfl
def leb (x y : List UInt8) : Bool := !Op.bytesLess y x
theorem leb_trans (a b c : List UInt8) (h1 : leb a b = true) (h2 : leb b c = true) : leb a c = true := by
  unfold leb at *
  simp only [Bool.not_eq_true'] at *
  by_cases e : a = b
  · subst e; exact h2
  · have g1 := bl_total h1 (fun g => e g.symm)
    cases hc : Op.bytesLess c a
    · rfl
    · have := bl_trans hc g1
      rw [h2] at this; cases this
theorem leb_total (a b : List UInt8) : (leb a b || leb b a) = true := by
  unfold leb
  cases h1 : Op.bytesLess b a
  · rfl
  · cases h2 : Op.bytesLess a b
    · rfl
    · have := bl_trans h1 h2
      rw [bl_irr] at this; cases this
theorem srtL_eq (xs : List ByteArray) : srtL xs = (xs.map btl).mergeSort leb := by
  unfold srtL
  congr 1
  funext x y
  exact le_bl x y
theorem srtL_sorted (xs : List ByteArray) : (srtL xs).Pairwise (fun a b => leb a b = true) := by
  rw [srtL_eq]
  exact List.pairwise_mergeSort leb_trans leb_total _
theorem up_mem (d : Array (List UInt8)) (x : List UInt8) : ∀ m, x ∈ Lib.compactUpTo d m ↔ ∃ j, j < m ∧ d[j]! = x := by
  intro m
  induction m with
  | zero => simp [Lib.compactUpTo]
  | succ m ih =>
    rw [Lib.compactUpTo_succ, List.mem_append, ih]
    constructor
    · rintro (⟨j, hj, h⟩ | h)
      · exact ⟨j, by omega, h⟩
      · split at h
        · exact ⟨m, by omega, (List.mem_singleton.1 h).symm⟩
        · cases h
    · rintro ⟨j, hj, h⟩
      by_cases e : j = m
      · subst e
        by_cases hk : Lib.keeps d j = true
        · right; rw [if_pos hk]; exact List.mem_singleton.2 h.symm
        · left
          have hk' : ¬ (j = 0 ∨ d[j]! ≠ d[j - 1]!) := by
            intro g; exact hk (by unfold Lib.keeps; exact decide_eq_true g)
          have h0 : j ≠ 0 := fun g => hk' (.inl g)
          have h1 : d[j]! = d[j - 1]! := Classical.byContradiction fun g => hk' (.inr g)
          exact ⟨j - 1, by omega, by rw [← h1]; exact h⟩
      · exact .inl ⟨j, by omega, h⟩
theorem up_asc (d : Array (List UInt8)) (hs : ∀ i j, i ≤ j → j < d.size → leb d[i]! d[j]! = true) : ∀ m, m ≤ d.size → AscT ((Lib.compactUpTo d m).map ofl) := by
  intro m
  induction m with
  | zero => intro _; simp [Lib.compactUpTo, AscT]
  | succ m ih =>
    intro hm
    rw [Lib.compactUpTo_succ]
    by_cases hk : Lib.keeps d m = true
    · rw [if_pos hk, List.map_append]
      refine asc_snoc (ih (by omega)) (fun y hy => ?_)
      obtain ⟨z, hz, rfl⟩ := List.mem_map.1 hy
      obtain ⟨j, hj, rfl⟩ := (up_mem d z m).1 hz
      rw [ofl_list, ofl_list]
      have h1 := hs j (m - 1) (by omega) (by omega)
      have h2 := hs (m - 1) m (by omega) (by omega)
      have h3 : d[m]! ≠ d[m - 1]! := by
        have := of_decide_eq_true hk
        rcases this with g | g
        · omega
        · exact g
      have h4 := leb_trans _ _ _ h1 h2
      unfold leb at h1 h2 h4
      simp only [Bool.not_eq_true'] at h1 h2 h4
      have g2 := bl_total h2 h3
      by_cases e : d[j]! = d[m - 1]!
      · rw [e]; exact g2
      · exact bl_trans (bl_total h1 (fun g => e g.symm)) g2
    · rw [if_neg hk, List.append_nil]; exact ih (by omega)
theorem cmp_asc (l : List ByteArray) : AscT (cmpT (srtT l)) := by
  have hm : (srtT l).map btl = srtL l := by
    unfold srtT
    rw [List.map_map]
    conv => rhs; rw [← List.map_id (srtL l)]
    exact List.map_congr_left (fun x _ => btl_ofl x)
  unfold cmpT
  rw [hm]
  unfold Lib.compact
  have hp := srtL_sorted l
  refine up_asc _ (fun i j hij hj => ?_) _ (by simp)
  have hj' : j < (srtL l).length := by simpa using hj
  rw [getElem!_pos _ i (by simp; omega), getElem!_pos _ j (by simpa using hj')]
  by_cases e : i = j
  · subst e
    unfold leb; rw [bl_irr]; rfl
  · have := List.pairwise_iff_getElem.1 hp i j (by omega) hj' (by omega)
    simpa using this
theorem cmp_mem (l : List ByteArray) (y : ByteArray) : y ∈ cmpT (srtT l) ↔ y ∈ l := by
  constructor
  · exact fun h => srtT_mem.1 (cmpT_sub h)
  · intro h
    have h1 : btl y ∈ (srtT l).map btl := List.mem_map.2 ⟨y, srtT_mem.2 h, rfl⟩
    refine List.mem_map.2 ⟨btl y, ?_, ofl_btl y⟩
    unfold Lib.compact
    rw [up_mem]
    obtain ⟨j, hj, e⟩ := List.getElem_of_mem h1
    exact ⟨j, hj, by rw [getElem!_pos _ j (by simpa using hj)]; simpa using e⟩
theorem gaN_mem (xs : List Tn) (y : ByteArray) : ∀ k, k ≤ xs.length → (y ∈ gaN xs k ↔ ∃ i, i < k ∧ ((xs.getD i tn0).k = 2 ∨ (xs.getD i tn0).k = 13) ∧ (xs.getD i tn0).s = y) := by
  intro k
  induction k with
  | zero => intro _; simp [gaN]
  | succ k ih =>
    intro h
    rw [gaN_succ (by omega)]
    have ih' := ih (by omega)
    unfold gaStep
    split
    · rename_i g
      rw [List.mem_append, ih', List.mem_singleton]
      constructor
      · rintro (⟨i, hi, h1, h2⟩ | rfl)
        · exact ⟨i, by omega, h1, h2⟩
        · exact ⟨k, by omega, g, rfl⟩
      · rintro ⟨i, hi, h1, h2⟩
        by_cases e : i = k
        · subst e; exact .inr h2.symm
        · exact .inl ⟨i, by omega, h1, h2⟩
    · rename_i g
      rw [ih']
      constructor
      · rintro ⟨i, hi, h1, h2⟩; exact ⟨i, by omega, h1, h2⟩
      · rintro ⟨i, hi, h1, h2⟩
        by_cases e : i = k
        · subst e; exact absurd h1 g
        · exact ⟨i, by omega, h1, h2⟩
theorem tn_same (xs : List Tn) : tnI xs = tnN xs := by
  unfold tnI tnN
  split
  · have hN := nmAt_asc xs xs.length (Nat.le_refl _)
    have hM := fun y => nmAt_mem xs y xs.length (Nat.le_refl _)
    have hG := fun y => gaN_mem xs y xs.length (Nat.le_refl _)
    split
    · rename_i h0
      have e0 : gaN xs xs.length = [] := List.length_eq_zero_iff.1 h0
      refine asc_eq trivial hN (fun y => ?_)
      rw [hM, ← hG, e0]
    · refine asc_eq (cmp_asc _) hN (fun y => ?_)
      rw [cmp_mem, hM, hG]
  · rfl
end Go.Proofs.Ytafpjgojmpjajaa
