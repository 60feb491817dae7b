/- Where the parts of a term end, and the trees that they are: mathematics alone. No condition. -/
import Derived.Test.YtcoamadpigohjaaZU
namespace Go.Proofs.Ytcoamadpigohjaa
open Go.RowKit
set_option linter.unusedVariables false

/-- how many parts the node at a place is made of -/
def cn (xs : List Tn) (i : Nat) : Nat := (ac (xs.getD i tn0)).toNat
/-- the ends of the wholes that stand behind so many nodes, the last one first -/
def pst (xs : List Tn) : Nat → List Nat
  | 0 => []
  | k + 1 => k :: (pst xs k).drop (cn xs k)
theorem pst_len (xs : List Tn) (k : Nat) : (pst xs (k + 1)).length = (pst xs k).length - cn xs k + 1 := by simp [pst]
theorem run_pst {xs : List Tn} (h : runT xs 0 = some 1) : ∀ k, k ≤ xs.length → runT (xs.drop k) ((pst xs k).length : Int) = some 1 := by
  intro k
  induction k with
  | zero => intro _; exact h
  | succ k ih =>
    intro hk
    have i1 := ih (by omega)
    rw [drop_at (by omega)] at i1
    by_cases g : ac (xs.getD k tn0) < 0 ∨ ((pst xs k).length : Int) < ac (xs.getD k tn0)
    · rw [runT_no g] at i1; cases i1
    · rw [runT_go g] at i1
      rw [pst_len]
      have e : (((pst xs k).length - cn xs k + 1 : Nat) : Int) = ((pst xs k).length : Int) - ac (xs.getD k tn0) + 1 := by unfold cn; omega
      rw [e]; exact i1
theorem okT_in {xs : List Tn} (h : okT xs = true) : xs.length ≤ 100 ∧ runT xs 0 = some 1 := by
  unfold okT at h
  rw [Bool.and_eq_true, decide_eq_true_eq, beq_iff_eq] at h
  exact h
theorem okT_at {xs : List Tn} (h : okT xs = true) {k : Nat} (hk : k < xs.length) : ac (xs.getD k tn0) = (cn xs k : Int) ∧ cn xs k ≤ (pst xs k).length := by
  have i1 := run_pst (okT_in h).2 k (by omega)
  rw [drop_at (by omega)] at i1
  by_cases g : ac (xs.getD k tn0) < 0 ∨ ((pst xs k).length : Int) < ac (xs.getD k tn0)
  · rw [runT_no g] at i1; cases i1
  · unfold cn; omega
theorem okT_end {xs : List Tn} (h : okT xs = true) : (pst xs xs.length).length = 1 := by
  have i1 := run_pst (okT_in h).2 xs.length (Nat.le_refl _)
  rw [List.drop_eq_nil_of_le (Nat.le_refl _)] at i1
  unfold runT at i1
  injection i1 with i1
  omega
theorem okT_pos {xs : List Tn} (h : okT xs = true) : 0 < xs.length := by
  have := okT_end h
  rcases Nat.eq_zero_or_pos xs.length with g | g
  · rw [g] at this; simp [pst] at this
  · exact g
theorem pst_suf {xs : List Tn} (k : Nat) : ∀ b r, (b :: r) <:+ pst xs k → b < k ∧ pst xs (b + 1) = b :: r := by
  induction k with
  | zero => intro b r h; simp [pst] at h
  | succ k ih =>
    intro b r h
    unfold pst at h
    rcases List.suffix_cons_iff.1 h with g | g
    · injection g with g1 g2
      subst g1 g2
      exact ⟨by omega, rfl⟩
    · obtain ⟨h1, h2⟩ := ih b r (g.trans (List.drop_suffix _ _))
      exact ⟨by omega, h2⟩
/-- where the part begins that stands on these wholes -/
def beg : List Nat → Nat
  | [] => 0
  | b :: _ => b + 1
theorem pst_beg {xs : List Tn} {k : Nat} {r : List Nat} (h : r <:+ pst xs k) : pst xs (beg r) = r ∧ beg r ≤ k := by
  cases r with
  | nil => exact ⟨rfl, Nat.zero_le _⟩
  | cons b r => obtain ⟨h1, h2⟩ := pst_suf k b r h; exact ⟨h2, h1⟩
theorem pst_up {xs : List Tn} {k : Nat} {r : List Nat} (h : r <:+ pst xs k) (n : Nat) : ∀ j, j + n = k → beg r ≤ j → r <:+ pst xs j := by
  induction n with
  | zero => intro j hj _; obtain rfl : j = k := by omega
            exact h
  | succ n ih =>
    intro j hj hb
    have g := ih (j + 1) (by omega) (by omega)
    unfold pst at g
    rcases List.suffix_cons_iff.1 g with g | g
    · rw [g] at hb; simp [beg] at hb; omega
    · exact g.trans (List.drop_suffix _ _)
theorem pst_gt {xs : List Tn} {k : Nat} {r : List Nat} (h : r <:+ pst xs k) {j : Nat} (hj : beg r < j) (hk : j ≤ k) : r.length < (pst xs j).length := by
  have g := pst_up h (k - j) j (by omega) (by omega)
  obtain ⟨i, rfl⟩ : ∃ i, j = i + 1 := ⟨j - 1, by omega⟩
  unfold pst at g ⊢
  rcases List.suffix_cons_iff.1 g with g | g
  · rw [g] at hj; simp [beg] at hj
  · have := g.length_le
    rw [List.length_cons]; omega
/-- what the part that ends at a place stands on -/
def und (xs : List Tn) (e : Nat) : List Nat := (pst xs e).drop (cn xs e)
theorem und_suf (xs : List Tn) (e : Nat) : und xs e <:+ pst xs e := List.drop_suffix _ _
theorem und_at {xs : List Tn} {k j : Nat} (hj : j < (pst xs k).length) : und xs ((pst xs k).getD j 0) = (pst xs k).drop (j + 1) ∧ (pst xs k).getD j 0 < k := by
  have e : (pst xs k).drop j = (pst xs k).getD j 0 :: (pst xs k).drop (j + 1) := by
    rw [List.drop_eq_getElem_cons hj, List.getD_eq_getElem?_getD, List.getElem?_eq_getElem hj]; rfl
  obtain ⟨h1, h2⟩ := pst_suf k _ _ (by rw [← e]; exact List.drop_suffix _ _)
  have h3 : (pst xs k).getD j 0 :: und xs ((pst xs k).getD j 0) = (pst xs k).getD j 0 :: (pst xs k).drop (j + 1) := h2
  exact ⟨(List.cons.inj h3).2, h1⟩
theorem und_beg {xs : List Tn} {k j : Nat} (hj : j + 1 < (pst xs k).length) : beg (und xs ((pst xs k).getD j 0)) = (pst xs k).getD (j + 1) 0 + 1 := by
  rw [(und_at (by omega)).1, List.drop_eq_getElem_cons hj, List.getD_eq_getElem?_getD, List.getElem?_eq_getElem hj]
  rfl
/-- the ends of the parts of the node at a place, in order -/
def prts (xs : List Tn) (at_ : Nat) : List Nat := ((pst xs at_).take (cn xs at_)).reverse
theorem prts_lt {xs : List Tn} {k i : Nat} (hi : i < (prts xs k).length) : (prts xs k).getD i 0 < k := by
  unfold prts at hi ⊢
  rw [List.length_reverse, List.length_take] at hi
  have h2 : ((pst xs k).take (cn xs k)).length = min (cn xs k) (pst xs k).length := List.length_take ..
  rw [List.getD_eq_getElem?_getD, List.getElem?_reverse (by omega), List.getElem?_take_of_lt (by omega)]
  have := (und_at (xs := xs) (k := k) (j := ((pst xs k).take (cn xs k)).length - 1 - i) (by omega)).2
  rw [List.getD_eq_getElem?_getD] at this
  exact this
/-- a node with the parts that it is made of -/
inductive Tr where
  | mk (n : Tn) (ps : List Tr) : Tr
mutual
def Tr.dep : Tr → Nat
  | .mk _ ps => depL ps + 1
def depL : List Tr → Nat
  | [] => 0
  | t :: ts => max t.dep (depL ts)
end
theorem depL_snoc (l : List Tr) (t : Tr) : depL (l ++ [t]) = max (depL l) t.dep := by
  induction l with
  | nil => simp [depL]
  | cons x l ih => simp only [List.cons_append, depL, ih]; omega
theorem depL_take {l : List Tr} {i : Nat} {t : Tr} (h : l[i]? = some t) : depL (l.take (i + 1)) = max (depL (l.take i)) t.dep := by
  rw [List.take_add_one, h]
  exact depL_snoc _ _
/-- the trees of the wholes that stand behind so many nodes, the last one first -/
def tst (xs : List Tn) : Nat → List Tr
  | 0 => []
  | k + 1 => .mk (xs.getD k tn0) ((tst xs k).take (cn xs k)).reverse :: (tst xs k).drop (cn xs k)
def tr (xs : List Tn) (i : Nat) : Tr := .mk (xs.getD i tn0) ((tst xs i).take (cn xs i)).reverse
theorem tst_map (xs : List Tn) (k : Nat) : tst xs k = (pst xs k).map (tr xs) := by
  induction k with
  | zero => rfl
  | succ k ih =>
    show tr xs k :: (tst xs k).drop (cn xs k) = _
    rw [ih, pst, List.map_cons, List.map_drop]
theorem tr_eq (xs : List Tn) (i : Nat) : tr xs i = .mk (xs.getD i tn0) ((prts xs i).map (tr xs)) := by
  rw [show tr xs i = .mk (xs.getD i tn0) ((tst xs i).take (cn xs i)).reverse from rfl, tst_map]
  unfold prts
  rw [List.map_reverse, List.map_take]
theorem tst_len (xs : List Tn) (k : Nat) : (tst xs k).length = (pst xs k).length := by rw [tst_map, List.length_map]
theorem okT_tr {xs : List Tn} (h : okT xs = true) : tst xs xs.length = [tr xs (xs.length - 1)] := by
  have h1 := okT_end h
  have h2 := okT_pos h
  obtain ⟨n, hn⟩ : ∃ n, xs.length = n + 1 := ⟨xs.length - 1, by omega⟩
  rw [hn] at h1 ⊢
  rw [← tst_len] at h1
  show tr xs n :: (tst xs n).drop (cn xs n) = _
  have h3 : (tr xs n :: (tst xs n).drop (cn xs n)).length = 1 := h1
  rw [List.length_cons] at h3
  rw [List.length_eq_zero_iff.1 (show ((tst xs n).drop (cn xs n)).length = 0 by omega)]
  rfl
def depT (xs : List Tn) : Nat := if okT xs = true then (tr xs (xs.length - 1)).dep else 0
end Go.Proofs.Ytcoamadpigohjaa
