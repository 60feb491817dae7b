/- Terms: both sides say alike whether nodes are one. Nothing that was there is written. No condition but that the nodes are there. -/
import Derived.Test.YtknibhdnbkmkiaaDoorPK10
import Derived.Deep.RegionWith
import Derived.Test.YtknibhdnbkmkiaaDoorPK02
import Derived.Deep.DeepCutAuto
import Derived.Laws.Concat
import Derived.Laws.IdiomStrings
import Derived.Deep.RegionHeld3
namespace Go.Proofs.YtknibhdnbkmkiaaDoor
open Go.RowKit
set_option linter.unusedVariables false
set_option maxRecDepth 100000

/-- how many wholes stand behind these nodes, if those ahead left so many -/
def runT : List Tn → Int → Option Int
  | [], d => some d
  | x :: t, d => if ac x < 0 ∨ d < ac x then none else runT t (d - ac x + 1)
def okT (xs : List Tn) : Bool := decide (xs.length ≤ 100) && (runT xs 0 == some 1)
theorem drop_at {xs : List Tn} {k : Nat} (h : k < xs.length) : xs.drop k = xs.getD k tn0 :: xs.drop (k + 1) := by
  rw [List.drop_eq_getElem_cons h, List.getD_eq_getElem?_getD, List.getElem?_eq_getElem h]; rfl
theorem okT_long {xs : List Tn} (h : ¬ xs.length ≤ 100) : okT xs = false := by unfold okT; rw [decide_eq_false h]; rfl
theorem okT_none {xs : List Tn} (h : runT xs 0 = none) : okT xs = false := by unfold okT; rw [h]; simp
theorem okT_some {xs : List Tn} {d : Int} (hl : xs.length ≤ 100) (h : runT xs 0 = some d) : okT xs = (d == 1) := by unfold okT; rw [h, decide_eq_true hl]; simp
theorem runT_no {x : Tn} {t : List Tn} {d : Int} (h : ac x < 0 ∨ d < ac x) : runT (x :: t) d = none := by unfold runT; rw [if_pos h]
theorem runT_go {x : Tn} {t : List Tn} {d : Int} (h : ¬ (ac x < 0 ∨ d < ac x)) : runT (x :: t) d = runT t (d - ac x + 1) := by rw [runT, if_neg h]
set_option maxHeartbeats 4000000 in
theorem iTermOk (a : Option Addr) (len cap : Nat) (xs : List Tn) (w : World) (hR : InN w a len cap xs) :
    Calls Tryd.prog 21 #[.agg #[.slice a len cap]] w fun e w' => e = .returned (.bool (okT xs)) ∧ Below w.heap.size w w' := by
  have hp := hR.1
  have hlen : len ≤ maxLen := Nat.le_trans hR.2.1 hR.2.2.1
  unfold maxLen at hlen
  by_cases hl : len ≤ 100
  case neg =>
    rw [okT_long (by omega)]
    go_enter Tryd.func21, Tryd.ntmps21
    go_wp2
    go_ret
    exact ⟨rfl, (by repeat (first | exact Below.refl _ _ | refine Below.drew ?_ | refine old_alloc ?_ _ | refine old_trans ?_ (by assumption)))⟩
  obtain ⟨res, hres⟩ : ∃ r, okT xs = r := ⟨_, rfl⟩
  rw [hres]
  have eN := hd (fun h => hres.symm.trans (okT_none (xs := xs) h))
  have eS := hd (fun d h => hres.symm.trans (okT_some (xs := xs) (d := d) (by omega) h))
  clear hres
  go_enter Tryd.func21, Tryd.ntmps21
  go_wp2
  go_loopw [3, 15] (fun d i wr => ∃ (k : Nat) (r : Int), k ≤ len ∧ i = .int .i64 k ∧ d = .int .i64 r ∧ 0 ≤ r ∧ r ≤ k ∧ runT xs 0 = runT (xs.drop k) r ∧ Below w.heap.size w wr) (fun _ i _ => len - (intOf i).toNat)
  case atStart => exact ⟨0, 0, by omega, rfl, rfl, by omega, by omega, rfl, (by repeat (first | exact Below.refl _ _ | refine Below.drew ?_ | refine old_alloc ?_ _ | refine old_trans ?_ (by assumption)))⟩
  case round =>
    obtain ⟨k, r, hk, rfl, rfl, hr0, hr1, hrun, hb⟩ := hrel
    by_cases hlt : k < len
    · obtain ⟨b, off, x, y, s, rfl, hbl, hx, hf, c0, c1, c2⟩ := (hR.old hb).at hlt
      rw [drop_at (by omega), hx] at hrun
      have P := hd (iPart x y s)
      have bn := hd (fun h => eN.out (hrun.trans (runT_no h)))
      have bg := hd (fun h => hrun.trans (runT_go h))
      clear hrun hf hx
      by_cases h0 : 0 ≤ ac ⟨x, y, s⟩
      · by_cases h1 : r < ac ⟨x, y, s⟩
        · have q := hd (bn.out (.inr h1))
          rw [decide_eq_true h0] at P
          clear bn bg
          generalize ac ⟨x, y, s⟩ = m at *
          go_wp2_with fail
          refine (P.out _).mono ?_
          rintro e w1 ⟨⟨c, rfl, hc⟩, hb1⟩
          obtain rfl := hc h0
          go_wp2
          go_ret
          exact ⟨rB q.out, (by repeat (first | exact hb | exact Below.refl _ _ | refine Below.drew ?_ | refine old_alloc ?_ _ | refine old_trans ?_ (by assumption)))⟩
        · have q := hd (bg.out (by omega))
          rw [decide_eq_true h0] at P
          clear bn bg
          generalize ac ⟨x, y, s⟩ = m at *
          go_wp2_with fail
          refine (P.out _).mono ?_
          rintro e w1 ⟨⟨c, rfl, hc⟩, hb1⟩
          obtain rfl := hc h0
          go_wp2
          go_roundw
          case rel => exact ⟨k + 1, r - c + 1, by omega, by go_num, by go_num, by omega, by omega, q.out, (by repeat (first | exact hb | exact Below.refl _ _ | refine Below.drew ?_ | refine old_alloc ?_ _ | refine old_trans ?_ (by assumption)))⟩
          case measure => simp [intOf]; omega
      · have q := hd (bn.out (.inl (by omega)))
        rw [decide_eq_false h0] at P
        clear bn bg
        generalize ac ⟨x, y, s⟩ = m at *
        go_wp2_with fail
        refine (P.out _).mono ?_
        rintro e w1 ⟨⟨c, rfl, hc⟩, hb1⟩
        clear hc
        go_wp2
        go_ret
        exact ⟨rB q.out, (by repeat (first | exact hb | exact Below.refl _ _ | refine Below.drew ?_ | refine old_alloc ?_ _ | refine old_trans ?_ (by assumption)))⟩
    · obtain rfl : k = len := by omega
      have hlt' : ¬ (k : Int) < (k : Int) := by omega
      rw [List.drop_eq_nil_of_le (by omega)] at hrun
      have q := hd (eS.out r hrun)
      clear hrun
      go_wp2
      go_ret
      exact ⟨rB q.out, hb⟩
set_option maxHeartbeats 4000000 in
theorem sTermOk (a : Option Addr) (len cap : Nat) (xs : List Tn) (w : World) (hR : InN w a len cap xs) :
    Calls Tryd.prog 10 #[.agg #[.slice a len cap]] w fun e w' => e = .returned (.bool (okT xs)) ∧ Below w.heap.size w w' := by
  have hp := hR.1
  have hlen : len ≤ maxLen := Nat.le_trans hR.2.1 hR.2.2.1
  unfold maxLen at hlen
  by_cases hl : len ≤ 100
  case neg =>
    rw [okT_long (by omega)]
    go_enter Tryd.func10, Tryd.ntmps10
    go_wp2
    go_ret
    exact ⟨rfl, (by repeat (first | exact Below.refl _ _ | refine Below.drew ?_ | refine old_alloc ?_ _ | refine old_trans ?_ (by assumption)))⟩
  obtain ⟨res, hres⟩ : ∃ r, okT xs = r := ⟨_, rfl⟩
  rw [hres]
  have eN := hd (fun h => hres.symm.trans (okT_none (xs := xs) h))
  have eS := hd (fun d h => hres.symm.trans (okT_some (xs := xs) (d := d) (by omega) h))
  clear hres
  have K0 := CS.made w _ rfl #[.slice a len cap] 29
  have hBB : Below w.heap.size w (w.alloc (.cells #[.slice a len cap] 29)) := old_alloc (Below.refl _ _) _
  go_enter Tryd.func10, Tryd.ntmps10
  go_wp2
  generalize w.alloc (.cells #[.slice a len cap] 29) = W0 at *
  go_loopw [3, 4] (fun d i wr => ∃ (k : Nat) (r : Int), k ≤ len ∧ i = .int .i64 k ∧ d = .int .i64 r ∧ 0 ≤ r ∧ r ≤ k ∧ runT xs 0 = runT (xs.drop k) r ∧ Below W0.heap.size W0 wr) (fun _ i _ => len - (intOf i).toNat)
  case atStart => exact ⟨0, 0, by omega, rfl, rfl, by omega, by omega, rfl, Below.refl _ _⟩
  case round =>
    obtain ⟨k, r, hk, rfl, rfl, hr0, hr1, hrun, hb⟩ := hrel
    have m0 := (K0.later hb).cell 0 _ rfl
    by_cases hlt : k < len
    · obtain ⟨b, off, x, y, s, rfl, hbl, hx, hf, c0, c1, c2⟩ := ((hR.old hBB).old hb).at hlt
      rw [drop_at (by omega), hx] at hrun
      have P := hd (sArgs x y s hf.2.2)
      have bn := hd (fun h => eN.out (hrun.trans (runT_no h)))
      have bg := hd (fun h => hrun.trans (runT_go h))
      clear hrun hf hx
      by_cases h0 : 0 ≤ ac ⟨x, y, s⟩
      · by_cases h1 : r < ac ⟨x, y, s⟩
        · have q := hd (bn.out (.inr h1))
          clear bn bg
          generalize ac ⟨x, y, s⟩ = m at *
          go_wp2_with fail
          refine (P.out _).mono ?_
          rintro e w1 ⟨rfl, hb1⟩
          go_wp2
          go_ret
          exact ⟨rB q.out, old_trans (old_trans hBB hb) hb1⟩
        · have q := hd (bg.out (by omega))
          clear bn bg
          generalize ac ⟨x, y, s⟩ = m at *
          go_wp2_with fail
          refine (P.out _).mono ?_
          rintro e w1 ⟨rfl, hb1⟩
          go_wp2
          go_roundw
          case rel => exact ⟨k + 1, r - m + 1, by omega, by go_num, by go_num, by omega, by omega, q.out, old_trans hb hb1⟩
          case measure => simp [intOf]; omega
      · have q := hd (bn.out (.inl (by omega)))
        have h0' : ac ⟨x, y, s⟩ < 0 := by omega
        clear bn bg
        generalize ac ⟨x, y, s⟩ = m at *
        go_wp2_with fail
        refine (P.out _).mono ?_
        rintro e w1 ⟨rfl, hb1⟩
        go_wp2
        go_ret
        exact ⟨rB q.out, old_trans (old_trans hBB hb) hb1⟩
    · obtain rfl : k = len := by omega
      have hlt' : ¬ (k : Int) < (k : Int) := by omega
      rw [List.drop_eq_nil_of_le (by omega)] at hrun
      have q := hd (eS.out r hrun)
      clear hrun
      go_wp2
      go_ret
      exact ⟨rB q.out, old_trans hBB hb⟩
end Go.Proofs.YtknibhdnbkmkiaaDoor

/- A law's own copy of a term, as nodes that lie somewhere. Conditions: lists of 2^20 nodes at most. -/
namespace Go.Proofs.YtknibhdnbkmkiaaDoor
open Go.RowKit
set_option linter.unusedVariables false
set_option maxRecDepth 100000

theorem InN.al {w : World} {a : Option Addr} {len cap : Nat} {xs : List Tn} (h : InN w a len cap xs) (o : Obj) : InN (w.alloc o) a len cap xs := h.old ((Below.refl _ _).alloc (Nat.le_refl _) o)
theorem InN.dr {w : World} {a : Option Addr} {len cap : Nat} {xs : List Tn} (h : InN w a len cap xs) : InN w.drew a len cap xs := h.old (Below.refl _ _).drew
theorem toTermI (a : Option Addr) (cap : Nat) (xs : List Tn) (w : World) (hR : InN w a xs.length cap xs) (hl : xs.length ≤ 1048576) :
    Calls Tryd.prog 6 #[.agg #[.slice a xs.length cap]] w fun e w' => (∃ b, e = .returned (.agg #[.slice (some ⟨b, 0, none⟩) xs.length xs.length]) ∧ w.heap.size ≤ b ∧ InN w' (some ⟨b, 0, none⟩) xs.length xs.length xs) ∧ Below w.heap.size w w' := by
  refine (lToTerm a xs.length cap xs w hR hl).mono ?_
  rintro e w' ⟨⟨b, he, hb, hr⟩, h⟩
  exact ⟨⟨b, he, hb, hr.inN hR.2.2.2.1 (Nat.le_refl _) (Nat.le_trans hR.2.1 hR.2.2.1)⟩, h⟩
end Go.Proofs.YtknibhdnbkmkiaaDoor

/- Where the parts of a term end, and the trees that they are: mathematics alone. No condition. -/
namespace Go.Proofs.YtknibhdnbkmkiaaDoor
open Go.RowKit
set_option linter.unusedVariables false
set_option maxRecDepth 100000

/-- how many parts the node at a place is made of -/
def cn (xs : List Tn) (i : Nat) : Nat := (ac (xs.getD i tn0)).toNat
/-- the ends of the wholes that stand behind so many nodes, the last one first -/
def pst (xs : List Tn) : Nat → List Nat
  | 0 => []
  | k + 1 => k :: (pst xs k).drop (cn xs k)
theorem pst_len (xs : List Tn) (k : Nat) : (pst xs (k + 1)).length = (pst xs k).length - cn xs k + 1 := by simp [pst]
theorem run_pst {xs : List Tn} (h : runT xs 0 = some 1) : ∀ k, k ≤ xs.length → runT (xs.drop k) ((pst xs k).length : Int) = some 1 := by
  intro k
  induction k with
  | zero => intro _; exact h
  | succ k ih =>
    intro hk
    have i1 := ih (by omega)
    rw [drop_at (by omega)] at i1
    by_cases g : ac (xs.getD k tn0) < 0 ∨ ((pst xs k).length : Int) < ac (xs.getD k tn0)
    · rw [runT_no g] at i1; cases i1
    · rw [runT_go g] at i1
      rw [pst_len]
      have e : (((pst xs k).length - cn xs k + 1 : Nat) : Int) = ((pst xs k).length : Int) - ac (xs.getD k tn0) + 1 := by unfold cn; omega
      rw [e]; exact i1
theorem okT_in {xs : List Tn} (h : okT xs = true) : xs.length ≤ 100 ∧ runT xs 0 = some 1 := by
  unfold okT at h
  rw [Bool.and_eq_true, decide_eq_true_eq, beq_iff_eq] at h
  exact h
theorem okT_at {xs : List Tn} (h : okT xs = true) {k : Nat} (hk : k < xs.length) : ac (xs.getD k tn0) = (cn xs k : Int) ∧ cn xs k ≤ (pst xs k).length := by
  have i1 := run_pst (okT_in h).2 k (by omega)
  rw [drop_at (by omega)] at i1
  by_cases g : ac (xs.getD k tn0) < 0 ∨ ((pst xs k).length : Int) < ac (xs.getD k tn0)
  · rw [runT_no g] at i1; cases i1
  · unfold cn; omega
theorem okT_end {xs : List Tn} (h : okT xs = true) : (pst xs xs.length).length = 1 := by
  have i1 := run_pst (okT_in h).2 xs.length (Nat.le_refl _)
  rw [List.drop_eq_nil_of_le (Nat.le_refl _)] at i1
  unfold runT at i1
  injection i1 with i1
  omega
theorem okT_pos {xs : List Tn} (h : okT xs = true) : 0 < xs.length := by
  have := okT_end h
  rcases Nat.eq_zero_or_pos xs.length with g | g
  · rw [g] at this; simp [pst] at this
  · exact g
theorem pst_suf {xs : List Tn} (k : Nat) : ∀ b r, (b :: r) <:+ pst xs k → b < k ∧ pst xs (b + 1) = b :: r := by
  induction k with
  | zero => intro b r h; simp [pst] at h
  | succ k ih =>
    intro b r h
    unfold pst at h
    rcases List.suffix_cons_iff.1 h with g | g
    · injection g with g1 g2
      subst g1 g2
      exact ⟨by omega, rfl⟩
    · obtain ⟨h1, h2⟩ := ih b r (g.trans (List.drop_suffix _ _))
      exact ⟨by omega, h2⟩
/-- where the part begins that stands on these wholes -/
def beg : List Nat → Nat
  | [] => 0
  | b :: _ => b + 1
theorem pst_beg {xs : List Tn} {k : Nat} {r : List Nat} (h : r <:+ pst xs k) : pst xs (beg r) = r ∧ beg r ≤ k := by
  cases r with
  | nil => exact ⟨rfl, Nat.zero_le _⟩
  | cons b r => obtain ⟨h1, h2⟩ := pst_suf k b r h; exact ⟨h2, h1⟩
theorem pst_up {xs : List Tn} {k : Nat} {r : List Nat} (h : r <:+ pst xs k) (n : Nat) : ∀ j, j + n = k → beg r ≤ j → r <:+ pst xs j := by
  induction n with
  | zero => intro j hj _; obtain rfl : j = k := by omega
            exact h
  | succ n ih =>
    intro j hj hb
    have g := ih (j + 1) (by omega) (by omega)
    unfold pst at g
    rcases List.suffix_cons_iff.1 g with g | g
    · rw [g] at hb; simp [beg] at hb; omega
    · exact g.trans (List.drop_suffix _ _)
theorem pst_gt {xs : List Tn} {k : Nat} {r : List Nat} (h : r <:+ pst xs k) {j : Nat} (hj : beg r < j) (hk : j ≤ k) : r.length < (pst xs j).length := by
  have g := pst_up h (k - j) j (by omega) (by omega)
  obtain ⟨i, rfl⟩ : ∃ i, j = i + 1 := ⟨j - 1, by omega⟩
  unfold pst at g ⊢
  rcases List.suffix_cons_iff.1 g with g | g
  · rw [g] at hj; simp [beg] at hj
  · have := g.length_le
    rw [List.length_cons]; omega
/-- what the part that ends at a place stands on -/
def und (xs : List Tn) (e : Nat) : List Nat := (pst xs e).drop (cn xs e)
theorem und_suf (xs : List Tn) (e : Nat) : und xs e <:+ pst xs e := List.drop_suffix _ _
theorem und_at {xs : List Tn} {k j : Nat} (hj : j < (pst xs k).length) : und xs ((pst xs k).getD j 0) = (pst xs k).drop (j + 1) ∧ (pst xs k).getD j 0 < k := by
  have e : (pst xs k).drop j = (pst xs k).getD j 0 :: (pst xs k).drop (j + 1) := by
    rw [List.drop_eq_getElem_cons hj, List.getD_eq_getElem?_getD, List.getElem?_eq_getElem hj]; rfl
  obtain ⟨h1, h2⟩ := pst_suf k _ _ (by rw [← e]; exact List.drop_suffix _ _)
  have h3 : (pst xs k).getD j 0 :: und xs ((pst xs k).getD j 0) = (pst xs k).getD j 0 :: (pst xs k).drop (j + 1) := h2
  exact ⟨(List.cons.inj h3).2, h1⟩
theorem und_beg {xs : List Tn} {k j : Nat} (hj : j + 1 < (pst xs k).length) : beg (und xs ((pst xs k).getD j 0)) = (pst xs k).getD (j + 1) 0 + 1 := by
  rw [(und_at (by omega)).1, List.drop_eq_getElem_cons hj, List.getD_eq_getElem?_getD, List.getElem?_eq_getElem hj]
  rfl
/-- the ends of the parts of the node at a place, in order -/
def prts (xs : List Tn) (at_ : Nat) : List Nat := ((pst xs at_).take (cn xs at_)).reverse
theorem prts_lt {xs : List Tn} {k i : Nat} (hi : i < (prts xs k).length) : (prts xs k).getD i 0 < k := by
  unfold prts at hi ⊢
  rw [List.length_reverse, List.length_take] at hi
  have h2 : ((pst xs k).take (cn xs k)).length = min (cn xs k) (pst xs k).length := List.length_take ..
  rw [List.getD_eq_getElem?_getD, List.getElem?_reverse (by omega), List.getElem?_take_of_lt (by omega)]
  have := (und_at (xs := xs) (k := k) (j := ((pst xs k).take (cn xs k)).length - 1 - i) (by omega)).2
  rw [List.getD_eq_getElem?_getD] at this
  exact this
/-- a node with the parts that it is made of -/
inductive Tr where
  | mk (n : Tn) (ps : List Tr) : Tr
mutual
def Tr.dep : Tr → Nat
  | .mk _ ps => depL ps + 1
def depL : List Tr → Nat
  | [] => 0
  | t :: ts => max t.dep (depL ts)
end
theorem depL_snoc (l : List Tr) (t : Tr) : depL (l ++ [t]) = max (depL l) t.dep := by
  induction l with
  | nil => simp [depL]
  | cons x l ih => simp only [List.cons_append, depL, ih]; omega
theorem depL_take {l : List Tr} {i : Nat} {t : Tr} (h : l[i]? = some t) : depL (l.take (i + 1)) = max (depL (l.take i)) t.dep := by
  rw [List.take_add_one, h]
  exact depL_snoc _ _
/-- the trees of the wholes that stand behind so many nodes, the last one first -/
def tst (xs : List Tn) : Nat → List Tr
  | 0 => []
  | k + 1 => .mk (xs.getD k tn0) ((tst xs k).take (cn xs k)).reverse :: (tst xs k).drop (cn xs k)
def tr (xs : List Tn) (i : Nat) : Tr := .mk (xs.getD i tn0) ((tst xs i).take (cn xs i)).reverse
theorem tst_map (xs : List Tn) (k : Nat) : tst xs k = (pst xs k).map (tr xs) := by
  induction k with
  | zero => rfl
  | succ k ih =>
    show tr xs k :: (tst xs k).drop (cn xs k) = _
    rw [ih, pst, List.map_cons, List.map_drop]
theorem tr_eq (xs : List Tn) (i : Nat) : tr xs i = .mk (xs.getD i tn0) ((prts xs i).map (tr xs)) := by
  rw [show tr xs i = .mk (xs.getD i tn0) ((tst xs i).take (cn xs i)).reverse from rfl, tst_map]
  unfold prts
  rw [List.map_reverse, List.map_take]
theorem tst_len (xs : List Tn) (k : Nat) : (tst xs k).length = (pst xs k).length := by rw [tst_map, List.length_map]
theorem okT_tr {xs : List Tn} (h : okT xs = true) : tst xs xs.length = [tr xs (xs.length - 1)] := by
  have h1 := okT_end h
  have h2 := okT_pos h
  obtain ⟨n, hn⟩ : ∃ n, xs.length = n + 1 := ⟨xs.length - 1, by omega⟩
  rw [hn] at h1 ⊢
  rw [← tst_len] at h1
  show tr xs n :: (tst xs n).drop (cn xs n) = _
  have h3 : (tr xs n :: (tst xs n).drop (cn xs n)).length = 1 := h1
  rw [List.length_cons] at h3
  rw [List.length_eq_zero_iff.1 (show ((tst xs n).drop (cn xs n)).length = 0 by omega)]
  rfl
def depT (xs : List Tn) : Nat := if okT xs = true then (tr xs (xs.length - 1)).dep else 0
end Go.Proofs.YtknibhdnbkmkiaaDoor

/- Where the part of a term begins that ends at a place, and the ends of its parts, by the specification. Nothing that was there is written. -/
namespace Go.Proofs.YtknibhdnbkmkiaaDoor
open Go.RowKit
set_option linter.unusedVariables false
set_option maxRecDepth 100000

theorem pst_le (xs : List Tn) (k : Nat) : (pst xs k).length ≤ k := by
  induction k with
  | zero => simp [pst]
  | succ k ih => rw [pst_len]; omega
set_option maxHeartbeats 4000000 in
theorem sStart (a : Option Addr) (len cap : Nat) (xs : List Tn) (e : Nat) (w : World) (hR : InN w a len cap xs) (hok : okT xs = true) (he : e < len) :
    Calls Tryd.prog 30 #[.agg #[.slice a len cap], .int .i64 (e : Int)] w fun ev w' => ev = .returned (.int .i64 ((beg (und xs e) : Nat) : Int)) ∧ Below w.heap.size w w' := by
  have hp := hR.1
  have hl := (okT_in hok).1
  have hb1 := pst_beg (und_suf xs e)
  have hgt := hd (fun j h1 h2 => pst_gt (j := j) (und_suf xs e) h1 h2)
  have hst : (pst xs (beg (und xs e))).length = (und xs e).length := by rw [hb1.1]
  have hbe := hb1.2
  have hee : ((pst xs (e + 1)).length : Int) - ((und xs e).length : Int) = 1 := by
    show (((e :: und xs e : List Nat).length : Nat) : Int) - _ = 1
    rw [List.length_cons]; omega
  have hul : (und xs e).length ≤ e := Nat.le_trans (und_suf xs e).length_le (pst_le xs e)
  have hok' := hd hok
  clear hb1 hok
  generalize beg (und xs e) = b0 at *
  generalize (und xs e).length = L at *
  have K0 := CS.made w _ rfl #[.slice a len cap] 29
  have hBB : Below w.heap.size w (w.alloc (.cells #[.slice a len cap] 29)) := old_alloc (Below.refl _ _) _
  go_enter Tryd.func30, Tryd.ntmps30
  go_wp2
  generalize w.alloc (.cells #[.slice a len cap] 29) = W0 at *
  go_loopw [5, 6] (fun m i wr => ∃ (j : Nat), b0 ≤ j ∧ j ≤ e ∧ i = .int .i64 j ∧ m = .int .i64 (((pst xs (j + 1)).length : Int) - (L : Int)) ∧ Below W0.heap.size W0 wr) (fun _ i _ => (intOf i).toNat)
  case atStart => exact ⟨e, hbe, Nat.le_refl _, rfl, by rw [hee], Below.refl _ _⟩
  case round =>
    obtain ⟨j, hj0, hj1, rfl, rfl, hb⟩ := hrel
    have m0 := (K0.later hb).cell 0 _ rfl
    obtain ⟨b, off, x, y, s, rfl, hbl, hx, hf, c0, c1, c2⟩ := ((hR.old hBB).old hb).at (show j < len by omega)
    have P := hd (sArgs x y s hf.2.2)
    have hc := okT_at hok'.out (k := j) (by omega)
    rw [hx] at hc
    rw [hc.1] at P
    have hle := pst_le xs j
    have hM : ((pst xs (j + 1)).length : Int) - (L : Int) - 1 + (cn xs j : Int) = ((pst xs j).length : Int) - (L : Int) := by rw [pst_len]; omega
    have hM1 : ((pst xs (j + 1)).length : Int) - (L : Int) ≤ 200 ∧ -200 ≤ ((pst xs (j + 1)).length : Int) - (L : Int) := by have := pst_le xs (j + 1); omega
    have hcn : (cn xs j : Int) ≤ 100 := by omega
    have hcn0 : 0 ≤ (cn xs j : Int) := by omega
    by_cases hje : j = b0
    · subst hje
      have hz : ((pst xs j).length : Int) - (L : Int) = 0 := by omega
      rw [hz] at hM
      clear hc hx hf hz hle
      generalize ((pst xs (j + 1)).length : Int) - (L : Int) = M at *
      generalize (cn xs j : Int) = c at *
      go_wp2_with fail
      refine (P.out _).mono ?_
      rintro e w1 ⟨rfl, hb1⟩
      go_wp2
      go_ret
      exact ⟨rfl, old_trans (old_trans hBB hb) hb1⟩
    · have hz := hgt.out j (by omega) hj1
      have hz2 : ¬ ((pst xs j).length : Int) - (L : Int) = 0 := by omega
      obtain ⟨i, rfl⟩ : ∃ i, j = i + 1 := ⟨j - 1, by omega⟩
      have hN : Hid (((pst xs (i + 1 + 1)).length : Int) - (L : Int) - 1 + (cn xs (i + 1) : Int) = ((pst xs (i + 1)).length : Int) - (L : Int)) := hM
      have hz3 : ¬ (((pst xs (i + 1 + 1)).length : Int) - (L : Int) - 1 + (cn xs (i + 1) : Int) = 0) := by omega
      clear hc hx hf hz hle hM hz2
      generalize ((pst xs (i + 1 + 1)).length : Int) - (L : Int) = M at *
      generalize (cn xs (i + 1) : Int) = c at *
      go_wp2_with fail
      refine (P.out _).mono ?_
      rintro e w1 ⟨rfl, hb1⟩
      go_wp2
      go_roundw
      case rel => exact ⟨i, by omega, by omega, by congr 1, by rw [hN.out], old_trans hb hb1⟩
      case measure => simp [intOf]
def iz (l : List Nat) : List Int := l.map (fun n : Nat => (n : Int))
theorem iz_len (l : List Nat) : (iz l).length = l.length := by simp [iz]
theorem iz_getD (l : List Nat) (i : Nat) (h : i < l.length) : (iz l).getD i 0 = ((l.getD i 0 : Nat) : Int) := by
  simp [iz, List.getD_eq_getElem?_getD, h]
theorem iz_snoc (l : List Nat) (n : Nat) : iz l ++ [(n : Int)] = iz (l ++ [n]) := by simp [iz]
theorem take_snocN {l : List Nat} {j : Nat} (h : j < l.length) : l.take (j + 1) = l.take j ++ [l.getD j 0] := by
  rw [List.take_add_one, List.getD_eq_getElem?_getD, List.getElem?_eq_getElem h]; rfl
theorem iz_fits {l : List Nat} (h : ∀ n ∈ l, n ≤ 1000) : IFits (iz l) := by
  intro p hp
  simp only [iz, List.mem_map] at hp
  obtain ⟨n, hn, rfl⟩ := hp
  have := h n hn
  omega
theorem pst_mem {xs : List Tn} {k n : Nat} (h : n ∈ pst xs k) : n < k := by
  obtain ⟨i, hi, rfl⟩ := List.getElem_of_mem h
  have := (und_at hi).2
  rw [List.getD_eq_getElem?_getD, List.getElem?_eq_getElem hi] at this
  exact this
end Go.Proofs.YtknibhdnbkmkiaaDoor

/- The ends of the parts of a node of a term, and how deep it is, by the specification. Nothing that was there is written. -/
namespace Go.Proofs.YtknibhdnbkmkiaaDoor
open Go.RowKit
set_option linter.unusedVariables false
set_option maxRecDepth 100000

set_option maxRecDepth 100000 in
set_option maxHeartbeats 4000000 in
theorem sParts (a : Option Addr) (len cap : Nat) (xs : List Tn) (e : Nat) (w : World) (hR : InN w a len cap xs) (hok : okT xs = true) (he : e < len) :
    Calls Tryd.prog 19 #[.agg #[.slice a len cap], .int .i64 (e : Int)] w fun ev w' => (∃ av cv, ev = .returned (.slice av (prts xs e).length cv) ∧ OI w' w.heap.size av cv (iz (prts xs e))) ∧ Below w.heap.size w w' := by
  obtain ⟨i0, hi, hz0, hz1, hz2⟩ := info_parts infoInt
  have hp := hR.1
  have hl := (okT_in hok).1
  have hc := okT_at hok (k := e) (by omega)
  have ST := hd (fun q w' (h : Below w.heap.size w w') (hq : q < len) => sStart a len cap xs q w' (hR.old h) hok hq)
  have hfit : Hid (∀ l : List Nat, (∀ n ∈ l, n ∈ pst xs e) → IFits (iz l)) := fun l h => iz_fits (fun n hn => by have := pst_mem (h n hn); omega)
  have hub := hd (fun j h => und_beg (xs := xs) (k := e) (j := j) h)
  have hul := hd (fun j (h : j < (pst xs e).length) => (und_at (xs := xs) (k := e) (j := j) h).2)
  have hbl := hd (fun q => (pst_beg (und_suf xs q)).2)
  have hpl := pst_le xs e
  have hs0 : 0 < cn xs e → (e : Int) - 1 = (((pst xs e).getD 0 0 : Nat) : Int) := by
    intro h
    obtain ⟨q, rfl⟩ : ∃ q, e = q + 1 := ⟨e - 1, by have := pst_le xs e; omega⟩
    simp [pst]
  have hs0' := hd hs0
  have hprl : (prts xs e).length = cn xs e := by unfold prts; rw [List.length_reverse, List.length_take]; omega
  have hprg : Hid (∀ n, n < cn xs e → (prts xs e).getD n 0 = ((pst xs e).take (cn xs e)).getD (cn xs e - 1 - n) 0) := fun n hn => by
    unfold prts
    rw [List.getD_eq_getElem?_getD, List.getElem?_reverse (by rw [List.length_take]; omega), List.length_take, Nat.min_eq_left (by omega), List.getD_eq_getElem?_getD]
  have hx0 := hc.1
  have hc2 := hc.2
  clear hc hs0 hok
  have K0 := CS.made w _ rfl #[.slice a len cap] 29
  have hBB : Below w.heap.size w (w.alloc (.cells #[.slice a len cap] 29)) := old_alloc (Below.refl _ _) _
  go_enter Tryd.func19, Tryd.ntmps19
  have m0 := K0.cell 0 _ rfl
  obtain ⟨b, off, x, y, s, rfl, hbl0, hx, hf, c0, c1, c2⟩ := (hR.old hBB).at he
  have P := hd (sArgs x y s hf.2.2)
  rw [hx] at hx0
  rw [hx0] at P
  clear hx0 hx hf
  generalize hcn : cn xs e = c at *
  generalize hW0 : w.alloc (.cells #[.slice (some ⟨b, off, none⟩) len cap] 29) = W0 at *
  go_wp2_with fail
  refine (P.out _).mono ?_
  rintro ev w1 ⟨rfl, hb1⟩
  have hB1 := old_trans hBB hb1
  have K1 := K0.later hb1
  clear P m0 c0 c1 c2 hb1
  clear hW0 K0
  go_wp2_with fail
  go_loopw [5, 6, 7] (fun o q k wr => ∃ (j : Nat) (E : Int), j ≤ c ∧ k = .int .i64 ((c : Int) - (j : Int)) ∧ q = .int .i64 E ∧ (j < c → E = (((pst xs e).getD j 0 : Nat) : Int)) ∧ (-1 ≤ E ∧ E ≤ 100) ∧ IGrows wr w1.heap.size o (iz ((pst xs e).take j)) ∧ Below w1.heap.size w1 wr) (fun _ _ k _ => (intOf k).toNat)
  case atStart => exact ⟨0, (e : Int) - 1, by omega, by congr 1, rfl, fun h => hs0'.out h, by omega, IGrows.nil _ _, Below.refl _ _⟩
  case round =>
    obtain ⟨j, E, hj, rfl, rfl, hE, hEb, G, hb⟩ := hrel
    have hBw := old_trans hB1 hb
    have hsz := hBw.size
    have hsz1 := hb.size
    have Kr := K1.later hb
    have m0 := Kr.cell 0 _ rfl
    have htl : (iz ((pst xs e).take j)).length = j := by rw [iz_len, List.length_take]; omega
    by_cases hlt : j < c
    · obtain rfl := hE hlt
      have hq := hul.out j (by omega)
      have hS := hd (ST.out ((pst xs e).getD j 0) _ (old_alloc hBw (.cells #[.int .i64 (((pst xs e).getD j 0 : Nat) : Int)] 3)) (by omega))
      have hS2 := hd (ST.out ((pst xs e).getD j 0))
      have hbg := hbl.out ((pst xs e).getD j 0)
      have hub' : Hid (j + 1 < c → ((beg (und xs ((pst xs e).getD j 0)) : Nat) : Int) - 1 = (((pst xs e).getD (j + 1) 0 : Nat) : Int)) := fun h => by rw [hub.out j (by omega)]; omega
      have hsn : Hid (iz ((pst xs e).take j) ++ [(((pst xs e).getD j 0 : Nat) : Int)] = iz ((pst xs e).take (j + 1))) := by show _ = _; rw [iz_snoc, take_snocN (by omega)]
      have hkp : ((c : Int) - (j : Int)) > 0 := by omega
      clear hE hS
      generalize (pst xs e).getD j 0 = Q at *
      generalize beg (und xs Q) = Z at *
      have hQ : (Q : Int) < (len : Int) := by omega
      have hZ : (Z : Int) ≤ 100 := by omega
      have G2 := G.alloc (.cells #[.int .i64 (Q : Int)] 3)
      have B2 : Below w.heap.size w (wr.alloc (.cells #[.int .i64 (Q : Int)] 3)) := old_alloc hBw _
      have B3 : Below w1.heap.size w1 (wr.alloc (.cells #[.int .i64 (Q : Int)] 3)) := old_alloc hb _
      have cw := cells_one wr wr.heap.size rfl (.int .i64 (Q : Int)) 3
      go_wp2_with (at_builtin; go_loud (refine wpList_append_own _ rfl _ _ 49 rfl w1.heap.size 3 i0 _ 1 8 Tryd.underlying49 hi hz0 hz1 hz2 rfl (by decide) _ _ _ rfl G2 ⟨_, 0, none⟩ 1 1 [.int .i64 (Q : Int)] rfl rfl cw (by simp [Value.oneCell']) (by rw [htl]; unfold maxLen; omega) (by rw [htl]; omega) (by simp; omega) ?_; intro v' w5 hown hgrow _; have B5 : Below w1.heap.size w1 w5 := B3.grown hgrow B3.size (fun c e => by have := (World.ownsRow.lt G2 c e).1; omega); have m5 := (K1.later B5).cell 0 _ rfl; have G5 : IGrows w5 w1.heap.size v' (iz ((pst xs e).take j) ++ [(Q : Int)]) := (by unfold IGrows; rw [ints_snoc, List.length_append]; exact hown)))
      refine (hS2.out _ (old_trans hB1 B5) (by omega)).mono ?_
      rintro ev w6 ⟨rfl, hb6⟩
      have s1 := hB1.size
      go_wp2
      go_roundw
      case rel => exact ⟨j + 1, (Z : Int) - 1, by omega, by congr 1; omega, rfl, fun h => hub'.out h, by omega, by rw [← hsn.out]; exact G5.later hb6, old_trans B5 hb6⟩
      case measure => simp [intOf]; omega
    · obtain rfl : j = c := by omega
      have hkz : ¬ ((j : Int) - (j : Int) > 0) := by omega
      clear hE ST hub hul hbl hs0' m0
      have GO := G.oi (hfit.out _ (fun n hn => List.mem_of_mem_take hn))
      obtain ⟨av, cv, rfl, hO⟩ := GO
      rw [htl]
      clear G htl
      have hB9 := hBw
      have hs9 := hB9.size
      generalize hpl9 : (pst xs e).take j = pl at *
      have hpll : pl.length = j := by rw [← hpl9, List.length_take]; omega
      obtain ⟨W2, hW2⟩ : ∃ W2, W2 = wr := ⟨_, rfl⟩
      subst hW2
      go_wp2_with fail
      go_loopw [8, 9] (fun o i wr => ∃ (n : Nat), n ≤ j ∧ i = .int .i64 ((j : Int) - 1 - (n : Int)) ∧ IGrows wr W2.heap.size o (iz ((prts xs e).take n)) ∧ Below W2.heap.size W2 wr) (fun _ i _ => (intOf i + 1).toNat)
      case atStart => exact ⟨0, by omega, by congr 1; omega, IGrows.nil _ _, Below.refl _ _⟩
      case round =>
        obtain ⟨n, hn, rfl, G, hb2⟩ := hrel
        have htl : (iz ((prts xs e).take n)).length = n := by rw [iz_len, List.length_take]; omega
        have hs2 := hb2.size
        by_cases hlt2 : n < j
        · obtain ⟨bq, oq, Q, rfl, -, hQ, hQb, cQ⟩ := (hO.later hb2).inI.at (k := j - 1 - n) (by rw [iz_len]; omega)
          have hsn : Hid (iz ((prts xs e).take n) ++ [Q] = iz ((prts xs e).take (n + 1))) := by
            show _ = _
            rw [take_snocN (by omega), ← iz_snoc, hprg.out n hlt2, ← hQ, iz_getD _ _ (by omega)]
          have hidx : ((j : Int) - 1 - (n : Int)) = ((j - 1 - n : Nat) : Int) := by omega
          have hge : ((j : Int) - 1 - (n : Int)) ≥ 0 := by omega
          rw [hidx] at hge
          rw [hidx]
          have hmm : Hid ((((j - 1 - n : Nat) : Int) - 1) = (j : Int) - 1 - ((n + 1 : Nat) : Int)) := by show _ = _; omega
          have hjl : j - 1 - n < (iz pl).length := by rw [iz_len]; omega
          rw [show (iz pl).length = j by rw [iz_len, hpll]] at hjl
          generalize j - 1 - n = I at *
          have G2 := G.alloc (.cells #[.int .i64 Q] 3)
          have B2 : Below W2.heap.size W2 (wr.alloc (.cells #[.int .i64 Q] 3)) := old_alloc hb2 _
          have cw := cells_one wr wr.heap.size rfl (.int .i64 Q) 3
          clear hidx hQ
          go_wp2_with (at_builtin; refine wpList_append_own _ rfl _ _ 49 rfl W2.heap.size 3 i0 _ 1 8 Tryd.underlying49 hi hz0 hz1 hz2 rfl (by decide) _ _ _ rfl G2 ⟨_, 0, none⟩ 1 1 [.int .i64 Q] rfl rfl cw (by simp [Value.oneCell']) (by rw [htl]; unfold maxLen; omega) (by rw [htl]; omega) (by simp; omega) ?_; intro v' w5 hown hgrow _)
          go_roundw
          case rel =>
            refine ⟨n + 1, by omega, by rw [hmm.out], ?_, B2.grown hgrow B2.size (fun c e => by have := (World.ownsRow.lt G2 c e).1; omega)⟩
            rw [← hsn.out]
            unfold IGrows
            rw [ints_snoc, List.length_append]
            exact hown
          case measure => simp [intOf]
        · obtain rfl : n = j := by omega
          have hneg : ¬ ((n : Int) - 1 - (n : Int) ≥ 0) := by omega
          rw [show (n : Int) - 1 - (n : Int) = -1 by omega]
          have hfull : (prts xs e).take n = prts xs e := List.take_of_length_le (by omega)
          rw [hfull] at G
          obtain ⟨av2, cv2, rfl, hO2⟩ := G.oi (hfit.out _ (fun m hm => by unfold prts at hm; rw [List.mem_reverse] at hm; exact List.mem_of_mem_take hm))
          rw [iz_len]
          go_wp2
          go_ret
          exact ⟨⟨_, _, rfl, hO2.mono hs9⟩, old_trans hB9 hb2⟩
end Go.Proofs.YtknibhdnbkmkiaaDoor

/- Trees behind the interface termTree in memory, and how deep they are, by the program. Nothing that was there is written. -/
namespace Go.Proofs.YtknibhdnbkmkiaaDoor
open Go.RowKit
set_option linter.unusedVariables false
set_option maxRecDepth 100000

/-- the sign and the level of a joint -/
def rowOf (k : Int) : Option (ByteArray × Int) :=
  if k = 4 then some (⟨#[43]⟩, 0) else if k = 5 then some (⟨#[45]⟩, 0) else if k = 6 then some (⟨#[42]⟩, 1) else if k = 7 then some (⟨#[47]⟩, 1) else none
/-- the word of a call of the language -/
def wordOf (k : Int) : Option ByteArray :=
  if k = 9 then some ⟨#[115, 113, 114, 116]⟩ else if k = 10 then some ⟨#[97, 98, 115]⟩ else if k = 11 then some ⟨#[109, 105, 110]⟩ else if k = 12 then some ⟨#[109, 97, 120]⟩ else none
/-- a value is a tree -/
inductive TV (w : World) (g : Option Nat) : Tr → Value → Prop
  | leaf (n : Tn) (hk : n.k = 1 ∨ n.k = 2) : TV w g (.mk n []) (.iface 86 (.agg #[.int .i64 n.k, .string n.s]))
  | minus (n : Tn) (t : Tr) (v : Value) (hk : n.k = 3) (h : TV w g t v) : TV w g (.mk n [t]) (.iface 65 (.agg #[v]))
  | raised (n : Tn) (t : Tr) (v : Value) (hk : n.k = 8) (h : TV w g t v) : TV w g (.mk n [t]) (.iface 67 (.agg #[v, .int .i64 n.n]))
  | joint (n : Tn) (t u : Tr) (v v' : Value) (sg : ByteArray) (lv : Int) (hk : rowOf n.k = some (sg, lv)) (h : TV w g t v) (h' : TV w g u v') : TV w g (.mk n [t, u]) (.iface 78 (.agg #[.int .i64 n.k, .string sg, .int .i64 lv, v, v']))
  | named (n : Tn) (ps : List Tr) (b off cap : Nat) (vs : Nat → Value) (hk : n.k = 13) (hm : ps.length ≤ 6) (hcap : ps.length ≤ cap ∧ cap ≤ maxLen) (hb : b < w.heap.size) (hq : some b ≠ g) (hc : ∀ i, i < ps.length → w.cell? ⟨b, off + i, none⟩ = some (vs i)) (h : ∀ i (hi : i < ps.length), TV w g ps[i] (vs i)) : TV w g (.mk n ps) (.iface 72 (.agg #[.string n.s, .slice (some ⟨b, off, none⟩) ps.length cap]))
  | own (n : Tn) (ps : List Tr) (b off cap : Nat) (vs : Nat → Value) (wd : ByteArray) (hk : wordOf n.k = some wd) (hm : ps.length ≤ 6) (hcap : ps.length ≤ cap ∧ cap ≤ maxLen) (hb : b < w.heap.size) (hq : some b ≠ g) (hc : ∀ i, i < ps.length → w.cell? ⟨b, off + i, none⟩ = some (vs i)) (h : ∀ i (hi : i < ps.length), TV w g ps[i] (vs i)) : TV w g (.mk n ps) (.iface 84 (.agg #[.string wd, .slice (some ⟨b, off, none⟩) ps.length cap, .int .i64 n.k]))
theorem TV.old {w w' : World} {g : Option Nat} {t : Tr} {v : Value} (h : TV w g t v) (k : Below w.heap.size w w') : TV w' g t v := by
  induction h with
  | leaf n hk => exact .leaf n hk
  | minus n t v hk h ih => exact .minus n t v hk ih
  | raised n t v hk h ih => exact .raised n t v hk ih
  | joint n t u v v' sg lv hk h h' ih ih' => exact .joint n t u v v' sg lv hk ih ih'
  | named n ps b off cap vs hk hm hcap hb hq hc h ih => exact .named n ps b off cap vs hk hm hcap (Nat.lt_of_lt_of_le hb k.size) hq (fun i hi => (k.cell (p := ⟨b, off + i, none⟩) hb).trans (hc i hi)) ih
  | own n ps b off cap vs wd hk hm hcap hb hq hc h ih => exact .own n ps b off cap vs wd hk hm hcap (Nat.lt_of_lt_of_le hb k.size) hq (fun i hi => (k.cell (p := ⟨b, off + i, none⟩) hb).trans (hc i hi)) ih
/-- a tree behind a row that grew -/
theorem TV.kept {w w' : World} {g g' : Option Nat} {t : Tr} {v : Value} (h : TV w g t v) (k : w.grownBy w' g) (hg : g' = g ∨ ∃ q, g' = some q ∧ w.heap.size ≤ q) : TV w' g' t v := by
  have far : ∀ b, b < w.heap.size → some b ≠ g → some b ≠ g' := by
    intro b h1 h2
    rcases hg with rfl | ⟨q, rfl, hq⟩
    · exact h2
    · intro e; injection e with e; omega
  induction h with
  | leaf n hk => exact .leaf n hk
  | minus n t v hk h ih => exact .minus n t v hk ih
  | raised n t v hk h ih => exact .raised n t v hk ih
  | joint n t u v v' sg lv hk h h' ih ih' => exact .joint n t u v v' sg lv hk ih ih'
  | named n ps b off cap vs hk hm hcap hb hq hc h ih => exact .named n ps b off cap vs hk hm hcap (Nat.lt_of_lt_of_le hb k.size) (far b hb hq) (fun i hi => k.cell (hc i hi) hq) ih
  | own n ps b off cap vs wd hk hm hcap hb hq hc h ih => exact .own n ps b off cap vs wd hk hm hcap (Nat.lt_of_lt_of_le hb k.size) (far b hb hq) (fun i hi => k.cell (hc i hi) hq) ih
/-- values stand in a row -/
def PSl (w : World) (av : Option Addr) (m : Nat) (vs : Nat → Value) : Prop := m = 0 ∨ ∃ b off : Nat, av = some ⟨b, off, none⟩ ∧ b < w.heap.size ∧ ∀ i, i < m → w.cell? ⟨b, off + i, none⟩ = some (vs i)
theorem PSl.later {w w' : World} {av : Option Addr} {m : Nat} {vs : Nat → Value} (h : PSl w av m vs) (k : Below w.heap.size w w') : PSl w' av m vs := by
  rcases h with h | ⟨b, off, h1, h2, h3⟩
  · exact .inl h
  · exact .inr ⟨b, off, h1, Nat.lt_of_lt_of_le h2 k.size, fun i hi => (k.cell (p := ⟨b, off + i, none⟩) h2).trans (h3 i hi)⟩
theorem PSl.at {w : World} {av : Option Addr} {m : Nat} {vs : Nat → Value} (h : PSl w av m vs) {i : Nat} (hi : i < m) : ∃ b off : Nat, av = some ⟨b, off, none⟩ ∧ b < w.heap.size ∧ w.cell? ⟨b, off + i, none⟩ = some (vs i) := by
  rcases h with h | ⟨b, off, h1, h2, h3⟩
  · omega
  · exact ⟨b, off, h1, h2, h3 i hi⟩
theorem TV.iface {w : World} {g : Option Nat} {t : Tr} {v : Value} (h : TV w g t v) : ∃ (ty : TypeId) (u : Value), v = .iface ty u := by cases h <;> exact ⟨_, _, rfl⟩
end Go.Proofs.YtknibhdnbkmkiaaDoor

/- The text of a tree, and how long it is: mathematics alone. No condition. -/
namespace Go.Proofs.YtknibhdnbkmkiaaDoor
open Go.RowKit
set_option linter.unusedVariables false
set_option maxRecDepth 100000

/-- the level of a kind of node -/
def lvK (k : Int) : Int := if k = 4 ∨ k = 5 then 0 else if k = 6 ∨ k = 7 then 1 else if k = 3 then 2 else if k = 8 then 3 else 4
def Tr.nd : Tr → Tn
  | .mk n _ => n
/-- a part with its level, as it stands where a level is wanted -/
def atT (lv : Int) (p : Int × ByteArray) : ByteArray := if p.1 < lv then (⟨#[40]⟩ ++ p.2) ++ ⟨#[41]⟩ else p.2
/-- so many texts, a comma and a blank between -/
def accJ (f : Nat → ByteArray) : Nat → ByteArray
  | 0 => ⟨#[]⟩
  | 1 => f 0
  | j + 2 => (accJ f (j + 1) ++ ⟨#[44, 32]⟩) ++ f (j + 1)
def tx0 : Int × ByteArray := (0, ⟨#[]⟩)
/-- a digit -/
def dgB (n : Int) : ByteArray := ⟨#[(48 + n.toNat).toUInt8]⟩
/-- the text of a node over those of its parts -/
def txN (n : Tn) (l : List (Int × ByteArray)) : ByteArray :=
  if n.k = 1 ∨ n.k = 2 then n.s
  else if n.k = 3 then ⟨#[45]⟩ ++ atT 2 (l.getD 0 tx0)
  else if n.k = 8 then (atT 4 (l.getD 0 tx0) ++ ⟨#[94]⟩) ++ dgB n.n
  else match rowOf n.k with
    | some (sg, lv) => (((atT lv (l.getD 0 tx0) ++ ⟨#[32]⟩) ++ sg) ++ ⟨#[32]⟩) ++ atT (lv + 1) (l.getD 1 tx0)
    | none => ((((wordOf n.k).getD n.s) ++ ⟨#[40]⟩) ++ accJ (fun i => atT 0 (l.getD i tx0)) l.length) ++ ⟨#[41]⟩
mutual
def Tr.txt : Tr → ByteArray
  | .mk n ps => txN n (txL ps)
def txL : List Tr → List (Int × ByteArray)
  | [] => []
  | t :: ts => (lvK t.nd.k, t.txt) :: txL ts
end
def Tr.tx (t : Tr) : Int × ByteArray := (lvK t.nd.k, t.txt)
theorem txL_map (l : List Tr) : txL l = l.map Tr.tx := by
  induction l with
  | nil => simp [txL]
  | cons t l ih => simp [txL, ih, Tr.tx]
theorem txt_mk (n : Tn) (ps : List Tr) : (Tr.mk n ps).txt = txN n (ps.map Tr.tx) := by rw [← txL_map]; simp [Tr.txt]
theorem lvK_nn (k : Int) : 0 ≤ lvK k := by unfold lvK; split <;> (try split) <;> (try split) <;> (try split) <;> omega
theorem at_ge (lv : Int) (p : Int × ByteArray) : p.2.size ≤ (atT lv p).size := by
  unfold atT
  split
  · rw [ByteArray.size_append, ByteArray.size_append]; omega
  · exact Nat.le_refl _
theorem at_le (lv : Int) (p : Int × ByteArray) : (atT lv p).size ≤ p.2.size + 2 := by
  unfold atT
  split
  · rw [ByteArray.size_append, ByteArray.size_append]
    have e1 : (⟨#[40]⟩ : ByteArray).size = 1 := rfl
    have e2 : (⟨#[41]⟩ : ByteArray).size = 1 := rfl
    omega
  · omega
def sumF (f : Nat → ByteArray) : Nat → Nat
  | 0 => 0
  | j + 1 => sumF f j + ((f j).size + 2)
theorem acc_succ (f : Nat → ByteArray) {j : Nat} (h : 0 < j) : accJ f (j + 1) = (accJ f j ++ ⟨#[44, 32]⟩) ++ f j := by
  obtain ⟨i, rfl⟩ : ∃ i, j = i + 1 := ⟨j - 1, by omega⟩
  rfl
theorem acc_le (f : Nat → ByteArray) (m : Nat) : (accJ f m).size ≤ sumF f m := by
  induction m with
  | zero => exact Nat.le_refl _
  | succ j ih =>
    by_cases h : 0 < j
    · rw [acc_succ f h, ByteArray.size_append, ByteArray.size_append]
      have e1 : (⟨#[44, 32]⟩ : ByteArray).size = 2 := rfl
      show _ ≤ sumF f j + ((f j).size + 2)
      omega
    · obtain rfl : j = 0 := by omega
      show (f 0).size ≤ 0 + ((f 0).size + 2)
      omega
theorem acc_mono (f : Nat → ByteArray) (m : Nat) : (accJ f m).size ≤ (accJ f (m + 1)).size := by
  by_cases h : 0 < m
  · rw [acc_succ f h, ByteArray.size_append, ByteArray.size_append]; omega
  · obtain rfl : m = 0 := by omega
    exact Nat.zero_le _
theorem acc_up (f : Nat → ByteArray) {i m : Nat} (h : i ≤ m) : (accJ f i).size ≤ (accJ f m).size := by
  induction m with
  | zero => obtain rfl : i = 0 := by omega
            exact Nat.le_refl _
  | succ m ih =>
    by_cases e : i = m + 1
    · subst e; exact Nat.le_refl _
    · exact Nat.le_trans (ih (by omega)) (acc_mono f m)
theorem acc_ge (f : Nat → ByteArray) {i m : Nat} (h : i < m) : (f i).size ≤ (accJ f m).size := by
  refine Nat.le_trans ?_ (acc_up f (show i + 1 ≤ m by omega))
  by_cases e : 0 < i
  · rw [acc_succ f e, ByteArray.size_append]; omega
  · obtain rfl : i = 0 := by omega
    exact Nat.le_refl _
theorem acc_congr {f g : Nat → ByteArray} {m : Nat} (h : ∀ i, i < m → f i = g i) : accJ f m = accJ g m := by
  induction m with
  | zero => rfl
  | succ m ih =>
    by_cases e : 0 < m
    · rw [acc_succ f e, acc_succ g e, ih (fun i hi => h i (by omega)), h m (by omega)]
    · obtain rfl : m = 0 := by omega
      exact h 0 (by omega)
/-- how long texts are, with what may stand around each -/
def sumL : List (Int × ByteArray) → Nat
  | [] => 0
  | p :: l => p.2.size + 4 + sumL l
theorem sumL_app (l m : List (Int × ByteArray)) : sumL (l ++ m) = sumL l + sumL m := by
  induction l with
  | nil => simp [sumL]
  | cons p l ih => simp only [List.cons_append, sumL, ih]; omega
theorem sumL_rev (l : List (Int × ByteArray)) : sumL l.reverse = sumL l := by
  induction l with
  | nil => rfl
  | cons p l ih => rw [List.reverse_cons, sumL_app, ih]; simp only [sumL]; omega
theorem sumF_le (l : List (Int × ByteArray)) (m : Nat) (h : m ≤ l.length) : sumF (fun i => atT 0 (l.getD i tx0)) m ≤ sumL (l.take m) := by
  induction m with
  | zero => exact Nat.zero_le _
  | succ m ih =>
    have i1 := ih (by omega)
    have e : l.take (m + 1) = l.take m ++ [l.getD m tx0] := by
      rw [List.take_add_one, List.getD_eq_getElem?_getD, List.getElem?_eq_getElem (by omega)]; rfl
    rw [e, sumL_app]
    have := at_le 0 (l.getD m tx0)
    show sumF _ m + ((atT 0 (l.getD m tx0)).size + 2) ≤ sumL (l.take m) + (_ + 4 + 0)
    omega
theorem dg_size (n : Int) : (dgB n).size = 1 := rfl
theorem row_size {k : Int} {sg : ByteArray} {lv : Int} (h : rowOf k = some (sg, lv)) : sg.size = 1 ∧ (0 ≤ lv ∧ lv ≤ 1) ∧ lvK k = lv ∧ (k = 4 ∨ k = 5 ∨ k = 6 ∨ k = 7) := by
  unfold rowOf at h
  unfold lvK
  split at h
  · injection h with h; injection h with h1 h2; subst h1 h2; refine ⟨rfl, by omega, ?_, by omega⟩; rw [if_pos (by omega)]
  · split at h
    · injection h with h; injection h with h1 h2; subst h1 h2; refine ⟨rfl, by omega, ?_, by omega⟩; rw [if_pos (by omega)]
    · split at h
      · injection h with h; injection h with h1 h2; subst h1 h2; refine ⟨rfl, by omega, ?_, by omega⟩; rw [if_neg (by omega), if_pos (by omega)]
      · split at h
        · injection h with h; injection h with h1 h2; subst h1 h2; refine ⟨rfl, by omega, ?_, by omega⟩; rw [if_neg (by omega), if_pos (by omega)]
        · cases h
theorem row_none {k : Int} (h : ¬ (k = 4 ∨ k = 5 ∨ k = 6 ∨ k = 7)) : rowOf k = none := by
  unfold rowOf
  rw [if_neg (by omega), if_neg (by omega), if_neg (by omega), if_neg (by omega)]
theorem word_size {k : Int} {wd : ByteArray} (h : wordOf k = some wd) : wd.size ≤ 4 ∧ lvK k = 4 ∧ (k = 9 ∨ k = 10 ∨ k = 11 ∨ k = 12) := by
  unfold wordOf at h
  unfold lvK
  split at h
  · injection h with h; subst h; refine ⟨by decide, ?_, by omega⟩; rw [if_neg (by omega), if_neg (by omega), if_neg (by omega), if_neg (by omega)]
  · split at h
    · injection h with h; subst h; refine ⟨by decide, ?_, by omega⟩; rw [if_neg (by omega), if_neg (by omega), if_neg (by omega), if_neg (by omega)]
    · split at h
      · injection h with h; subst h; refine ⟨by decide, ?_, by omega⟩; rw [if_neg (by omega), if_neg (by omega), if_neg (by omega), if_neg (by omega)]
      · split at h
        · injection h with h; subst h; refine ⟨by decide, ?_, by omega⟩; rw [if_neg (by omega), if_neg (by omega), if_neg (by omega), if_neg (by omega)]
        · cases h
theorem word_none {k : Int} (h : ¬ (k = 9 ∨ k = 10 ∨ k = 11 ∨ k = 12)) : wordOf k = none := by
  unfold wordOf
  rw [if_neg (by omega), if_neg (by omega), if_neg (by omega), if_neg (by omega)]
theorem tx_leaf {n : Tn} (h : n.k = 1 ∨ n.k = 2) (l : List (Int × ByteArray)) : txN n l = n.s := by unfold txN; rw [if_pos h]
theorem tx_minus {n : Tn} (h : n.k = 3) (l : List (Int × ByteArray)) : txN n l = ⟨#[45]⟩ ++ atT 2 (l.getD 0 tx0) := by unfold txN; rw [if_neg (by omega), if_pos h]
theorem tx_pow {n : Tn} (h : n.k = 8) (l : List (Int × ByteArray)) : txN n l = (atT 4 (l.getD 0 tx0) ++ ⟨#[94]⟩) ++ dgB n.n := by unfold txN; rw [if_neg (by omega), if_neg (by omega), if_pos h]
theorem tx_joint {n : Tn} {sg : ByteArray} {lv : Int} (h : rowOf n.k = some (sg, lv)) (l : List (Int × ByteArray)) : txN n l = (((atT lv (l.getD 0 tx0) ++ ⟨#[32]⟩) ++ sg) ++ ⟨#[32]⟩) ++ atT (lv + 1) (l.getD 1 tx0) := by
  have := (row_size h).2.2.2
  unfold txN
  rw [if_neg (by omega), if_neg (by omega), if_neg (by omega), h]
theorem tx_own {n : Tn} {wd : ByteArray} (h : wordOf n.k = some wd) (l : List (Int × ByteArray)) : txN n l = ((wd ++ ⟨#[40]⟩) ++ accJ (fun i => atT 0 (l.getD i tx0)) l.length) ++ ⟨#[41]⟩ := by
  have := (word_size h).2.2
  unfold txN
  rw [if_neg (by omega), if_neg (by omega), if_neg (by omega), row_none (by omega), h]
  rfl
theorem tx_named {n : Tn} (h : n.k = 13) (l : List (Int × ByteArray)) : txN n l = ((n.s ++ ⟨#[40]⟩) ++ accJ (fun i => atT 0 (l.getD i tx0)) l.length) ++ ⟨#[41]⟩ := by
  unfold txN
  rw [if_neg (by omega), if_neg (by omega), if_neg (by omega), row_none (by omega), word_none (by omega)]
  rfl
theorem name_size {s : ByteArray} (h : nameB s = true) : s.size ≤ 8 := by
  unfold nameB plainB at h
  simp only [Bool.and_eq_true, decide_eq_true_eq] at h
  exact h.1.2.1
theorem dec_size {s : ByteArray} (h : decS s = true) : s.size ≤ 60 := by
  unfold decS at h
  by_cases c : 60 < s.size
  · rw [if_pos (.inl c)] at h; cases h
  · omega
theorem node_kind {n : Tn} (h : 0 ≤ ac n) : n.k = 1 ∨ n.k = 2 ∨ n.k = 3 ∨ n.k = 8 ∨ n.k = 13 ∨ (∃ sg lv, rowOf n.k = some (sg, lv)) ∨ ∃ wd, wordOf n.k = some wd := by
  by_cases c : n.k = 4 ∨ n.k = 5 ∨ n.k = 6 ∨ n.k = 7
  · refine .inr (.inr (.inr (.inr (.inr (.inl ?_)))))
    unfold rowOf
    rcases c with c | c | c | c <;> rw [c] <;> exact ⟨_, _, rfl⟩
  · by_cases d : n.k = 9 ∨ n.k = 10 ∨ n.k = 11 ∨ n.k = 12
    · refine .inr (.inr (.inr (.inr (.inr (.inr ?_)))))
      unfold wordOf
      rcases d with d | d | d | d <;> rw [d] <;> exact ⟨_, rfl⟩
    · unfold ac at h
      by_cases e : n.k = 1 ∨ n.k = 2 ∨ n.k = 3 ∨ n.k = 8 ∨ n.k = 13
      · omega
      · rw [if_neg (by omega), if_neg (by omega), if_neg (by omega), if_neg (by omega), if_neg (by omega), if_neg (by omega)] at h
        omega
theorem node_text {n : Tn} (h : 0 ≤ ac n) : n.s.size ≤ 60 := by
  unfold ac at h
  by_cases c1 : n.k = 1
  · rw [if_pos c1] at h
    by_cases d : n.n = 0 ∧ decS n.s = true
    · exact dec_size d.2
    · rw [if_neg d] at h; omega
  rw [if_neg c1] at h
  by_cases c2 : n.k = 2
  · rw [if_pos c2] at h
    by_cases d : n.n = 0 ∧ nameB n.s = true
    · have := name_size d.2; omega
    · rw [if_neg d] at h; omega
  rw [if_neg c2] at h
  by_cases c3 : n.k = 3 ∨ n.k = 9 ∨ n.k = 10
  · rw [if_pos c3] at h
    by_cases d : n.n = 0 ∧ n.s.size = 0
    · omega
    · rw [if_neg d] at h; omega
  rw [if_neg c3] at h
  by_cases c4 : n.k = 4 ∨ n.k = 5 ∨ n.k = 6 ∨ n.k = 7 ∨ n.k = 11 ∨ n.k = 12
  · rw [if_pos c4] at h
    by_cases d : n.n = 0 ∧ n.s.size = 0
    · omega
    · rw [if_neg d] at h; omega
  rw [if_neg c4] at h
  by_cases c5 : n.k = 8
  · rw [if_pos c5] at h
    by_cases d : 0 ≤ n.n ∧ n.n ≤ 8 ∧ n.s.size = 0
    · omega
    · rw [if_neg d] at h; omega
  rw [if_neg c5] at h
  by_cases c6 : n.k = 13
  · rw [if_pos c6] at h
    by_cases d : 1 ≤ n.n ∧ n.n ≤ 6 ∧ nameB n.s = true
    · have := name_size d.2.2; omega
    · rw [if_neg d] at h; omega
  · rw [if_neg c6] at h; omega
theorem getD_sum (l : List (Int × ByteArray)) : (l.getD 0 tx0).2.size + (l.getD 1 tx0).2.size ≤ sumL l := by
  match l with
  | [] => exact Nat.le_refl _
  | [p] => show p.2.size + 0 ≤ p.2.size + 4 + 0; omega
  | p :: q :: l => show p.2.size + q.2.size ≤ p.2.size + 4 + (q.2.size + 4 + sumL l); omega
theorem tx_le {n : Tn} (h : 0 ≤ ac n) (l : List (Int × ByteArray)) : (txN n l).size + 4 ≤ 100 + sumL l := by
  have hs := node_text h
  have g := getD_sum l
  have one : ∀ b : UInt8, (⟨#[b]⟩ : ByteArray).size = 1 := fun _ => rfl
  have acc : (accJ (fun i => atT 0 (l.getD i tx0)) l.length).size ≤ sumL l := by
    have k := Nat.le_trans (acc_le (fun i => atT 0 (l.getD i tx0)) l.length) (sumF_le l l.length (Nat.le_refl _))
    rwa [List.take_length] at k
  rcases node_kind h with c | c | c | c | c | ⟨sg, lv, c⟩ | ⟨wd, c⟩
  · rw [tx_leaf (.inl c)]; omega
  · rw [tx_leaf (.inr c)]; omega
  · rw [tx_minus c, ByteArray.size_append, one]
    have := at_le 2 (l.getD 0 tx0)
    omega
  · rw [tx_pow c, ByteArray.size_append, ByteArray.size_append, one, dg_size]
    have := at_le 4 (l.getD 0 tx0)
    omega
  · rw [tx_named c, ByteArray.size_append, ByteArray.size_append, ByteArray.size_append, one, one]
    omega
  · rw [tx_joint c, ByteArray.size_append, ByteArray.size_append, ByteArray.size_append, ByteArray.size_append, one, (row_size c).1]
    have := at_le lv (l.getD 0 tx0)
    have := at_le (lv + 1) (l.getD 1 tx0)
    omega
  · rw [tx_own c, ByteArray.size_append, ByteArray.size_append, ByteArray.size_append, one, one]
    have := (word_size c).1
    omega
theorem tst_sum {xs : List Tn} (hok : okT xs = true) : ∀ k, k ≤ xs.length → sumL ((tst xs k).map Tr.tx) ≤ 100 * k := by
  intro k
  induction k with
  | zero => intro _; exact Nat.le_refl _
  | succ k ih =>
    intro hk
    have i1 := ih (by omega)
    have a := (okT_at hok (k := k) (by omega)).1
    show sumL ((Tr.mk (xs.getD k tn0) ((tst xs k).take (cn xs k)).reverse :: (tst xs k).drop (cn xs k)).map Tr.tx) ≤ _
    rw [List.map_cons]
    have e : sumL ((tst xs k).map Tr.tx) = sumL (((tst xs k).take (cn xs k)).reverse.map Tr.tx) + sumL (((tst xs k).drop (cn xs k)).map Tr.tx) := by
      rw [List.map_reverse, sumL_rev, ← sumL_app, ← List.map_append, List.take_append_drop]
    have t := tx_le (n := xs.getD k tn0) (by omega) (((tst xs k).take (cn xs k)).reverse.map Tr.tx)
    rw [← txt_mk] at t
    show (Tr.mk (xs.getD k tn0) ((tst xs k).take (cn xs k)).reverse).txt.size + 4 + _ ≤ _
    omega
theorem tr_size {xs : List Tn} (hok : okT xs = true) {e : Nat} (he : e < xs.length) : (tr xs e).txt.size ≤ 10000 := by
  have h := tst_sum hok (e + 1) (by omega)
  have h2 := (okT_in hok).1
  have e2 : sumL ((tst xs (e + 1)).map Tr.tx) = (tr xs e).txt.size + 4 + sumL (((tst xs e).drop (cn xs e)).map Tr.tx) := rfl
  omega
/-- the text of a term -/
def txT (xs : List Tn) : ByteArray := if okT xs = true then (tr xs (xs.length - 1)).txt else ⟨#[]⟩
end Go.Proofs.YtknibhdnbkmkiaaDoor

/- The text of a term, by the specification: what its cases share. Nothing that was there is written. -/
namespace Go.Proofs.YtknibhdnbkmkiaaDoor
open Go.RowKit
set_option linter.unusedVariables false
set_option maxRecDepth 100000

theorem ac_cnt {x : Tn} (h : 0 ≤ ac x) : ((x.k = 1 ∨ x.k = 2) → ac x = 0) ∧ ((x.k = 3 ∨ x.k = 8 ∨ x.k = 9 ∨ x.k = 10) → ac x = 1) ∧ ((x.k = 4 ∨ x.k = 5 ∨ x.k = 6 ∨ x.k = 7 ∨ x.k = 11 ∨ x.k = 12) → ac x = 2) ∧ (x.k = 13 → ac x = x.n ∧ 1 ≤ x.n ∧ x.n ≤ 6) := by
  unfold ac at h ⊢
  refine ⟨fun c => ?_, fun c => ?_, fun c => ?_, fun c => ?_⟩
  all_goals
    repeat' split at h
    all_goals (try omega)
    all_goals
      repeat' split
      all_goals (first | omega | simp_all)
theorem prts_len {xs : List Tn} (hok : okT xs = true) {e : Nat} (he : e < xs.length) : ((prts xs e).length : Int) = ac (xs.getD e tn0) := by
  have h := okT_at hok he
  unfold prts
  rw [List.length_reverse, List.length_take, h.1]
  omega
theorem tx_at {xs : List Tn} {e i : Nat} (h : i < (prts xs e).length) : (((prts xs e).map (tr xs)).map Tr.tx).getD i tx0 = (tr xs ((prts xs e).getD i 0)).tx := by
  rw [List.getD_eq_getElem?_getD, List.getElem?_map, List.getElem?_map, List.getElem?_eq_getElem h, List.getD_eq_getElem?_getD, List.getElem?_eq_getElem h]
  rfl
theorem txt_e {xs : List Tn} (e : Nat) : (tr xs e).txt = txN (xs.getD e tn0) (((prts xs e).map (tr xs)).map Tr.tx) := by rw [tr_eq, txt_mk]
theorem at_zeroS (t : Tr) : atT 0 t.tx = t.txt := if_neg (by show ¬ lvK t.nd.k < 0; have := lvK_nn t.nd.k; omega)
theorem lvK_tr {xs : List Tn} (e : Nat) : lvK (tr xs e).nd.k = lvK (xs.getD e tn0).k := by rw [tr_eq]; rfl
theorem app_three (s : ByteArray) (b : UInt8) : s ++ ⟨#[32, b, 32]⟩ = ((s ++ ⟨#[32]⟩) ++ ⟨#[b]⟩) ++ ⟨#[32]⟩ := by
  apply ByteArray.ext
  rw [ByteArray.data_append, ByteArray.data_append, ByteArray.data_append, ByteArray.data_append]
  show s.data ++ #[32, b, 32] = s.data ++ #[32] ++ #[b] ++ #[32]
  rw [Array.append_assoc, Array.append_assoc]
  rfl
theorem app_nil (s : ByteArray) : s ++ ⟨#[]⟩ = s := by
  apply ByteArray.ext
  simp [ByteArray.data_append]
theorem app_four (b a c d : ByteArray) : ((b ++ a) ++ c) ++ d = b ++ ((a ++ c) ++ d) := by
  apply ByteArray.ext
  simp [ByteArray.data_append]
theorem three_oldT {w' w'' : World} {b b' b'' o' o'' : Nat} {v0 v1 v2 : Value} (h : w'.cell? ⟨b, 0, none⟩ = some v0 ∧ w'.cell? ⟨b', o', none⟩ = some v1 ∧ w'.cell? ⟨b'', o'', none⟩ = some v2) (k : Below w'.heap.size w' w'') :
    w''.cell? ⟨b, 0, none⟩ = some v0 ∧ w''.cell? ⟨b', o', none⟩ = some v1 ∧ w''.cell? ⟨b'', o'', none⟩ = some v2 := by
  obtain ⟨a1, a2, a3⟩ := h
  exact ⟨(k.cell (World.block_lt_of_cell? _ _ a1)).trans a1, (k.cell (World.block_lt_of_cell? _ _ a2)).trans a2, (k.cell (World.block_lt_of_cell? _ _ a3)).trans a3⟩
theorem cvDigAt (n : Nat) (hn : n ≤ 8) (g : Nat) (W : World) (c : W.cell? ⟨g, 0, none⟩ = some (.int .u8 (48 + (n : Int)))) : (convert 51 9 (.slice (some ⟨g, 0, none⟩) 1 1)).run Tryd.prog W = .ok (.string (dgB (n : Int))) W := by
  have h := run_convert_bytes_back (P := Tryd.prog) W 51 9 5 ⟨g, 0, none⟩ 1 [(48 + n).toUInt8] Tryd.underlying51 Tryd.underlying5 Tryd.underlying9 (fun j hj => by
    obtain rfl : j = 0 := by simpa using hj
    refine c.trans ?_
    have e : ((((48 + n).toUInt8.toNat : Nat)) : Int) = 48 + (n : Int) := by
      show (((48 + n) % 256 : Nat) : Int) = _
      omega
    rw [show ([(48 + n).toUInt8][0]) = (48 + n).toUInt8 from rfl, e])
  exact h
theorem sLv_1 (n : Int) (s : ByteArray) (w : World) : Calls Tryd.prog 18 #[.agg #[.int .i64 1, .int .i64 n, .string s]] w fun e w' => e = .returned (.int .i64 5) ∧ Below w.heap.size w w' := by
  go_enter Tryd.func18, Tryd.ntmps18
  go_wp2
  go_ret
  exact ⟨rfl, (by repeat (first | with_reducible exact Below.refl _ _ | with_reducible refine Below.drew ?_ | ((with_reducible refine Below.setCell ?_ ?_ _); rotate_left; (focus (first | (simp; done) | omega | (simp; omega)))) | with_reducible refine old_alloc ?_ _ | with_reducible refine old_trans ?_ (by with_reducible assumption)))⟩
theorem sLv_2 (n : Int) (s : ByteArray) (w : World) : Calls Tryd.prog 18 #[.agg #[.int .i64 2, .int .i64 n, .string s]] w fun e w' => e = .returned (.int .i64 5) ∧ Below w.heap.size w w' := by
  go_enter Tryd.func18, Tryd.ntmps18
  go_wp2
  go_ret
  exact ⟨rfl, (by repeat (first | with_reducible exact Below.refl _ _ | with_reducible refine Below.drew ?_ | ((with_reducible refine Below.setCell ?_ ?_ _); rotate_left; (focus (first | (simp; done) | omega | (simp; omega)))) | with_reducible refine old_alloc ?_ _ | with_reducible refine old_trans ?_ (by with_reducible assumption)))⟩
theorem sLv_3 (n : Int) (s : ByteArray) (w : World) : Calls Tryd.prog 18 #[.agg #[.int .i64 3, .int .i64 n, .string s]] w fun e w' => e = .returned (.int .i64 3) ∧ Below w.heap.size w w' := by
  go_enter Tryd.func18, Tryd.ntmps18
  go_wp2
  go_ret
  exact ⟨rfl, (by repeat (first | with_reducible exact Below.refl _ _ | with_reducible refine Below.drew ?_ | ((with_reducible refine Below.setCell ?_ ?_ _); rotate_left; (focus (first | (simp; done) | omega | (simp; omega)))) | with_reducible refine old_alloc ?_ _ | with_reducible refine old_trans ?_ (by with_reducible assumption)))⟩
theorem sLv_4 (n : Int) (s : ByteArray) (w : World) : Calls Tryd.prog 18 #[.agg #[.int .i64 4, .int .i64 n, .string s]] w fun e w' => e = .returned (.int .i64 1) ∧ Below w.heap.size w w' := by
  go_enter Tryd.func18, Tryd.ntmps18
  go_wp2
  go_ret
  exact ⟨rfl, (by repeat (first | with_reducible exact Below.refl _ _ | with_reducible refine Below.drew ?_ | ((with_reducible refine Below.setCell ?_ ?_ _); rotate_left; (focus (first | (simp; done) | omega | (simp; omega)))) | with_reducible refine old_alloc ?_ _ | with_reducible refine old_trans ?_ (by with_reducible assumption)))⟩
theorem sLv_5 (n : Int) (s : ByteArray) (w : World) : Calls Tryd.prog 18 #[.agg #[.int .i64 5, .int .i64 n, .string s]] w fun e w' => e = .returned (.int .i64 1) ∧ Below w.heap.size w w' := by
  go_enter Tryd.func18, Tryd.ntmps18
  go_wp2
  go_ret
  exact ⟨rfl, (by repeat (first | with_reducible exact Below.refl _ _ | with_reducible refine Below.drew ?_ | ((with_reducible refine Below.setCell ?_ ?_ _); rotate_left; (focus (first | (simp; done) | omega | (simp; omega)))) | with_reducible refine old_alloc ?_ _ | with_reducible refine old_trans ?_ (by with_reducible assumption)))⟩
theorem sLv_6 (n : Int) (s : ByteArray) (w : World) : Calls Tryd.prog 18 #[.agg #[.int .i64 6, .int .i64 n, .string s]] w fun e w' => e = .returned (.int .i64 2) ∧ Below w.heap.size w w' := by
  go_enter Tryd.func18, Tryd.ntmps18
  go_wp2
  go_ret
  exact ⟨rfl, (by repeat (first | with_reducible exact Below.refl _ _ | with_reducible refine Below.drew ?_ | ((with_reducible refine Below.setCell ?_ ?_ _); rotate_left; (focus (first | (simp; done) | omega | (simp; omega)))) | with_reducible refine old_alloc ?_ _ | with_reducible refine old_trans ?_ (by with_reducible assumption)))⟩
theorem sLv_7 (n : Int) (s : ByteArray) (w : World) : Calls Tryd.prog 18 #[.agg #[.int .i64 7, .int .i64 n, .string s]] w fun e w' => e = .returned (.int .i64 2) ∧ Below w.heap.size w w' := by
  go_enter Tryd.func18, Tryd.ntmps18
  go_wp2
  go_ret
  exact ⟨rfl, (by repeat (first | with_reducible exact Below.refl _ _ | with_reducible refine Below.drew ?_ | ((with_reducible refine Below.setCell ?_ ?_ _); rotate_left; (focus (first | (simp; done) | omega | (simp; omega)))) | with_reducible refine old_alloc ?_ _ | with_reducible refine old_trans ?_ (by with_reducible assumption)))⟩
theorem sLv_8 (n : Int) (s : ByteArray) (w : World) : Calls Tryd.prog 18 #[.agg #[.int .i64 8, .int .i64 n, .string s]] w fun e w' => e = .returned (.int .i64 4) ∧ Below w.heap.size w w' := by
  go_enter Tryd.func18, Tryd.ntmps18
  go_wp2
  go_ret
  exact ⟨rfl, (by repeat (first | with_reducible exact Below.refl _ _ | with_reducible refine Below.drew ?_ | ((with_reducible refine Below.setCell ?_ ?_ _); rotate_left; (focus (first | (simp; done) | omega | (simp; omega)))) | with_reducible refine old_alloc ?_ _ | with_reducible refine old_trans ?_ (by with_reducible assumption)))⟩
theorem sLv_9 (n : Int) (s : ByteArray) (w : World) : Calls Tryd.prog 18 #[.agg #[.int .i64 9, .int .i64 n, .string s]] w fun e w' => e = .returned (.int .i64 5) ∧ Below w.heap.size w w' := by
  go_enter Tryd.func18, Tryd.ntmps18
  go_wp2
  go_ret
  exact ⟨rfl, (by repeat (first | with_reducible exact Below.refl _ _ | with_reducible refine Below.drew ?_ | ((with_reducible refine Below.setCell ?_ ?_ _); rotate_left; (focus (first | (simp; done) | omega | (simp; omega)))) | with_reducible refine old_alloc ?_ _ | with_reducible refine old_trans ?_ (by with_reducible assumption)))⟩
theorem sLv_10 (n : Int) (s : ByteArray) (w : World) : Calls Tryd.prog 18 #[.agg #[.int .i64 10, .int .i64 n, .string s]] w fun e w' => e = .returned (.int .i64 5) ∧ Below w.heap.size w w' := by
  go_enter Tryd.func18, Tryd.ntmps18
  go_wp2
  go_ret
  exact ⟨rfl, (by repeat (first | with_reducible exact Below.refl _ _ | with_reducible refine Below.drew ?_ | ((with_reducible refine Below.setCell ?_ ?_ _); rotate_left; (focus (first | (simp; done) | omega | (simp; omega)))) | with_reducible refine old_alloc ?_ _ | with_reducible refine old_trans ?_ (by with_reducible assumption)))⟩
theorem sLv_11 (n : Int) (s : ByteArray) (w : World) : Calls Tryd.prog 18 #[.agg #[.int .i64 11, .int .i64 n, .string s]] w fun e w' => e = .returned (.int .i64 5) ∧ Below w.heap.size w w' := by
  go_enter Tryd.func18, Tryd.ntmps18
  go_wp2
  go_ret
  exact ⟨rfl, (by repeat (first | with_reducible exact Below.refl _ _ | with_reducible refine Below.drew ?_ | ((with_reducible refine Below.setCell ?_ ?_ _); rotate_left; (focus (first | (simp; done) | omega | (simp; omega)))) | with_reducible refine old_alloc ?_ _ | with_reducible refine old_trans ?_ (by with_reducible assumption)))⟩
theorem sLv_12 (n : Int) (s : ByteArray) (w : World) : Calls Tryd.prog 18 #[.agg #[.int .i64 12, .int .i64 n, .string s]] w fun e w' => e = .returned (.int .i64 5) ∧ Below w.heap.size w w' := by
  go_enter Tryd.func18, Tryd.ntmps18
  go_wp2
  go_ret
  exact ⟨rfl, (by repeat (first | with_reducible exact Below.refl _ _ | with_reducible refine Below.drew ?_ | ((with_reducible refine Below.setCell ?_ ?_ _); rotate_left; (focus (first | (simp; done) | omega | (simp; omega)))) | with_reducible refine old_alloc ?_ _ | with_reducible refine old_trans ?_ (by with_reducible assumption)))⟩
theorem sLv_13 (n : Int) (s : ByteArray) (w : World) : Calls Tryd.prog 18 #[.agg #[.int .i64 13, .int .i64 n, .string s]] w fun e w' => e = .returned (.int .i64 5) ∧ Below w.heap.size w w' := by
  go_enter Tryd.func18, Tryd.ntmps18
  go_wp2
  go_ret
  exact ⟨rfl, (by repeat (first | with_reducible exact Below.refl _ _ | with_reducible refine Below.drew ?_ | ((with_reducible refine Below.setCell ?_ ?_ _); rotate_left; (focus (first | (simp; done) | omega | (simp; omega)))) | with_reducible refine old_alloc ?_ _ | with_reducible refine old_trans ?_ (by with_reducible assumption)))⟩
end Go.Proofs.YtknibhdnbkmkiaaDoor
