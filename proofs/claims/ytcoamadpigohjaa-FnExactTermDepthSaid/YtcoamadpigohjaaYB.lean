/- Where the part of a term begins that ends at a place, and the ends of its parts, by the specification. Nothing that was there is written. -/
import Derived.Test.YtcoamadpigohjaaYA
import Derived.Test.YtcoamadpigohjaaBA
namespace Go.Proofs.Ytcoamadpigohjaa
open Go.RowKit
set_option linter.unusedVariables false

theorem pst_le (xs : List Tn) (k : Nat) : (pst xs k).length ≤ k := by
  induction k with
  | zero => simp [pst]
  | succ k ih => rw [pst_len]; omega
set_option maxHeartbeats 4000000 in
theorem sStart (a : Option Addr) (len cap : Nat) (xs : List Tn) (e : Nat) (w : World) (hR : InN w a len cap xs) (hok : okT xs = true) (he : e < len) :
    Calls Try.prog 27 #[.agg #[.slice a len cap], .int .i64 (e : Int)] w fun ev w' => ev = .returned (.int .i64 ((beg (und xs e) : Nat) : Int)) ∧ Below w.heap.size w w' := by
  have hp := hR.1
  have hl := (okT_in hok).1
  have hb1 := pst_beg (und_suf xs e)
  have hgt := hd (fun j h1 h2 => pst_gt (j := j) (und_suf xs e) h1 h2)
  have hst : (pst xs (beg (und xs e))).length = (und xs e).length := by rw [hb1.1]
  have hbe := hb1.2
  have hee : ((pst xs (e + 1)).length : Int) - ((und xs e).length : Int) = 1 := by
    show (((e :: und xs e : List Nat).length : Nat) : Int) - _ = 1
    rw [List.length_cons]; omega
  have hul : (und xs e).length ≤ e := Nat.le_trans (und_suf xs e).length_le (pst_le xs e)
  have hok' := hd hok
  clear hb1 hok
  generalize beg (und xs e) = b0 at *
  generalize (und xs e).length = L at *
  have K0 := CS.made w _ rfl #[.slice a len cap] 29
  have hBB : Below w.heap.size w (w.alloc (.cells #[.slice a len cap] 29)) := old_alloc (Below.refl _ _) _
  go_enter Try.func27, Try.ntmps27
  go_wp2
  generalize w.alloc (.cells #[.slice a len cap] 29) = W0 at *
  go_loopw [5, 6] (fun m i wr => ∃ (j : Nat), b0 ≤ j ∧ j ≤ e ∧ i = .int .i64 j ∧ m = .int .i64 (((pst xs (j + 1)).length : Int) - (L : Int)) ∧ Below W0.heap.size W0 wr) (fun _ i _ => (intOf i).toNat)
  case atStart => exact ⟨e, hbe, Nat.le_refl _, rfl, by rw [hee], Below.refl _ _⟩
  case round =>
    obtain ⟨j, hj0, hj1, rfl, rfl, hb⟩ := hrel
    have m0 := (K0.later hb).cell 0 _ rfl
    obtain ⟨b, off, x, y, s, rfl, hbl, hx, hf, c0, c1, c2⟩ := ((hR.old hBB).old hb).at (show j < len by omega)
    have P := hd (sArgs x y s hf.2.2)
    have hc := okT_at hok'.out (k := j) (by omega)
    rw [hx] at hc
    rw [hc.1] at P
    have hle := pst_le xs j
    have hM : ((pst xs (j + 1)).length : Int) - (L : Int) - 1 + (cn xs j : Int) = ((pst xs j).length : Int) - (L : Int) := by rw [pst_len]; omega
    have hM1 : ((pst xs (j + 1)).length : Int) - (L : Int) ≤ 200 ∧ -200 ≤ ((pst xs (j + 1)).length : Int) - (L : Int) := by have := pst_le xs (j + 1); omega
    have hcn : (cn xs j : Int) ≤ 100 := by omega
    have hcn0 : 0 ≤ (cn xs j : Int) := by omega
    by_cases hje : j = b0
    · subst hje
      have hz : ((pst xs j).length : Int) - (L : Int) = 0 := by omega
      rw [hz] at hM
      clear hc hx hf hz hle
      generalize ((pst xs (j + 1)).length : Int) - (L : Int) = M at *
      generalize (cn xs j : Int) = c at *
      go_wp2_with fail
      refine (P.out _).mono ?_
      rintro e w1 ⟨rfl, hb1⟩
      go_wp2
      go_ret
      exact ⟨rfl, old_trans (old_trans hBB hb) hb1⟩
    · have hz := hgt.out j (by omega) hj1
      have hz2 : ¬ ((pst xs j).length : Int) - (L : Int) = 0 := by omega
      obtain ⟨i, rfl⟩ : ∃ i, j = i + 1 := ⟨j - 1, by omega⟩
      have hN : Hid (((pst xs (i + 1 + 1)).length : Int) - (L : Int) - 1 + (cn xs (i + 1) : Int) = ((pst xs (i + 1)).length : Int) - (L : Int)) := hM
      have hz3 : ¬ (((pst xs (i + 1 + 1)).length : Int) - (L : Int) - 1 + (cn xs (i + 1) : Int) = 0) := by omega
      clear hc hx hf hz hle hM hz2
      generalize ((pst xs (i + 1 + 1)).length : Int) - (L : Int) = M at *
      generalize (cn xs (i + 1) : Int) = c at *
      go_wp2_with fail
      refine (P.out _).mono ?_
      rintro e w1 ⟨rfl, hb1⟩
      go_wp2
      go_roundw
      case rel => exact ⟨i, by omega, by omega, by congr 1, by rw [hN.out], old_trans hb hb1⟩
      case measure => simp [intOf]
def iz (l : List Nat) : List Int := l.map (fun n : Nat => (n : Int))
theorem iz_len (l : List Nat) : (iz l).length = l.length := by simp [iz]
theorem iz_getD (l : List Nat) (i : Nat) (h : i < l.length) : (iz l).getD i 0 = ((l.getD i 0 : Nat) : Int) := by
  simp [iz, List.getD_eq_getElem?_getD, h]
theorem iz_snoc (l : List Nat) (n : Nat) : iz l ++ [(n : Int)] = iz (l ++ [n]) := by simp [iz]
theorem take_snocN {l : List Nat} {j : Nat} (h : j < l.length) : l.take (j + 1) = l.take j ++ [l.getD j 0] := by
  rw [List.take_add_one, List.getD_eq_getElem?_getD, List.getElem?_eq_getElem h]; rfl
theorem iz_fits {l : List Nat} (h : ∀ n ∈ l, n ≤ 1000) : IFits (iz l) := by
  intro p hp
  simp only [iz, List.mem_map] at hp
  obtain ⟨n, hn, rfl⟩ := hp
  have := h n hn
  omega
theorem pst_mem {xs : List Tn} {k n : Nat} (h : n ∈ pst xs k) : n < k := by
  obtain ⟨i, hi, rfl⟩ := List.getElem_of_mem h
  have := (und_at hi).2
  rw [List.getD_eq_getElem?_getD, List.getElem?_eq_getElem hi] at this
  exact this
end Go.Proofs.Ytcoamadpigohjaa
