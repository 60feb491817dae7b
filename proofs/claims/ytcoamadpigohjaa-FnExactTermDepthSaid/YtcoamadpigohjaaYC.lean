/- The ends of the parts of a node of a term, and how deep it is, by the specification. Nothing that was there is written. -/
import Derived.Test.YtcoamadpigohjaaYB
namespace Go.Proofs.Ytcoamadpigohjaa
open Go.RowKit
set_option linter.unusedVariables false

set_option maxRecDepth 100000 in
set_option maxHeartbeats 4000000 in
theorem sParts (a : Option Addr) (len cap : Nat) (xs : List Tn) (e : Nat) (w : World) (hR : InN w a len cap xs) (hok : okT xs = true) (he : e < len) :
    Calls Try.prog 18 #[.agg #[.slice a len cap], .int .i64 (e : Int)] w fun ev w' => (∃ av cv, ev = .returned (.slice av (prts xs e).length cv) ∧ OI w' w.heap.size av cv (iz (prts xs e))) ∧ Below w.heap.size w w' := by
  obtain ⟨i0, hi, hz0, hz1, hz2⟩ := info_parts infoInt
  have hp := hR.1
  have hl := (okT_in hok).1
  have hc := okT_at hok (k := e) (by omega)
  have ST := hd (fun q w' (h : Below w.heap.size w w') (hq : q < len) => sStart a len cap xs q w' (hR.old h) hok hq)
  have hfit : Hid (∀ l : List Nat, (∀ n ∈ l, n ∈ pst xs e) → IFits (iz l)) := fun l h => iz_fits (fun n hn => by have := pst_mem (h n hn); omega)
  have hub := hd (fun j h => und_beg (xs := xs) (k := e) (j := j) h)
  have hul := hd (fun j (h : j < (pst xs e).length) => (und_at (xs := xs) (k := e) (j := j) h).2)
  have hbl := hd (fun q => (pst_beg (und_suf xs q)).2)
  have hpl := pst_le xs e
  have hs0 : 0 < cn xs e → (e : Int) - 1 = (((pst xs e).getD 0 0 : Nat) : Int) := by
    intro h
    obtain ⟨q, rfl⟩ : ∃ q, e = q + 1 := ⟨e - 1, by have := pst_le xs e; omega⟩
    simp [pst]
  have hs0' := hd hs0
  have hprl : (prts xs e).length = cn xs e := by unfold prts; rw [List.length_reverse, List.length_take]; omega
  have hprg : Hid (∀ n, n < cn xs e → (prts xs e).getD n 0 = ((pst xs e).take (cn xs e)).getD (cn xs e - 1 - n) 0) := fun n hn => by
    unfold prts
    rw [List.getD_eq_getElem?_getD, List.getElem?_reverse (by rw [List.length_take]; omega), List.length_take, Nat.min_eq_left (by omega), List.getD_eq_getElem?_getD]
  have hx0 := hc.1
  have hc2 := hc.2
  clear hc hs0 hok
  have K0 := CS.made w _ rfl #[.slice a len cap] 29
  have hBB : Below w.heap.size w (w.alloc (.cells #[.slice a len cap] 29)) := old_alloc (Below.refl _ _) _
  go_enter Try.func18, Try.ntmps18
  have m0 := K0.cell 0 _ rfl
  obtain ⟨b, off, x, y, s, rfl, hbl0, hx, hf, c0, c1, c2⟩ := (hR.old hBB).at he
  have P := hd (sArgs x y s hf.2.2)
  rw [hx] at hx0
  rw [hx0] at P
  clear hx0 hx hf
  generalize hcn : cn xs e = c at *
  generalize hW0 : w.alloc (.cells #[.slice (some ⟨b, off, none⟩) len cap] 29) = W0 at *
  go_wp2_with fail
  refine (P.out _).mono ?_
  rintro ev w1 ⟨rfl, hb1⟩
  have hB1 := old_trans hBB hb1
  have K1 := K0.later hb1
  clear P m0 c0 c1 c2 hb1
  clear hW0 K0
  go_wp2_with fail
  go_loopw [5, 6, 7] (fun o q k wr => ∃ (j : Nat) (E : Int), j ≤ c ∧ k = .int .i64 ((c : Int) - (j : Int)) ∧ q = .int .i64 E ∧ (j < c → E = (((pst xs e).getD j 0 : Nat) : Int)) ∧ (-1 ≤ E ∧ E ≤ 100) ∧ IGrows wr w1.heap.size o (iz ((pst xs e).take j)) ∧ Below w1.heap.size w1 wr) (fun _ _ k _ => (intOf k).toNat)
  case atStart => exact ⟨0, (e : Int) - 1, by omega, by congr 1, rfl, fun h => hs0'.out h, by omega, IGrows.nil _ _, Below.refl _ _⟩
  case round =>
    obtain ⟨j, E, hj, rfl, rfl, hE, hEb, G, hb⟩ := hrel
    have hBw := old_trans hB1 hb
    have hsz := hBw.size
    have hsz1 := hb.size
    have Kr := K1.later hb
    have m0 := Kr.cell 0 _ rfl
    have htl : (iz ((pst xs e).take j)).length = j := by rw [iz_len, List.length_take]; omega
    by_cases hlt : j < c
    · obtain rfl := hE hlt
      have hq := hul.out j (by omega)
      have hS := hd (ST.out ((pst xs e).getD j 0) _ (old_alloc hBw (.cells #[.int .i64 (((pst xs e).getD j 0 : Nat) : Int)] 3)) (by omega))
      have hS2 := hd (ST.out ((pst xs e).getD j 0))
      have hbg := hbl.out ((pst xs e).getD j 0)
      have hub' : Hid (j + 1 < c → ((beg (und xs ((pst xs e).getD j 0)) : Nat) : Int) - 1 = (((pst xs e).getD (j + 1) 0 : Nat) : Int)) := fun h => by rw [hub.out j (by omega)]; omega
      have hsn : Hid (iz ((pst xs e).take j) ++ [(((pst xs e).getD j 0 : Nat) : Int)] = iz ((pst xs e).take (j + 1))) := by show _ = _; rw [iz_snoc, take_snocN (by omega)]
      have hkp : ((c : Int) - (j : Int)) > 0 := by omega
      clear hE hS
      generalize (pst xs e).getD j 0 = Q at *
      generalize beg (und xs Q) = Z at *
      have hQ : (Q : Int) < (len : Int) := by omega
      have hZ : (Z : Int) ≤ 100 := by omega
      have G2 := G.alloc (.cells #[.int .i64 (Q : Int)] 3)
      have B2 : Below w.heap.size w (wr.alloc (.cells #[.int .i64 (Q : Int)] 3)) := old_alloc hBw _
      have B3 : Below w1.heap.size w1 (wr.alloc (.cells #[.int .i64 (Q : Int)] 3)) := old_alloc hb _
      have cw := cells_one wr wr.heap.size rfl (.int .i64 (Q : Int)) 3
      go_wp2_with (at_builtin; go_loud (refine wpList_append_own _ rfl _ _ 48 rfl w1.heap.size 3 i0 _ 1 8 Try.underlying48 hi hz0 hz1 hz2 rfl (by decide) _ _ _ rfl G2 ⟨_, 0, none⟩ 1 1 [.int .i64 (Q : Int)] rfl rfl cw (by simp [Value.oneCell']) (by rw [htl]; unfold maxLen; omega) (by rw [htl]; omega) (by simp; omega) ?_; intro v' w5 hown hgrow _; have B5 : Below w1.heap.size w1 w5 := B3.grown hgrow B3.size (fun c e => by have := (World.ownsRow.lt G2 c e).1; omega); have m5 := (K1.later B5).cell 0 _ rfl; have G5 : IGrows w5 w1.heap.size v' (iz ((pst xs e).take j) ++ [(Q : Int)]) := (by unfold IGrows; rw [ints_snoc, List.length_append]; exact hown)))
      refine (hS2.out _ (old_trans hB1 B5) (by omega)).mono ?_
      rintro ev w6 ⟨rfl, hb6⟩
      have s1 := hB1.size
      go_wp2
      go_roundw
      case rel => exact ⟨j + 1, (Z : Int) - 1, by omega, by congr 1; omega, rfl, fun h => hub'.out h, by omega, by rw [← hsn.out]; exact G5.later hb6, old_trans B5 hb6⟩
      case measure => simp [intOf]; omega
    · obtain rfl : j = c := by omega
      have hkz : ¬ ((j : Int) - (j : Int) > 0) := by omega
      clear hE ST hub hul hbl hs0' m0
      have GO := G.oi (hfit.out _ (fun n hn => List.mem_of_mem_take hn))
      obtain ⟨av, cv, rfl, hO⟩ := GO
      rw [htl]
      clear G htl
      have hB9 := hBw
      have hs9 := hB9.size
      generalize hpl9 : (pst xs e).take j = pl at *
      have hpll : pl.length = j := by rw [← hpl9, List.length_take]; omega
      obtain ⟨W2, hW2⟩ : ∃ W2, W2 = wr := ⟨_, rfl⟩
      subst hW2
      go_wp2_with fail
      go_loopw [8, 9] (fun o i wr => ∃ (n : Nat), n ≤ j ∧ i = .int .i64 ((j : Int) - 1 - (n : Int)) ∧ IGrows wr W2.heap.size o (iz ((prts xs e).take n)) ∧ Below W2.heap.size W2 wr) (fun _ i _ => (intOf i + 1).toNat)
      case atStart => exact ⟨0, by omega, by congr 1; omega, IGrows.nil _ _, Below.refl _ _⟩
      case round =>
        obtain ⟨n, hn, rfl, G, hb2⟩ := hrel
        have htl : (iz ((prts xs e).take n)).length = n := by rw [iz_len, List.length_take]; omega
        have hs2 := hb2.size
        by_cases hlt2 : n < j
        · obtain ⟨bq, oq, Q, rfl, -, hQ, hQb, cQ⟩ := (hO.later hb2).inI.at (k := j - 1 - n) (by rw [iz_len]; omega)
          have hsn : Hid (iz ((prts xs e).take n) ++ [Q] = iz ((prts xs e).take (n + 1))) := by
            show _ = _
            rw [take_snocN (by omega), ← iz_snoc, hprg.out n hlt2, ← hQ, iz_getD _ _ (by omega)]
          have hidx : ((j : Int) - 1 - (n : Int)) = ((j - 1 - n : Nat) : Int) := by omega
          have hge : ((j : Int) - 1 - (n : Int)) ≥ 0 := by omega
          rw [hidx] at hge
          rw [hidx]
          have hmm : Hid ((((j - 1 - n : Nat) : Int) - 1) = (j : Int) - 1 - ((n + 1 : Nat) : Int)) := by show _ = _; omega
          have hjl : j - 1 - n < (iz pl).length := by rw [iz_len]; omega
          rw [show (iz pl).length = j by rw [iz_len, hpll]] at hjl
          generalize j - 1 - n = I at *
          have G2 := G.alloc (.cells #[.int .i64 Q] 3)
          have B2 : Below W2.heap.size W2 (wr.alloc (.cells #[.int .i64 Q] 3)) := old_alloc hb2 _
          have cw := cells_one wr wr.heap.size rfl (.int .i64 Q) 3
          clear hidx hQ
          go_wp2_with (at_builtin; refine wpList_append_own _ rfl _ _ 48 rfl W2.heap.size 3 i0 _ 1 8 Try.underlying48 hi hz0 hz1 hz2 rfl (by decide) _ _ _ rfl G2 ⟨_, 0, none⟩ 1 1 [.int .i64 Q] rfl rfl cw (by simp [Value.oneCell']) (by rw [htl]; unfold maxLen; omega) (by rw [htl]; omega) (by simp; omega) ?_; intro v' w5 hown hgrow _)
          go_roundw
          case rel =>
            refine ⟨n + 1, by omega, by rw [hmm.out], ?_, B2.grown hgrow B2.size (fun c e => by have := (World.ownsRow.lt G2 c e).1; omega)⟩
            rw [← hsn.out]
            unfold IGrows
            rw [ints_snoc, List.length_append]
            exact hown
          case measure => simp [intOf]
        · obtain rfl : n = j := by omega
          have hneg : ¬ ((n : Int) - 1 - (n : Int) ≥ 0) := by omega
          rw [show (n : Int) - 1 - (n : Int) = -1 by omega]
          have hfull : (prts xs e).take n = prts xs e := List.take_of_length_le (by omega)
          rw [hfull] at G
          obtain ⟨av2, cv2, rfl, hO2⟩ := G.oi (hfit.out _ (fun m hm => by unfold prts at hm; rw [List.mem_reverse] at hm; exact List.mem_of_mem_take hm))
          rw [iz_len]
          go_wp2
          go_ret
          exact ⟨⟨_, _, rfl, hO2.mono hs9⟩, old_trans hB9 hb2⟩
end Go.Proofs.Ytcoamadpigohjaa
