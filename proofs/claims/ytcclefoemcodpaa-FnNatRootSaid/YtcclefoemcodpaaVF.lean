/- Square roots of numbers, down: the program's steps from above, the specification's bits. No condition. -/
import Derived.Test.YtcclefoemcodpaaVE
namespace Go.Proofs.Ytcclefoemcodpaa
open Go.RowKit
set_option linter.unusedVariables false

theorem root_len {r A n : Nat} (h : r ≤ A) (hA : A < 65536 ^ n) : (natL r).length ≤ n := natL_len.2 (Nat.lt_of_le_of_lt h hA)
theorem sum_len {a b n m : Nat} (ha : a < 65536 ^ n) (hb : b < 65536 ^ m) : (natL (a + b)).length ≤ n + m + 1 := by
  refine natL_len.2 ?_
  have e3 : 65536 ^ n ≤ 65536 ^ (n + m) := Nat.pow_le_pow_right (by omega) (by omega)
  have e4 : 65536 ^ m ≤ 65536 ^ (n + m) := Nat.pow_le_pow_right (by omega) (by omega)
  rw [Nat.pow_succ]
  have h1 := Nat.lt_of_lt_of_le ha e3
  have h2 := Nat.lt_of_lt_of_le hb e4
  clear ha hb e3 e4
  generalize 65536 ^ (n + m) = z at *
  omega
theorem sq_ge {r : Nat} : r ≤ r * r := by
  rcases Nat.eq_zero_or_pos r with h | h
  · subst h; simp
  · exact Nat.le_mul_of_pos_left r h
set_option maxRecDepth 100000 in
set_option maxHeartbeats 4000000 in
theorem iRoot (a : Option Addr) (len cap : Nat) (xs : List Int) (r : Nat) (w : World) (hR : InI w a len cap xs) (hok : natOk xs = true) (hr : isRoot (val xs) r) :
    Calls Try.prog 16 #[.slice a len cap] w fun e w' => (∃ av cv, e = .returned (.slice av (natL r).length cv) ∧ OI w' w.heap.size av cv (natL r)) ∧ Below w.heap.size w w' := by
  have q := natOk_in hok
  have hp := hR.1
  by_cases h0 : len = 0
  · subst h0
    have : xs = [] := List.length_eq_zero_iff.1 hp
    subst this
    have e : r = 0 := isRoot_one hr (by simp [isRoot, val])
    rw [e, natL_zero]
    go_enter Try.func16, Try.ntmps16
    go_wp2
    go_ret
    exact ⟨⟨_, _, rfl, OI.none _ _⟩, Below.refl _ _⟩
  have hApos : 0 < val xs := Nat.lt_of_lt_of_le (Nat.pow_pos (by omega)) (val_ge q.2.1 q.2.2 (by omega))
  have L := hd (fun w' (h : Below w.heap.size w w') => iLength a len cap xs w' (hR.old h) q.2.1 (by omega))
  have bb := bitsN_bd hok
  obtain ⟨K, hK, hK2⟩ := half_up bb.1 (bits_up q.2.1 (by omega))
  have hrow := (dig_row w 1 3).resolve_right (fun h => h (by unfold dig; omega))
  have hB1 : Below w.heap.size w (w.alloc (.cells #[.int .i64 1] 3)) := (Below.refl _ w).alloc (Nat.le_refl _) _
  have U := hd (up_n (some ⟨w.heap.size, 0, none⟩) 1 1 [1] K _ hrow (digs_cons.2 ⟨by unfold dig; omega, digs_nil⟩) (by omega) (by omega))
  have ev : val [1] = 1 := by decide
  rw [ev, Nat.mul_one] at U
  have hKq : (bitsN xs + 1).tdiv 2 = (K : Int) := by rw [Int.tdiv_eq_ediv_of_nonneg (by omega)]; exact hK
  have hr0 : 0 < 2 ^ K := Nat.pow_pos (by omega)
  have hr1 := hd (Nat.lt_of_lt_of_le hK2 (Nat.mul_le_mul (show 2 ^ K ≤ 2 ^ K + 1 by omega) (show 2 ^ K ≤ 2 ^ K + 1 by omega)))
  obtain ⟨nB, hnB, hnB2⟩ : ∃ nB, nB ≤ 3000 ∧ 2 ^ K < 65536 ^ nB := ⟨K + 1, by omega, Nat.lt_of_le_of_lt (Nat.pow_le_pow_left (by omega) K) (Nat.pow_lt_pow_right (show 1 < 65536 by omega) (by omega))⟩
  have hnB3 := hd hnB2
  clear hnB2
  have hu := hd (fun s (h : isRoot (val xs) s) => isRoot_one h hr)
  have hlt := hd (natOk_lt hok)
  have hxd := q.2.1
  have hxt := q.2.2
  have hl := q.1
  clear q hK2 hrow ev hok hr
  generalize bitsN xs = bt at *
  generalize 2 ^ K = R0 at *
  have hbt : bt + 1 ≤ 4097 := by omega
  have hbt0 : 0 ≤ bt + 1 := by omega
  have h0' : ((len : Int) == 0) = false := by simp; omega
  have hA9 := hd hApos
  clear hApos
  go_enter Try.func16, Try.ntmps16
  go_wp2_with fail
  refine (L.out _ hB1).mono ?_
  rintro e w1 ⟨rfl, rfl⟩
  go_wp2_with fail
  refine U.out.mono ?_
  rintro e w2 ⟨⟨av, cv, rfl, hO⟩, hb2⟩
  have hB2 := old_trans hB1 hb2
  have hO2 := hO.mono hB1.size
  clear hO U L hb2 hB1
  go_wp2_with fail
  go_loopg [3] R0 (fun k s wr => ∃ (av : Option Addr) (cv : Nat), 0 < k ∧ k ≤ R0 ∧ s = .slice av (natL k).length cv ∧ OI wr w.heap.size av cv (natL k) ∧ val xs < (k + 1) * (k + 1) ∧ Below w.heap.size w wr)
  case atStart => exact ⟨av, cv, hr0, Nat.le_refl _, rfl, hO2, hr1.out, hB2⟩
  case round =>
    clear hO2 hB2
    obtain ⟨av9, cv9, g1, g2, rfl, hO, g3, hB⟩ := hrel
    have hlk : (natL gk).length ≤ 3000 := by
      have := root_len g2 hnB3.out
      omega
    have hlk0 : 0 < (natL gk).length := natL_length_pos g1
    have C := hd (iCut a av9 len _ cap cv9 xs (natL gk) wr (hR.old hB) hO.inI hxd (digs_natL _) (topped_natL _) (by omega) (by omega) hlk0)
    rw [val_natL] at C
    have hql := root_len (Nat.div_le_self (val xs) gk) hlt.out
    have P := hd (fun av2 cv2 base w' (h : OI w' w.heap.size av9 cv9 (natL gk)) (h' : OI w' base av2 cv2 (natL (val xs / gk))) => iPlus av9 av2 _ _ cv9 cv2 _ _ w' h.inI h'.inI (digs_natL _) (digs_natL _) (by omega) (by omega))
    rw [val_natL, val_natL] at P
    have hsl := sum_len (Nat.lt_of_le_of_lt g2 hnB3.out) (Nat.lt_of_le_of_lt (Nat.div_le_self (val xs) gk) hlt.out)
    have DN := hd (fun av3 cv3 base w' (h : OI w' base av3 cv3 (natL (gk + val xs / gk))) => down0 av3 _ cv3 _ 1 w' h.inI (digs_natL _) (by omega) (by omega))
    rw [val_natL, Nat.pow_one, show ((1 : Nat) : Int) = 1 from rfl] at DN
    have AG := hd (fun av4 cv4 base w' (h : OI w' w.heap.size av9 cv9 (natL gk)) (h' : OI w' base av4 cv4 (natL ((gk + val xs / gk) / 2))) => iAgainst av4 av9 _ _ cv4 cv9 _ _ w' h'.inI h.inI (digs_natL _) (digs_natL _) (topped_natL _) (topped_natL _))
    rw [val_natL, val_natL] at AG
    have na := hd (newton_above (a := val xs) g1)
    have np := hd (newton_pos hA9.out g1)
    have ns := hd (newton_stop (a := val xs) g1)
    have g1' := hd g1
    have g2' := hd g2
    have g3' := hd g3
    clear hsl hql hlk hlk0 g1 g2 g3
    generalize hnx : (gk + val xs / gk) / 2 = nx at *
    generalize natL (gk + val xs / gk) = sl at *
    generalize natL (val xs / gk) = ql at *
    by_cases hge : gk ≤ nx
    · have hrr := hd (hu.out gk ⟨ns.out hge, g3'.out⟩)
      have hc : 0 ≤ cmpI nx gk := by unfold cmpI; rw [if_neg (by omega)]; split <;> omega
      clear hnx
      generalize cmpI nx gk = cz at *
      generalize natL nx = nl at *
      go_wp2_with fail
      refine C.out.mono ?_
      rintro e w3 ⟨⟨avq, cvq, avr, cvr, rfl, hOq, hOr, -⟩, hb3⟩
      go_wp2_with fail
      refine (P.out _ _ _ _ (hO.later hb3) hOq).mono ?_
      rintro e w4 ⟨⟨avs, cvs, rfl, hOs⟩, hb4⟩
      go_wp2_with fail
      refine (DN.out _ _ _ _ hOs).mono ?_
      rintro e w5 ⟨⟨avn, cvn, rfl, hOn⟩, hb5⟩
      go_wp2_with fail
      refine (AG.out _ _ _ _ (((hO.later hb3).later hb4).later hb5) hOn).mono ?_
      rintro e w6 ⟨rfl, hb6⟩
      go_wp2
      go_ret
      have h9 : gk = r := hrr.out
      subst h9
      exact ⟨⟨_, _, rfl, (((hO.later hb3).later hb4).later hb5).later hb6⟩, old_trans (old_trans (old_trans (old_trans hB hb3) hb4) hb5) hb6⟩
    · have hc : cmpI nx gk = -1 := cmpI_lt (by omega)
      rw [hc] at AG
      have hlt9 : Hid (nx < gk ∧ nx ≤ R0) := ⟨by omega, by have := g2'.out; omega⟩
      clear hnx hge hc
      go_wp2_with fail
      refine C.out.mono ?_
      rintro e w3 ⟨⟨avq, cvq, avr, cvr, rfl, hOq, hOr, -⟩, hb3⟩
      go_wp2_with fail
      refine (P.out _ _ _ _ (hO.later hb3) hOq).mono ?_
      rintro e w4 ⟨⟨avs, cvs, rfl, hOs⟩, hb4⟩
      go_wp2_with fail
      refine (DN.out _ _ _ _ hOs).mono ?_
      rintro e w5 ⟨⟨avn, cvn, rfl, hOn⟩, hb5⟩
      go_wp2_with fail
      refine (AG.out _ _ _ _ (((hO.later hb3).later hb4).later hb5) hOn).mono ?_
      rintro e w6 ⟨rfl, hb6⟩
      have s3 := hb3.size
      have s4 := hb4.size
      have sB := hB.size
      go_wp2_with fail
      go_roundg nx
      case measure => exact hlt9.out.1
      case rel => exact ⟨avn, cvn, np.out, hlt9.out.2, rfl, (hOn.later hb6).mono (by omega), na.out, old_trans (old_trans (old_trans (old_trans hB hb3) hb4) hb5) hb6⟩
end Go.Proofs.Ytcclefoemcodpaa
