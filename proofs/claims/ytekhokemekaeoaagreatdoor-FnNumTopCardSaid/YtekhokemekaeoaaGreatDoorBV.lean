/- Square roots, down: by bits and by steps from above. Conditions: numbers. -/
import Derived.Test.YtekhokemekaeoaaGreatDoorBG
import Derived.Test.YtekhokemekaeoaaGreatDoorV5
import Derived.Test.YtekhokemekaeoaaGreatDoorBC
import Derived.Deep.LoopGhost
namespace Go.Proofs.YtekhokemekaeoaaGreatDoor
open Go.RowKit
set_option linter.unusedVariables false
set_option maxRecDepth 100000

def isRoot (a r : Nat) : Prop := r * r ≤ a ∧ a < (r + 1) * (r + 1)
theorem sq_lt {x y : Nat} (h : x < y) : (x + 1) * (x + 1) ≤ y * y := Nat.mul_le_mul h h
theorem isRoot_one {a r s : Nat} (h : isRoot a r) (k : isRoot a s) : r = s := by
  rcases Nat.lt_trichotomy r s with g | g | g
  · have := sq_lt g; have := h.2; have := k.1; omega
  · exact g
  · have := sq_lt g; have := k.2; have := h.1; omega
theorem root_is (a : Nat) : ∃ r, isRoot a r := by
  induction a with
  | zero => exact ⟨0, by simp [isRoot]⟩
  | succ a ih =>
    obtain ⟨r, h1, h2⟩ := ih
    by_cases h : (r + 1) * (r + 1) ≤ a + 1
    · refine ⟨r + 1, h, ?_⟩
      have e : (r + 1 + 1) * (r + 1 + 1) = (r + 1) * (r + 1) + 2 * (r + 1) + 1 := by grind
      omega
    · exact ⟨r, by omega, by omega⟩
theorem four_le (x y : Nat) : 4 * (x * y) ≤ (x + y) * (x + y) := by
  rcases Nat.le_total x y with h | h
  · obtain ⟨d, rfl⟩ := Nat.exists_eq_add_of_le h
    have e : (x + (x + d)) * (x + (x + d)) = 4 * (x * (x + d)) + d * d := by grind
    omega
  · obtain ⟨d, rfl⟩ := Nat.exists_eq_add_of_le h
    have e : (y + d + y) * (y + d + y) = 4 * ((y + d) * y) + d * d := by grind
    omega
/-- a step from above does not go below the root -/
theorem newton_above {a r : Nat} (hr : 0 < r) : a < ((r + a / r) / 2 + 1) * ((r + a / r) / 2 + 1) := by
  have hlt : a < r * (a / r + 1) := by
    have := Nat.div_add_mod a r
    have := Nat.mod_lt a hr
    rw [Nat.mul_add, Nat.mul_one]; omega
  generalize hq : a / r = q at *
  have h4 := four_le r (q + 1)
  have hs : r + (q + 1) ≤ 2 * ((r + q) / 2 + 1) := by omega
  generalize (r + q) / 2 + 1 = s at *
  have h5 : (r + (q + 1)) * (r + (q + 1)) ≤ (2 * s) * (2 * s) := Nat.mul_le_mul hs hs
  have e : (2 * s) * (2 * s) = 4 * (s * s) := by grind
  omega
theorem newton_stop {a r : Nat} (hr : 0 < r) (h : r ≤ (r + a / r) / 2) : r * r ≤ a := by
  have h1 : r ≤ a / r := by omega
  have := (Nat.le_div_iff_mul_le hr).1 h1
  exact this
theorem newton_pos {a r : Nat} (ha : 0 < a) (hr : 0 < r) : 0 < (r + a / r) / 2 := by
  have h := newton_above (a := a) hr
  rcases Nat.eq_zero_or_pos ((r + a / r) / 2) with g | g
  · rw [g] at h; omega
  · exact g
theorem hlv_up (k : Nat) : k ≤ 16 → ∀ d : Int, 0 ≤ d → d < ((2 ^ k : Nat) : Int) → d < ((2 ^ (hlvI d).toNat : Nat) : Int) ∧ 0 ≤ hlvI d := by
  induction k with
  | zero =>
    intro _ d h0 h1
    obtain rfl : d = 0 := by simp at h1; omega
    rw [hlvI_zero]; simp
  | succ k ih =>
    intro hk d h0 h1
    by_cases hd : d = 0
    · subst hd; rw [hlvI_zero]; simp
    · have hle : (2 : Nat) ^ (k + 1) ≤ 2 ^ 16 := Nat.pow_le_pow_right (by omega) hk
      have h16 : (2 : Nat) ^ 16 = 65536 := by decide
      have hps : (2 : Nat) ^ (k + 1) = 2 ^ k * 2 := Nat.pow_succ ..
      obtain ⟨i1, i2⟩ := ih (by omega) (d / 2) (by omega) (by omega)
      rw [hlvI_half (by omega) (by omega)]
      rw [show (hlvI (d / 2) + 1).toNat = (hlvI (d / 2)).toNat + 1 by omega, Nat.pow_succ]
      generalize 2 ^ (hlvI (d / 2)).toNat = z at *
      omega
theorem bits_up {xs : List Int} (h : digs xs) (h0 : xs.length ≠ 0) : val xs < 2 ^ (bitsN xs).toNat := by
  obtain ⟨n, hn⟩ : ∃ n, xs.length = n + 1 := ⟨xs.length - 1, by omega⟩
  have d := digs_getD h n
  unfold dig at d
  have h16 : ((2 ^ 16 : Nat) : Int) = 65536 := by decide
  obtain ⟨u1, u2⟩ := hlv_up 16 (by omega) (xs.getD n 0) d.1 (by rw [h16]; exact d.2)
  have e : bitsN xs = 16 * (n : Int) + hlvI (xs.getD n 0) := by
    unfold bitsN
    rw [if_neg h0, hn, show n + 1 - 1 = n by omega]
    omega
  have hv := val_take_succ xs n
  rw [List.take_of_length_le (by omega)] at hv
  have hl := val_lt (digs_take (n := n) h)
  rw [List.length_take, Nat.min_eq_left (by omega)] at hl
  rw [hv, e, show (16 * (n : Int) + hlvI (xs.getD n 0)).toNat = 16 * n + (hlvI (xs.getD n 0)).toNat by omega, pow2_split]
  have hz : (xs.getD n 0).toNat + 1 ≤ 2 ^ (hlvI (xs.getD n 0)).toNat := by
    generalize 2 ^ (hlvI (xs.getD n 0)).toNat = z at *
    omega
  have h5 := Nat.mul_le_mul_left (65536 ^ n) hz
  rw [Nat.mul_add, Nat.mul_one] at h5
  generalize 65536 ^ n * 2 ^ (hlvI (xs.getD n 0)).toNat = z at *
  generalize 65536 ^ n * (xs.getD n 0).toNat = z2 at *
  omega
theorem half_up {A : Nat} {b : Int} (hb : 0 ≤ b) (h : A < 2 ^ b.toNat) : ∃ K : Nat, (b + 1) / 2 = (K : Int) ∧ A < 2 ^ K * 2 ^ K := by
  refine ⟨((b + 1) / 2).toNat, by omega, ?_⟩
  rw [← Nat.pow_add]
  exact Nat.lt_of_lt_of_le h (Nat.pow_le_pow_right (by omega) (by omega))
theorem up_n (a : Option Addr) (len cap : Nat) (xs : List Int) (k : Nat) (w : World) (hR : InI w a len cap xs) (hx : digs xs) (hk : k ≤ 16000) (hl : len ≤ 1048576) :
    Calls Tryz.prog 102 #[.slice a len cap, .int .i64 (k : Int)] w fun e w' => (∃ av cv, e = .returned (.slice av (natL (2 ^ k * val xs)).length cv) ∧ OI w' w.heap.size av cv (natL (2 ^ k * val xs))) ∧ Below w.heap.size w w' := by
  obtain ⟨P, p, rfl, hp⟩ := split16q k
  have h := iUp a len cap xs P p w hR hx hp (by omega) hl
  rw [show (16 * (P : Int) + (p : Int)) = ((16 * P + p : Nat) : Int) by omega] at h
  rw [pow2_split]
  exact h
theorem sPow2n (k : Nat) (w : World) (hk : k ≤ 16000) :
    Calls Tryz.prog 99 #[.int .i64 (k : Int)] w fun e w' => (∃ av cv, e = .returned (.slice av (natL (2 ^ k)).length cv) ∧ OI w' w.heap.size av cv (natL (2 ^ k))) ∧ Below w.heap.size w w' := by
  obtain ⟨P, p, rfl, hp⟩ := split16q k
  have h := sPow2 P p w hp (by omega)
  rw [show (16 * (P : Int) + (p : Int)) = ((16 * P + p : Nat) : Int) by omega] at h
  rw [pow2_split]
  exact h
end Go.Proofs.YtekhokemekaeoaaGreatDoor

/- Square roots of numbers, down: the program's steps from above, the specification's bits. No condition. -/
namespace Go.Proofs.YtekhokemekaeoaaGreatDoor
open Go.RowKit
set_option linter.unusedVariables false
set_option maxRecDepth 100000

theorem root_len {r A n : Nat} (h : r ≤ A) (hA : A < 65536 ^ n) : (natL r).length ≤ n := natL_len.2 (Nat.lt_of_le_of_lt h hA)
theorem sum_len {a b n m : Nat} (ha : a < 65536 ^ n) (hb : b < 65536 ^ m) : (natL (a + b)).length ≤ n + m + 1 := by
  refine natL_len.2 ?_
  have e3 : 65536 ^ n ≤ 65536 ^ (n + m) := Nat.pow_le_pow_right (by omega) (by omega)
  have e4 : 65536 ^ m ≤ 65536 ^ (n + m) := Nat.pow_le_pow_right (by omega) (by omega)
  rw [Nat.pow_succ]
  have h1 := Nat.lt_of_lt_of_le ha e3
  have h2 := Nat.lt_of_lt_of_le hb e4
  clear ha hb e3 e4
  generalize 65536 ^ (n + m) = z at *
  omega
theorem sq_ge {r : Nat} : r ≤ r * r := by
  rcases Nat.eq_zero_or_pos r with h | h
  · subst h; simp
  · exact Nat.le_mul_of_pos_left r h
set_option maxRecDepth 100000 in
set_option maxHeartbeats 4000000 in
theorem iRoot (a : Option Addr) (len cap : Nat) (xs : List Int) (r : Nat) (w : World) (hR : InI w a len cap xs) (hok : natOk xs = true) (hr : isRoot (val xs) r) :
    Calls Tryz.prog 97 #[.slice a len cap] w fun e w' => (∃ av cv, e = .returned (.slice av (natL r).length cv) ∧ OI w' w.heap.size av cv (natL r)) ∧ Below w.heap.size w w' := by
  have q := natOk_in hok
  have hp := hR.1
  by_cases h0 : len = 0
  · subst h0
    have : xs = [] := List.length_eq_zero_iff.1 hp
    subst this
    have e : r = 0 := isRoot_one hr (by simp [isRoot, val])
    rw [e, natL_zero]
    go_enter Tryz.func97, Tryz.ntmps97
    go_wp2
    go_ret
    exact ⟨⟨_, _, rfl, OI.none _ _⟩, Below.refl _ _⟩
  have hApos : 0 < val xs := Nat.lt_of_lt_of_le (Nat.pow_pos (by omega)) (val_ge q.2.1 q.2.2 (by omega))
  have L := hd (fun w' (h : Below w.heap.size w w') => iLength a len cap xs w' (hR.old h) q.2.1 (by omega))
  have bb := bitsN_bd hok
  obtain ⟨K, hK, hK2⟩ := half_up bb.1 (bits_up q.2.1 (by omega))
  have hrow := (dig_row w 1 3).resolve_right (fun h => h (by unfold dig; omega))
  have hB1 : Below w.heap.size w (w.alloc (.cells #[.int .i64 1] 3)) := (Below.refl _ w).alloc (Nat.le_refl _) _
  have U := hd (up_n (some ⟨w.heap.size, 0, none⟩) 1 1 [1] K _ hrow (digs_cons.2 ⟨by unfold dig; omega, digs_nil⟩) (by omega) (by omega))
  have ev : val [1] = 1 := by decide
  rw [ev, Nat.mul_one] at U
  have hKq : (bitsN xs + 1).tdiv 2 = (K : Int) := by rw [Int.tdiv_eq_ediv_of_nonneg (by omega)]; exact hK
  have hr0 : 0 < 2 ^ K := Nat.pow_pos (by omega)
  have hr1 := hd (Nat.lt_of_lt_of_le hK2 (Nat.mul_le_mul (show 2 ^ K ≤ 2 ^ K + 1 by omega) (show 2 ^ K ≤ 2 ^ K + 1 by omega)))
  obtain ⟨nB, hnB, hnB2⟩ : ∃ nB, nB ≤ 3000 ∧ 2 ^ K < 65536 ^ nB := ⟨K + 1, by omega, Nat.lt_of_le_of_lt (Nat.pow_le_pow_left (by omega) K) (Nat.pow_lt_pow_right (show 1 < 65536 by omega) (by omega))⟩
  have hnB3 := hd hnB2
  clear hnB2
  have hu := hd (fun s (h : isRoot (val xs) s) => isRoot_one h hr)
  have hlt := hd (natOk_lt hok)
  have hxd := q.2.1
  have hxt := q.2.2
  have hl := q.1
  clear q hK2 hrow ev hok hr
  generalize bitsN xs = bt at *
  generalize 2 ^ K = R0 at *
  have hbt : bt + 1 ≤ 4097 := by omega
  have hbt0 : 0 ≤ bt + 1 := by omega
  have h0' : ((len : Int) == 0) = false := by simp; omega
  have hA9 := hd hApos
  clear hApos
  go_enter Tryz.func97, Tryz.ntmps97
  go_wp2_with fail
  refine (L.out _ hB1).mono ?_
  rintro e w1 ⟨rfl, rfl⟩
  go_wp2_with fail
  refine U.out.mono ?_
  rintro e w2 ⟨⟨av, cv, rfl, hO⟩, hb2⟩
  have hB2 := old_trans hB1 hb2
  have hO2 := hO.mono hB1.size
  clear hO U L hb2 hB1
  go_wp2_with fail
  go_loopg [3] R0 (fun k s wr => ∃ (av : Option Addr) (cv : Nat), 0 < k ∧ k ≤ R0 ∧ s = .slice av (natL k).length cv ∧ OI wr w.heap.size av cv (natL k) ∧ val xs < (k + 1) * (k + 1) ∧ Below w.heap.size w wr)
  case atStart => exact ⟨av, cv, hr0, Nat.le_refl _, rfl, hO2, hr1.out, hB2⟩
  case round =>
    clear hO2 hB2
    obtain ⟨av9, cv9, g1, g2, rfl, hO, g3, hB⟩ := hrel
    have hlk : (natL gk).length ≤ 3000 := by
      have := root_len g2 hnB3.out
      omega
    have hlk0 : 0 < (natL gk).length := natL_length_pos g1
    have C := hd (iCut a av9 len _ cap cv9 xs (natL gk) wr (hR.old hB) hO.inI hxd (digs_natL _) (topped_natL _) (by omega) (by omega) hlk0)
    rw [val_natL] at C
    have hql := root_len (Nat.div_le_self (val xs) gk) hlt.out
    have P := hd (fun av2 cv2 base w' (h : OI w' w.heap.size av9 cv9 (natL gk)) (h' : OI w' base av2 cv2 (natL (val xs / gk))) => iPlus av9 av2 _ _ cv9 cv2 _ _ w' h.inI h'.inI (digs_natL _) (digs_natL _) (by omega) (by omega))
    rw [val_natL, val_natL] at P
    have hsl := sum_len (Nat.lt_of_le_of_lt g2 hnB3.out) (Nat.lt_of_le_of_lt (Nat.div_le_self (val xs) gk) hlt.out)
    have DN := hd (fun av3 cv3 base w' (h : OI w' base av3 cv3 (natL (gk + val xs / gk))) => down0 av3 _ cv3 _ 1 w' h.inI (digs_natL _) (by omega) (by omega))
    rw [val_natL, Nat.pow_one, show ((1 : Nat) : Int) = 1 from rfl] at DN
    have AG := hd (fun av4 cv4 base w' (h : OI w' w.heap.size av9 cv9 (natL gk)) (h' : OI w' base av4 cv4 (natL ((gk + val xs / gk) / 2))) => iAgainst av4 av9 _ _ cv4 cv9 _ _ w' h'.inI h.inI (digs_natL _) (digs_natL _) (topped_natL _) (topped_natL _))
    rw [val_natL, val_natL] at AG
    have na := hd (newton_above (a := val xs) g1)
    have np := hd (newton_pos hA9.out g1)
    have ns := hd (newton_stop (a := val xs) g1)
    have g1' := hd g1
    have g2' := hd g2
    have g3' := hd g3
    clear hsl hql hlk hlk0 g1 g2 g3
    generalize hnx : (gk + val xs / gk) / 2 = nx at *
    generalize natL (gk + val xs / gk) = sl at *
    generalize natL (val xs / gk) = ql at *
    by_cases hge : gk ≤ nx
    · have hrr := hd (hu.out gk ⟨ns.out hge, g3'.out⟩)
      have hc : 0 ≤ cmpI nx gk := by unfold cmpI; rw [if_neg (by omega)]; split <;> omega
      clear hnx
      generalize cmpI nx gk = cz at *
      generalize natL nx = nl at *
      go_wp2_with fail
      refine C.out.mono ?_
      rintro e w3 ⟨⟨avq, cvq, avr, cvr, rfl, hOq, hOr, -⟩, hb3⟩
      go_wp2_with fail
      refine (P.out _ _ _ _ (hO.later hb3) hOq).mono ?_
      rintro e w4 ⟨⟨avs, cvs, rfl, hOs⟩, hb4⟩
      go_wp2_with fail
      refine (DN.out _ _ _ _ hOs).mono ?_
      rintro e w5 ⟨⟨avn, cvn, rfl, hOn⟩, hb5⟩
      go_wp2_with fail
      refine (AG.out _ _ _ _ (((hO.later hb3).later hb4).later hb5) hOn).mono ?_
      rintro e w6 ⟨rfl, hb6⟩
      go_wp2
      go_ret
      have h9 : gk = r := hrr.out
      subst h9
      exact ⟨⟨_, _, rfl, (((hO.later hb3).later hb4).later hb5).later hb6⟩, old_trans (old_trans (old_trans (old_trans hB hb3) hb4) hb5) hb6⟩
    · have hc : cmpI nx gk = -1 := cmpI_lt (by omega)
      rw [hc] at AG
      have hlt9 : Hid (nx < gk ∧ nx ≤ R0) := ⟨by omega, by have := g2'.out; omega⟩
      clear hnx hge hc
      go_wp2_with fail
      refine C.out.mono ?_
      rintro e w3 ⟨⟨avq, cvq, avr, cvr, rfl, hOq, hOr, -⟩, hb3⟩
      go_wp2_with fail
      refine (P.out _ _ _ _ (hO.later hb3) hOq).mono ?_
      rintro e w4 ⟨⟨avs, cvs, rfl, hOs⟩, hb4⟩
      go_wp2_with fail
      refine (DN.out _ _ _ _ hOs).mono ?_
      rintro e w5 ⟨⟨avn, cvn, rfl, hOn⟩, hb5⟩
      go_wp2_with fail
      refine (AG.out _ _ _ _ (((hO.later hb3).later hb4).later hb5) hOn).mono ?_
      rintro e w6 ⟨rfl, hb6⟩
      have s3 := hb3.size
      have s4 := hb4.size
      have sB := hB.size
      go_wp2_with fail
      go_roundg nx
      case measure => exact hlt9.out.1
      case rel => exact ⟨avn, cvn, np.out, hlt9.out.2, rfl, (hOn.later hb6).mono (by omega), na.out, old_trans (old_trans (old_trans (old_trans hB hb3) hb4) hb5) hb6⟩
end Go.Proofs.YtekhokemekaeoaaGreatDoor

/- Square roots of numbers, down: the specification's bits; both, if they are numbers. No condition. -/
namespace Go.Proofs.YtekhokemekaeoaaGreatDoor
open Go.RowKit
set_option linter.unusedVariables false
set_option maxRecDepth 100000

set_option maxRecDepth 100000 in
set_option maxHeartbeats 4000000 in
theorem sRoot (a : Option Addr) (len cap : Nat) (xs : List Int) (r : Nat) (w : World) (hR : InI w a len cap xs) (hok : natOk xs = true) (hr : isRoot (val xs) r) :
    Calls Tryz.prog 78 #[.slice a len cap] w fun e w' => (∃ av cv, e = .returned (.slice av (natL r).length cv) ∧ OI w' w.heap.size av cv (natL r)) ∧ Below w.heap.size w w' := by
  have q := natOk_in hok
  have hp := hR.1
  have L := hd (sBits a len cap xs w hR q.2.1 (by omega))
  have bb := bitsN_bd hok
  have hup : val xs < 2 ^ (bitsN xs).toNat := by
    by_cases h0 : xs.length = 0
    · have : xs = [] := List.length_eq_zero_iff.1 h0
      subst this
      simp [val, bitsN]
    · exact bits_up q.2.1 h0
  obtain ⟨K, hK, hK2⟩ := half_up bb.1 hup
  have hKq : (bitsN xs + 1).tdiv 2 = (K : Int) := by rw [Int.tdiv_eq_ediv_of_nonneg (by omega)]; exact hK
  have hK3 : K ≤ 2049 := by omega
  have hs0 : Hid (val xs < (0 + 2 ^ (K + 1)) * (0 + 2 ^ (K + 1))) := by
    show _ < _
    rw [Nat.zero_add]
    exact Nat.lt_of_lt_of_le hK2 (Nat.mul_le_mul (Nat.pow_le_pow_right (by omega) (by omega)) (Nat.pow_le_pow_right (by omega) (by omega)))
  have hu := hd (fun s (h : isRoot (val xs) s) => isRoot_one h hr)
  have hlt := hd (natOk_lt hok)
  have hxd := q.2.1
  have hxt := q.2.2
  have hl := q.1
  clear q hK2 hok hr hup
  generalize bitsN xs = bt at *
  have hbt : bt + 1 ≤ 4097 := by omega
  have hbt0 : 0 ≤ bt + 1 := by omega
  go_enter Tryz.func78, Tryz.ntmps78
  go_wp2_with fail
  refine L.out.mono ?_
  rintro e w1 ⟨rfl, hw1⟩
  obtain rfl : w = w1 := hw1.symm
  clear hw1
  go_wp2_with fail
  go_loopw [3, 4] (fun s i wr => ∃ (j : Nat) (v : Nat) (av : Option Addr) (cv : Nat), j ≤ K + 1 ∧ i = .int .i64 ((j : Int) - 1) ∧ s = .slice av (natL v).length cv ∧ OI wr w.heap.size av cv (natL v) ∧ v * v ≤ val xs ∧ val xs < (v + 2 ^ j) * (v + 2 ^ j) ∧ Below w.heap.size w wr) (fun _ i _ => (intOf i + 1).toNat)
  case atStart => exact ⟨K + 1, 0, none, 0, Nat.le_refl _, by congr 1; omega, by rw [natL_zero]; rfl, by rw [natL_zero]; exact OI.none _ _, by simp, hs0.out, Below.refl _ _⟩
  case round =>
    clear L hs0
    obtain ⟨j, v, av, cv, hj, rfl, rfl, hO, hv1, hv2, hB⟩ := hrel
    by_cases h0 : j = 0
    · subst h0
      have hrr := hd (hu.out v ⟨hv1, by simpa using hv2⟩)
      clear hv1 hv2
      go_wp2
      go_ret
      have h9 : v = r := hrr.out
      subst h9
      exact ⟨⟨_, _, rfl, hO⟩, hB⟩
    · obtain ⟨k, rfl⟩ : ∃ k, j = k + 1 := ⟨j - 1, by omega⟩
      have hk : k ≤ 2049 := by omega
      have ekI : ((k + 1 : Nat) : Int) - 1 = (k : Int) := by omega
      rw [ekI]
      have P := hd (fun w' => sPow2n k w' (by omega))
      have hvl := root_len (Nat.le_trans sq_ge hv1) hlt.out
      have hpl : (natL (2 ^ k)).length ≤ k + 1 := natL_len.2 (Nat.lt_of_le_of_lt (Nat.pow_le_pow_left (show 2 ≤ 65536 by omega) k) (Nat.pow_lt_pow_right (show 1 < 65536 by omega) (by omega)))
      have AD := hd (fun av2 cv2 base w' (h : OI w' w.heap.size av cv (natL v)) (h' : OI w' base av2 cv2 (natL (2 ^ k))) => sAdd av av2 _ _ cv cv2 _ _ w' h.inI h'.inI (digs_natL _) (digs_natL _) (topped_natL _) (topped_natL _) (by omega) (by omega))
      rw [val_natL, val_natL] at AD
      have hml := sum_len (natL_lt_pow v) (natL_lt_pow (2 ^ k))
      have ML := hd (fun av3 cv3 base w' (h : OI w' base av3 cv3 (natL (v + 2 ^ k))) => sMul av3 av3 _ _ cv3 cv3 _ _ w' h.inI h.inI (digs_natL _) (digs_natL _) (by omega) (by omega))
      rw [val_natL] at ML
      have CP := hd (fun av4 cv4 base w' (hb : Below w.heap.size w w') (h : OI w' base av4 cv4 (natL ((v + 2 ^ k) * (v + 2 ^ k)))) => sCmp av4 a _ len cv4 cap _ xs w' h.inI (hR.old hb) (digs_natL _) hxd (topped_natL _) hxt)
      rw [val_natL] at CP
      have hs1 : Hid ((v + 2 ^ k) * (v + 2 ^ k) ≤ val xs → val xs < (v + 2 ^ k + 2 ^ k) * (v + 2 ^ k + 2 ^ k)) := fun _ => by
        rw [show v + 2 ^ k + 2 ^ k = v + 2 ^ (k + 1) by rw [Nat.pow_succ]; omega]
        exact hv2
      have hv1' := hd hv1
      have hki : (k : Int) ≤ 2049 := by omega
      have hki0 : (0 : Int) ≤ (k : Int) := by omega
      have hjK : Hid (k ≤ K + 1) := by show _ ≤ _; omega
      clear hvl hpl hml hv1 hv2 hj h0
      by_cases hle : (v + 2 ^ k) * (v + 2 ^ k) ≤ val xs
      · have hc : cmpI ((v + 2 ^ k) * (v + 2 ^ k)) (val xs) ≤ 0 := by unfold cmpI; split <;> (try split) <;> omega
        have hle' := hd hle
        clear hle ekI hk
        generalize cmpI ((v + 2 ^ k) * (v + 2 ^ k)) (val xs) = cz at *
        generalize natL (2 ^ k) = pl at *
        generalize natL ((v + 2 ^ k) * (v + 2 ^ k)) = ml at *
        generalize hkI : (k : Int) = kI at *
        go_wp2_with fail
        refine (P.out _).mono ?_
        rintro e w2 ⟨⟨av2, cv2, rfl, hO2⟩, hb2⟩
        go_wp2_with fail
        refine (AD.out _ _ _ _ (hO.later hb2) hO2).mono ?_
        rintro e w3 ⟨⟨av3, cv3, rfl, hO3⟩, hb3⟩
        go_wp2_with fail
        refine (ML.out _ _ _ _ hO3).mono ?_
        rintro e w4 ⟨⟨av4, cv4, rfl, hO4⟩, hb4⟩
        have hB4 := old_trans (old_trans (old_trans hB hb2) hb3) hb4
        go_wp2_with fail
        refine (CP.out _ _ _ _ hB4 hO4).mono ?_
        rintro e w5 ⟨rfl, hb5⟩
        have t1 := hB.size
        have t2 := hb2.size
        go_wp2_with fail
        go_roundw
        case rel => exact ⟨k, v + 2 ^ k, av3, cv3, hjK.out, by rw [hkI], rfl, ((hO3.later hb4).later hb5).mono (by omega), hle'.out, hs1.out hle'.out, old_trans hB4 hb5⟩
        case measure => (subst hkI; simp [intOf] <;> omega)
      · have hc : cmpI ((v + 2 ^ k) * (v + 2 ^ k)) (val xs) = 1 := cmpI_gt (by omega)
        rw [hc] at CP
        have hle' : Hid (val xs < (v + 2 ^ k) * (v + 2 ^ k)) := by show _ < _; omega
        clear hle ekI hk hc
        generalize natL (2 ^ k) = pl at *
        generalize natL ((v + 2 ^ k) * (v + 2 ^ k)) = ml at *
        generalize hkI : (k : Int) = kI at *
        go_wp2_with fail
        refine (P.out _).mono ?_
        rintro e w2 ⟨⟨av2, cv2, rfl, hO2⟩, hb2⟩
        go_wp2_with fail
        refine (AD.out _ _ _ _ (hO.later hb2) hO2).mono ?_
        rintro e w3 ⟨⟨av3, cv3, rfl, hO3⟩, hb3⟩
        go_wp2_with fail
        refine (ML.out _ _ _ _ hO3).mono ?_
        rintro e w4 ⟨⟨av4, cv4, rfl, hO4⟩, hb4⟩
        have hB4 := old_trans (old_trans (old_trans hB hb2) hb3) hb4
        go_wp2_with fail
        refine (CP.out _ _ _ _ hB4 hO4).mono ?_
        rintro e w5 ⟨rfl, hb5⟩
        go_wp2_with fail
        go_roundw
        case rel => exact ⟨k, v, av, cv, hjK.out, by rw [hkI], rfl, (((hO.later hb2).later hb3).later hb4).later hb5, hv1'.out, hle'.out, old_trans hB4 hb5⟩
        case measure => (subst hkI; simp [intOf] <;> omega)
end Go.Proofs.YtekhokemekaeoaaGreatDoor

/- Square roots of numbers, if they are numbers: by the program and by the specification. No condition. -/
namespace Go.Proofs.YtekhokemekaeoaaGreatDoor
open Go.RowKit
set_option linter.unusedVariables false
set_option maxRecDepth 100000

def rootX (xs : List Int) (r : Nat) : Bool := natOk xs && decide (r * r = val xs)
theorem rootN_len {xs : List Int} {r : Nat} (hr : isRoot (val xs) r) : (resN (natOk xs) r).length ≤ 1048576 := by
  cases h : natOk xs
  · show ([] : List Int).length ≤ 1048576
    simp
  · show (natL r).length ≤ 1048576
    have := root_len (Nat.le_trans sq_ge hr.1) (natOk_lt h)
    omega
set_option maxHeartbeats 2000000 in
theorem iNatRoot (a : Option Addr) (len cap : Nat) (xs : List Int) (r : Nat) (hr : isRoot (val xs) r) (w : World) (hR : InI w a len cap xs) :
    Calls Tryz.prog 77 #[.slice a len cap] w fun e w' => (∃ av cv, e = .returned (.tuple #[.slice av (resN (natOk xs) r).length cv, .bool (rootX xs r), .bool (natOk xs)]) ∧ OI w' w.heap.size av cv (resN (natOk xs) r)) ∧ Below w.heap.size w w' := by
  have hlen := hR.len
  have hp := hR.1
  have K1 := hd (iNatOk a len cap xs w hR)
  cases h1 : natOk xs
  · have e : rootX xs r = false := by unfold rootX; rw [h1]; rfl
    rw [e]
    show Calls _ _ _ _ fun e w' => (∃ av cv, e = .returned (.tuple #[.slice av 0 cv, .bool false, .bool false]) ∧ OI w' w.heap.size av cv []) ∧ Below w.heap.size w w'
    rw [h1] at K1
    clear e h1 hr
    go_enter Tryz.func77, Tryz.ntmps77
    go_wp2_with fail
    refine K1.out.mono ?_
    rintro e w1 ⟨rfl, rfl⟩
    go_wp2
    go_ret3
    exact ⟨⟨_, _, rfl, OI.none _ _⟩, Below.refl _ _⟩
  rw [h1] at K1
  have e : rootX xs r = decide (r * r = val xs) := by unfold rootX; rw [h1]; rfl
  rw [e]
  show Calls _ _ _ _ fun e w' => (∃ av cv, e = .returned (.tuple #[.slice av (natL r).length cv, .bool (decide (r * r = val xs)), .bool true]) ∧ OI w' w.heap.size av cv (natL r)) ∧ Below w.heap.size w w'
  have q := natOk_in h1
  have T := hd (iRoot a len cap xs r w hR h1 hr)
  have hrl := root_len (Nat.le_trans sq_ge hr.1) (natOk_lt h1)
  have M := hd (fun av cv base w' (h : OI w' base av cv (natL r)) => iTimes av av _ _ cv cv _ _ w' h.inI h.inI (digs_natL _) (digs_natL _) (by omega) (by omega))
  rw [val_natL] at M
  have C := hd (fun av2 cv2 base w' (hb : Below w.heap.size w w') (h : OI w' base av2 cv2 (natL (r * r))) => iAgainst av2 a _ len cv2 cap _ xs w' h.inI (hR.old hb) (digs_natL _) q.2.1 (topped_natL _) q.2.2)
  rw [val_natL] at C
  have hcz : Hid ((cmpI (r * r) (val xs) == 0) = decide (r * r = val xs)) := by
    show _ = _
    rcases Nat.lt_trichotomy (r * r) (val xs) with g | g | g
    · rw [cmpI_lt g, decide_eq_false (by omega)]; rfl
    · rw [g, cmpI_eq, decide_eq_true rfl]; rfl
    · rw [cmpI_gt g, decide_eq_false (by omega)]; rfl
  clear e h1 hr q hrl
  generalize natL (r * r) = sl at *
  generalize hdec : decide (r * r = val xs) = bx at *
  generalize cmpI (r * r) (val xs) = cz at *
  generalize natL r = ql at *
  go_enter Tryz.func77, Tryz.ntmps77
  go_wp2_with fail
  refine K1.out.mono ?_
  rintro e w1 ⟨rfl, rfl⟩
  go_wp2_with fail
  refine T.out.mono ?_
  rintro e w2 ⟨⟨av, cv, rfl, hO⟩, hb2⟩
  go_wp2_with fail
  refine (M.out _ _ _ _ hO).mono ?_
  rintro e w3 ⟨⟨av3, cv3, rfl, hO3⟩, hb3⟩
  have hB3 := old_trans hb2 hb3
  go_wp2_with fail
  refine (C.out _ _ _ _ hB3 hO3).mono ?_
  rintro e w4 ⟨rfl, hb4⟩
  have hcz' := hcz.out
  go_wp2
  go_ret3
  exact ⟨⟨_, _, rfl, (hO.later hb3).later hb4⟩, old_trans hB3 hb4⟩
set_option maxHeartbeats 2000000 in
theorem sNatRoot (a : Option Addr) (len cap : Nat) (xs : List Int) (r : Nat) (hr : isRoot (val xs) r) (w : World) (hR : InI w a len cap xs) :
    Calls Tryz.prog 51 #[.slice a len cap] w fun e w' => (∃ av cv, e = .returned (.tuple #[.slice av (resN (natOk xs) r).length cv, .bool (rootX xs r), .bool (natOk xs)]) ∧ OI w' w.heap.size av cv (resN (natOk xs) r)) ∧ Below w.heap.size w w' := by
  have hlen := hR.len
  have hp := hR.1
  have K1 := hd (sNatOk a len cap xs w hR)
  cases h1 : natOk xs
  · have e : rootX xs r = false := by unfold rootX; rw [h1]; rfl
    rw [e]
    show Calls _ _ _ _ fun e w' => (∃ av cv, e = .returned (.tuple #[.slice av 0 cv, .bool false, .bool false]) ∧ OI w' w.heap.size av cv []) ∧ Below w.heap.size w w'
    rw [h1] at K1
    clear e h1 hr
    go_enter Tryz.func51, Tryz.ntmps51
    go_wp2_with fail
    refine K1.out.mono ?_
    rintro e w1 ⟨rfl, rfl⟩
    go_wp2
    go_ret3
    exact ⟨⟨_, _, rfl, OI.none _ _⟩, Below.refl _ _⟩
  rw [h1] at K1
  have e : rootX xs r = decide (r * r = val xs) := by unfold rootX; rw [h1]; rfl
  rw [e]
  show Calls _ _ _ _ fun e w' => (∃ av cv, e = .returned (.tuple #[.slice av (natL r).length cv, .bool (decide (r * r = val xs)), .bool true]) ∧ OI w' w.heap.size av cv (natL r)) ∧ Below w.heap.size w w'
  have q := natOk_in h1
  have T := hd (sRoot a len cap xs r w hR h1 hr)
  have hrl := root_len (Nat.le_trans sq_ge hr.1) (natOk_lt h1)
  have M := hd (fun av cv base w' (h : OI w' base av cv (natL r)) => sMul av av _ _ cv cv _ _ w' h.inI h.inI (digs_natL _) (digs_natL _) (by omega) (by omega))
  rw [val_natL] at M
  have C := hd (fun av2 cv2 base w' (hb : Below w.heap.size w w') (h : OI w' base av2 cv2 (natL (r * r))) => sCmp av2 a _ len cv2 cap _ xs w' h.inI (hR.old hb) (digs_natL _) q.2.1 (topped_natL _) q.2.2)
  rw [val_natL] at C
  have hcz : Hid ((cmpI (r * r) (val xs) == 0) = decide (r * r = val xs)) := by
    show _ = _
    rcases Nat.lt_trichotomy (r * r) (val xs) with g | g | g
    · rw [cmpI_lt g, decide_eq_false (by omega)]; rfl
    · rw [g, cmpI_eq, decide_eq_true rfl]; rfl
    · rw [cmpI_gt g, decide_eq_false (by omega)]; rfl
  clear e h1 hr q hrl
  generalize natL (r * r) = sl at *
  generalize hdec : decide (r * r = val xs) = bx at *
  generalize cmpI (r * r) (val xs) = cz at *
  generalize natL r = ql at *
  go_enter Tryz.func51, Tryz.ntmps51
  go_wp2_with fail
  refine K1.out.mono ?_
  rintro e w1 ⟨rfl, rfl⟩
  go_wp2_with fail
  refine T.out.mono ?_
  rintro e w2 ⟨⟨av, cv, rfl, hO⟩, hb2⟩
  go_wp2_with fail
  refine (M.out _ _ _ _ hO).mono ?_
  rintro e w3 ⟨⟨av3, cv3, rfl, hO3⟩, hb3⟩
  have hB3 := old_trans hb2 hb3
  go_wp2_with fail
  refine (C.out _ _ _ _ hB3 hO3).mono ?_
  rintro e w4 ⟨rfl, hb4⟩
  have hcz' := hcz.out
  go_wp2
  go_ret3
  exact ⟨⟨_, _, rfl, (hO.later hb3).later hb4⟩, old_trans hB3 hb4⟩
end Go.Proofs.YtekhokemekaeoaaGreatDoor
