/- Square roots of numbers, down: the specification's bits; both, if they are numbers. No condition. -/
import Derived.Test.YtmbagnjicollgaaGreatDoorVF
namespace Go.Proofs.YtmbagnjicollgaaGreatDoor
open Go.RowKit
set_option linter.unusedVariables false
set_option maxRecDepth 100000

set_option maxRecDepth 100000 in
set_option maxHeartbeats 4000000 in
theorem sRoot (a : Option Addr) (len cap : Nat) (xs : List Int) (r : Nat) (w : World) (hR : InI w a len cap xs) (hok : natOk xs = true) (hr : isRoot (val xs) r) :
    Calls Tryz.prog 34 #[.slice a len cap] w fun e w' => (∃ av cv, e = .returned (.slice av (natL r).length cv) ∧ OI w' w.heap.size av cv (natL r)) ∧ Below w.heap.size w w' := by
  have q := natOk_in hok
  have hp := hR.1
  have L := hd (sBits a len cap xs w hR q.2.1 (by omega))
  have bb := bitsN_bd hok
  have hup : val xs < 2 ^ (bitsN xs).toNat := by
    by_cases h0 : xs.length = 0
    · have : xs = [] := List.length_eq_zero_iff.1 h0
      subst this
      simp [val, bitsN]
    · exact bits_up q.2.1 h0
  obtain ⟨K, hK, hK2⟩ := half_up bb.1 hup
  have hKq : (bitsN xs + 1).tdiv 2 = (K : Int) := by rw [Int.tdiv_eq_ediv_of_nonneg (by omega)]; exact hK
  have hK3 : K ≤ 2049 := by omega
  have hs0 : Hid (val xs < (0 + 2 ^ (K + 1)) * (0 + 2 ^ (K + 1))) := by
    show _ < _
    rw [Nat.zero_add]
    exact Nat.lt_of_lt_of_le hK2 (Nat.mul_le_mul (Nat.pow_le_pow_right (by omega) (by omega)) (Nat.pow_le_pow_right (by omega) (by omega)))
  have hu := hd (fun s (h : isRoot (val xs) s) => isRoot_one h hr)
  have hlt := hd (natOk_lt hok)
  have hxd := q.2.1
  have hxt := q.2.2
  have hl := q.1
  clear q hK2 hok hr hup
  generalize bitsN xs = bt at *
  have hbt : bt + 1 ≤ 4097 := by omega
  have hbt0 : 0 ≤ bt + 1 := by omega
  go_enter Tryz.func34, Tryz.ntmps34
  go_wp2_with fail
  refine L.out.mono ?_
  rintro e w1 ⟨rfl, hw1⟩
  obtain rfl : w = w1 := hw1.symm
  clear hw1
  go_wp2_with fail
  go_loopw [3, 4] (fun s i wr => ∃ (j : Nat) (v : Nat) (av : Option Addr) (cv : Nat), j ≤ K + 1 ∧ i = .int .i64 ((j : Int) - 1) ∧ s = .slice av (natL v).length cv ∧ OI wr w.heap.size av cv (natL v) ∧ v * v ≤ val xs ∧ val xs < (v + 2 ^ j) * (v + 2 ^ j) ∧ Below w.heap.size w wr) (fun _ i _ => (intOf i + 1).toNat)
  case atStart => exact ⟨K + 1, 0, none, 0, Nat.le_refl _, by congr 1; omega, by rw [natL_zero]; rfl, by rw [natL_zero]; exact OI.none _ _, by simp, hs0.out, Below.refl _ _⟩
  case round =>
    clear L hs0
    obtain ⟨j, v, av, cv, hj, rfl, rfl, hO, hv1, hv2, hB⟩ := hrel
    by_cases h0 : j = 0
    · subst h0
      have hrr := hd (hu.out v ⟨hv1, by simpa using hv2⟩)
      clear hv1 hv2
      go_wp2
      go_ret
      have h9 : v = r := hrr.out
      subst h9
      exact ⟨⟨_, _, rfl, hO⟩, hB⟩
    · obtain ⟨k, rfl⟩ : ∃ k, j = k + 1 := ⟨j - 1, by omega⟩
      have hk : k ≤ 2049 := by omega
      have ekI : ((k + 1 : Nat) : Int) - 1 = (k : Int) := by omega
      rw [ekI]
      have P := hd (fun w' => sPow2n k w' (by omega))
      have hvl := root_len (Nat.le_trans sq_ge hv1) hlt.out
      have hpl : (natL (2 ^ k)).length ≤ k + 1 := natL_len.2 (Nat.lt_of_le_of_lt (Nat.pow_le_pow_left (show 2 ≤ 65536 by omega) k) (Nat.pow_lt_pow_right (show 1 < 65536 by omega) (by omega)))
      have AD := hd (fun av2 cv2 base w' (h : OI w' w.heap.size av cv (natL v)) (h' : OI w' base av2 cv2 (natL (2 ^ k))) => sAdd av av2 _ _ cv cv2 _ _ w' h.inI h'.inI (digs_natL _) (digs_natL _) (topped_natL _) (topped_natL _) (by omega) (by omega))
      rw [val_natL, val_natL] at AD
      have hml := sum_len (natL_lt_pow v) (natL_lt_pow (2 ^ k))
      have ML := hd (fun av3 cv3 base w' (h : OI w' base av3 cv3 (natL (v + 2 ^ k))) => sMul av3 av3 _ _ cv3 cv3 _ _ w' h.inI h.inI (digs_natL _) (digs_natL _) (by omega) (by omega))
      rw [val_natL] at ML
      have CP := hd (fun av4 cv4 base w' (hb : Below w.heap.size w w') (h : OI w' base av4 cv4 (natL ((v + 2 ^ k) * (v + 2 ^ k)))) => sCmp av4 a _ len cv4 cap _ xs w' h.inI (hR.old hb) (digs_natL _) hxd (topped_natL _) hxt)
      rw [val_natL] at CP
      have hs1 : Hid ((v + 2 ^ k) * (v + 2 ^ k) ≤ val xs → val xs < (v + 2 ^ k + 2 ^ k) * (v + 2 ^ k + 2 ^ k)) := fun _ => by
        rw [show v + 2 ^ k + 2 ^ k = v + 2 ^ (k + 1) by rw [Nat.pow_succ]; omega]
        exact hv2
      have hv1' := hd hv1
      have hki : (k : Int) ≤ 2049 := by omega
      have hki0 : (0 : Int) ≤ (k : Int) := by omega
      have hjK : Hid (k ≤ K + 1) := by show _ ≤ _; omega
      clear hvl hpl hml hv1 hv2 hj h0
      by_cases hle : (v + 2 ^ k) * (v + 2 ^ k) ≤ val xs
      · have hc : cmpI ((v + 2 ^ k) * (v + 2 ^ k)) (val xs) ≤ 0 := by unfold cmpI; split <;> (try split) <;> omega
        have hle' := hd hle
        clear hle ekI hk
        generalize cmpI ((v + 2 ^ k) * (v + 2 ^ k)) (val xs) = cz at *
        generalize natL (2 ^ k) = pl at *
        generalize natL ((v + 2 ^ k) * (v + 2 ^ k)) = ml at *
        generalize hkI : (k : Int) = kI at *
        go_wp2_with fail
        refine (P.out _).mono ?_
        rintro e w2 ⟨⟨av2, cv2, rfl, hO2⟩, hb2⟩
        go_wp2_with fail
        refine (AD.out _ _ _ _ (hO.later hb2) hO2).mono ?_
        rintro e w3 ⟨⟨av3, cv3, rfl, hO3⟩, hb3⟩
        go_wp2_with fail
        refine (ML.out _ _ _ _ hO3).mono ?_
        rintro e w4 ⟨⟨av4, cv4, rfl, hO4⟩, hb4⟩
        have hB4 := old_trans (old_trans (old_trans hB hb2) hb3) hb4
        go_wp2_with fail
        refine (CP.out _ _ _ _ hB4 hO4).mono ?_
        rintro e w5 ⟨rfl, hb5⟩
        have t1 := hB.size
        have t2 := hb2.size
        go_wp2_with fail
        go_roundw
        case rel => exact ⟨k, v + 2 ^ k, av3, cv3, hjK.out, by rw [hkI], rfl, ((hO3.later hb4).later hb5).mono (by omega), hle'.out, hs1.out hle'.out, old_trans hB4 hb5⟩
        case measure => (subst hkI; simp [intOf] <;> omega)
      · have hc : cmpI ((v + 2 ^ k) * (v + 2 ^ k)) (val xs) = 1 := cmpI_gt (by omega)
        rw [hc] at CP
        have hle' : Hid (val xs < (v + 2 ^ k) * (v + 2 ^ k)) := by show _ < _; omega
        clear hle ekI hk hc
        generalize natL (2 ^ k) = pl at *
        generalize natL ((v + 2 ^ k) * (v + 2 ^ k)) = ml at *
        generalize hkI : (k : Int) = kI at *
        go_wp2_with fail
        refine (P.out _).mono ?_
        rintro e w2 ⟨⟨av2, cv2, rfl, hO2⟩, hb2⟩
        go_wp2_with fail
        refine (AD.out _ _ _ _ (hO.later hb2) hO2).mono ?_
        rintro e w3 ⟨⟨av3, cv3, rfl, hO3⟩, hb3⟩
        go_wp2_with fail
        refine (ML.out _ _ _ _ hO3).mono ?_
        rintro e w4 ⟨⟨av4, cv4, rfl, hO4⟩, hb4⟩
        have hB4 := old_trans (old_trans (old_trans hB hb2) hb3) hb4
        go_wp2_with fail
        refine (CP.out _ _ _ _ hB4 hO4).mono ?_
        rintro e w5 ⟨rfl, hb5⟩
        go_wp2_with fail
        go_roundw
        case rel => exact ⟨k, v, av, cv, hjK.out, by rw [hkI], rfl, (((hO.later hb2).later hb3).later hb4).later hb5, hv1'.out, hle'.out, old_trans hB4 hb5⟩
        case measure => (subst hkI; simp [intOf] <;> omega)
end Go.Proofs.YtmbagnjicollgaaGreatDoor
