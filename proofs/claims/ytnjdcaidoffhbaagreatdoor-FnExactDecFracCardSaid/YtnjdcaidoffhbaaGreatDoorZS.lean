/- DecFrac of the specification. Nothing that was there is written. No condition but the text's length. -/
import Derived.Test.YtnjdcaidoffhbaaGreatDoorZW
namespace Go.Proofs.YtnjdcaidoffhbaaGreatDoor
open Go.RowKit
set_option linter.unusedVariables false
set_option maxRecDepth 100000

theorem resSF {W : World} {b : Nat} {v0 v1 v2 r : Value} {tmps : Array Value} (h : Cel3 W b v0 v1 v2) (ht : tmps[2]? = some (.pointer (some ⟨b, 0, none⟩))) (h3 : tmps[3]? = some r) : (results Tryz.f4 tmps).run Tryz.prog W = .ok (.tuple #[.agg #[v0, v1, v2], r]) W := by
  obtain ⟨h1, ⟨a0, a1, a2⟩, -⟩ := h
  simp [results, Tryz.results4, go_sem, a0, a1, a2, ht, h3]
set_option maxRecDepth 100000 in
set_option maxHeartbeats 2000000 in
theorem sTensT (k : Nat) (hk : k ≤ 511) (w : World) : Calls Tryz.prog 16 #[.int .i64 (k : Int)] w fun e w' => (∃ av cv, e = .returned (.slice av (natL (10 ^ k)).length cv) ∧ OI w' w.heap.size av cv (natL (10 ^ k))) ∧ Below w.heap.size w w' := by
  have e1 : natL 1 = [1] := by rw [natL_pos (by decide), show 1 / 65536 = 0 from rfl, natL_zero]; rfl
  have hal : Below w.heap.size w (w.alloc (.cells #[.int .i64 1] 3)) := old_alloc (Below.refl _ _) _
  have O0 : OI (w.alloc (.cells #[.int .i64 1] 3)) w.heap.size (some ⟨w.heap.size, 0, none⟩) 1 (natL 1) := by
    rw [e1]
    exact ⟨fun x hx => by rw [List.mem_singleton] at hx; subst hx; decide, Nat.le_refl _, by decide, .inr ⟨w.heap.size, rfl, Nat.le_refl _, by simp, fun i hi => by obtain rfl : i = 0 := (by simp at hi; omega); simp⟩⟩
  have hkI : (k : Int) ≤ 511 := by omega
  have l1 : (natL 1).length = 1 := by rw [e1]; rfl
  go_enter Tryz.func16, Tryz.ntmps16
  go_wp2_with fail
  generalize hW0 : w.alloc (.cells #[.int .i64 1] 3) = W0 at *
  clear hW0
  go_loopw [3, 4] (fun s i wr => ∃ (j : Nat) (av : Option Addr) (cv : Nat), j ≤ k ∧ s = .slice av (natL (10 ^ j)).length cv ∧ i = .int .i64 (j : Int) ∧ OI wr w.heap.size av cv (natL (10 ^ j)) ∧ Below w.heap.size w wr) (fun _ i _ => k - (intOf i).toNat)
  case atStart => exact ⟨0, some ⟨w.heap.size, 0, none⟩, 1, by omega, by rw [Nat.pow_zero, l1], rfl, by rw [Nat.pow_zero]; exact O0, hal⟩
  case round =>
    clear O0 hal
    obtain ⟨j, av, cv, hj, rfl, rfl, O, hB⟩ := hrel
    by_cases hlt : j < k
    · have T := hd (sTimes av _ cv (natL (10 ^ j)) 10 wr O.inI (digs_natL _) (show dig 10 from ⟨by decide, by decide⟩) (by have := tenT (k := j) (by omega); omega))
      have hjI : (j : Int) < (k : Int) := by omega
      rw [val_natL, show (10 : Int).toNat = 10 from rfl, ← Nat.pow_succ] at T
      go_wp2_with fail
      refine T.out.mono ?_
      rintro e w1 ⟨⟨av2, cv2, rfl, O2⟩, hb1⟩
      have hs := hB.size
      go_wp2
      go_roundw
      case rel => exact ⟨j + 1, av2, cv2, by omega, rfl, by go_num, O2.mono hs, old_trans hB hb1⟩
      case measure => simp [intOf]; omega
    · obtain rfl : j = k := by omega
      have hjI : ¬ ((j : Int) < (j : Int)) := by omega
      go_wp2
      go_ret
      exact ⟨⟨_, _, rfl, O⟩, hB⟩
set_option maxRecDepth 100000 in
set_option maxHeartbeats 8000000 in
theorem sDecFrac (s : ByteArray) (hs : s.size ≤ maxLen) (w : World) :
    Calls Tryz.prog 4 #[.string s] w fun e w' => FRes w' w.heap.size e (dcOk s) false (dcA s) (dcB s) ∧ Below w.heap.size w w' := by
  have R := Cel3.new w (.bool false) (.slice none 0 0) (.slice none 0 0) 24
  have e0 : Below w.heap.size w (w.alloc (.cells #[.bool false, .slice none 0 0, .slice none 0 0] 24)) := (by repeat (first | exact Below.refl _ _ | refine Below.drew ?_ | refine old_alloc ?_ _ | refine old_trans ?_ (by assumption)))
  have LP := hd (fun w' => sPartsF s hs w')
  cases hdS : decS s
  · have hno : Hid (dcOk s = false) := by show _ = _; unfold dcOk; rw [hdS]; rfl
    rw [hdS] at LP
    clear hdS
    go_enter Tryz.func4, Tryz.ntmps4
    generalize hW0 : w.alloc (.cells #[.bool false, .slice none 0 0, .slice none 0 0] 24) = W0 at *
    go_wp2_with fail
    clear hW0
    refine (LP.out _).mono ?_
    rintro e w1 ⟨⟨d, b, p, rfl, -⟩, rfl⟩
    obtain ⟨m1, ⟨m2, m3, m4⟩, m5, m6, m7⟩ := id R
    go_wp2
    exact bodyPost_ret (resSF (R.setAll (.bool false) (.slice none 0 0) (.slice none 0 0)) rfl rfl) rfl ⟨by rw [hno.out]; exact FRes.no _ _ _ _ _, below_set (below_set (below_set e0 (Nat.le_refl _) _) (Nat.le_refl _) _) (Nat.le_refl _) _⟩
  · obtain ⟨h60, hl, hp400⟩ := lit_some hdS
    have hok : Hid (dcOk s = lowB (dcA s) (dcB s)) := by show _ = _; unfold dcOk; rw [hdS]; rfl
    have hlen := decDs_len h60
    have hdig := hd (decDs_dig s)
    have hp0 := pwE_nn s (pBe s (dn s 0))
    have hA0 : Hid (dcA s = dfA (nv (decDs s) (decDs s).size) (decE s)) := rfl
    have hB0 : Hid (dcB s = dfB (decE s)) := rfl
    have hpb : -400 ≤ decPw s ∧ decPw s ≤ 400 := by unfold decPw; split <;> omega
    have hEd : decE s = decPw s - (nBe s (dn s 0) : Int) := rfl
    rw [hdS] at LP
    generalize dcA s = A9 at *
    generalize dcB s = B9 at *
    generalize decDs s = ds at *
    generalize decPw s = pp at *
    generalize nBe s (dn s 0) = m9 at *
    obtain ⟨E, hE⟩ : ∃ E, decE s = E := ⟨_, rfl⟩
    rw [hE] at hA0 hB0 hEd
    have hEE : pp - (m9 : Int) = E := hEd.symm
    have hEb : -460 ≤ E ∧ E ≤ 400 := by omega
    clear hl hp400 hp0 hdS hE hEd
    go_enter Tryz.func4, Tryz.ntmps4
    generalize hW0 : w.alloc (.cells #[.bool false, .slice none 0 0, .slice none 0 0] 24) = W0 at *
    go_wp2_with fail
    clear hW0
    refine (LP.out _).mono ?_
    rintro e w1 ⟨⟨d, b, p, rfl, hpt⟩, rfl⟩
    obtain ⟨rfl, rfl, rfl⟩ := hpt (by first | rfl | trivial)
    clear hpt LP
    have hszI : (d.size : Int) ≤ 60 := by omega
    go_wp2_with fail
    go_loopw [8, 9] (fun o i wr => ∃ (k : Nat) (av : Option Addr) (cv : Nat), k ≤ d.size ∧ i = .int .i64 k ∧ o = .slice av (natL (nv d k)).length cv ∧ OI wr w1.heap.size av cv (natL (nv d k)) ∧ Below w1.heap.size w1 wr) (fun _ i _ => d.size - (intOf i).toNat)
    case atStart => exact ⟨0, none, 0, by omega, rfl, by simp [nv, natL_zero], by simp only [nv, natL_zero]; exact OI.none _ _, Below.refl _ _⟩
    case round =>
      obtain ⟨k, av, cv, hk, rfl, rfl, O, hb⟩ := hrel
      by_cases hlt : k < d.size
      · have ik := idxS Tryz.underlying9 d k hlt
        have bk := byt_bd d k
        have hkI : (k : Int) < (d.size : Int) := by omega
        have hd9 := hdig.out k hlt
        have hc := isD_b hd9
        have hl9 := natL_len.2 (nv_lt d k)
        have T := hd (fun w' (h : OI w' w1.heap.size av cv (natL (nv d k))) => sTimes av _ cv (natL (nv d k)) 10 w' h.inI (digs_natL _) (by unfold dig; omega) (by omega))
        have NO := hd (fun w' => sNatOf ((byt d k).toNat - 48) (by omega) w')
        have hn2 : ((((byt d k).toNat - 48 : Nat)) : Int) = byt d k - 48 := by omega
        rw [val_natL, show (10 : Int).toNat = 10 from rfl] at T
        rw [hn2] at NO
        have hl10 : (natL (nv d k * 10)).length ≤ 1400 := Nat.le_trans (natL_len.2 (show nv d k * 10 < 65536 ^ (k + 1) by have := nv_lt d k; rw [Nat.pow_succ]; generalize 65536 ^ k = z at *; omega)) (by omega)
        have hl11 : (natL ((byt d k).toNat - 48)).length ≤ 1 := natL_len.2 (by omega)
        have AD := hd (fun a1 c1 a2 c2 b1 b2 w' (h1 : OI w' b1 a1 c1 (natL (nv d k * 10))) (h2 : OI w' b2 a2 c2 (natL ((byt d k).toNat - 48))) => sAdd a1 a2 _ _ c1 c2 _ _ w' h1.inI h2.inI (digs_natL _) (digs_natL _) (topped_natL _) (topped_natL _) (by omega) (by omega))
        rw [val_natL, val_natL] at AD
        have hl12 : (natL (nv d k * 10 + ((byt d k).toNat - 48))).length ≤ 1400 := Nat.le_trans (natL_len.2 (nv_lt d (k + 1))) (by omega)
        have TR := hd (fun a1 c1 b1 w' (h1 : OI w' b1 a1 c1 (natL (nv d k * 10 + ((byt d k).toNat - 48)))) => sTrim a1 _ c1 _ w' h1.inI (digs_natL _) (by omega))
        rw [val_natL] at TR
        have hst : Hid (nv d (k + 1) = nv d k * 10 + ((byt d k).toNat - 48)) := rfl
        clear hl9 hl10 hl11 hl12 hn2 hd9
        generalize natL (nv d k * 10) = l1 at *
        generalize natL ((byt d k).toNat - 48) = l2 at *
        generalize hl3 : natL (nv d k * 10 + ((byt d k).toNat - 48)) = l3 at *
        generalize natL (nv d k) = l0 at *
        generalize hbt : byt d k = bt at *
        have hl3' := hd hl3
        clear hl3
        have q1 : ¬ bt < 48 := by omega
        have q2 : ¬ bt > 57 := by omega
        have z0 := hb.size
        obtain ⟨hc1, hc2⟩ := hc
        have hw1 : IntKind.u8.wrap (bt - 48) = bt - 48 := by rw [IntKind.wrap_u8]; omega
        have hw2 : IntKind.u64.wrap (bt - 48) = bt - 48 := by rw [IntKind.wrap_u64]; omega
        go_wp2_with fail
        go_region_held3 (fun w' => w1.heap.size ≤ w'.heap.size) (go_keep) (first | (go_at_call 12; refine (T.out _ O.drew).mono ?_; rintro e w1 ⟨⟨a1, c1, rfl, O1⟩, hb1⟩; have z1 := Nat.le_trans z0 hb1.size) | (go_at_call 13; refine (NO.out _).mono ?_; rintro e w2 ⟨⟨a2, c2, rfl, O2⟩, hb2⟩; have z2 := Nat.le_trans z1 hb2.size) | (go_at_call 11; refine (AD.out _ _ _ _ _ _ _ (O1.later hb2) O2).mono ?_; rintro e w3 ⟨⟨a3, c3, rfl, O3⟩, hb3⟩; have z3 := Nat.le_trans z2 hb3.size) | (go_at_call 10; refine (TR.out _ _ _ _ O3).mono ?_; rintro e w4 ⟨⟨a4, c4, rfl, O4⟩, hb4⟩; have z4 := Nat.le_trans z3 hb4.size))
        all_goals
          have hB4 := old_trans (old_trans (old_trans (old_trans (Below.drew hb) hb1) hb2) hb3) hb4
          have s3 := (old_trans (old_trans (old_trans (Below.drew hb) hb1) hb2) hb3).size
          go_wp2
          go_roundw
          case rel => exact ⟨k + 1, a4, c4, by omega, by go_num, by rw [hst.out, hl3'.out], by rw [hst.out, hl3'.out]; exact O4.mono s3, hB4⟩
          case measure => simp [intOf]; omega
      · obtain rfl : k = d.size := by omega
        have hni : ¬ ((d.size : Int) < (d.size : Int)) := by omega
        have hv : (natL (nv d d.size)).length ≤ 60 := Nat.le_trans (natL_len.2 (nv_lt d d.size)) hlen.1
        generalize nv d d.size = v at *
        replace R := R.old hb
        have hB := old_trans e0 hb
        have ys := e0.size
        clear hdig
        by_cases hneg : E < 0
        · obtain ⟨q, hq, rfl⟩ : ∃ q : Nat, 0 < q ∧ E = -(q : Int) := ⟨(-E).toNat, by omega, by omega⟩
          have eA : Hid (A9 = v) := by show _ = _; rw [hA0.out]; unfold dfA; rw [if_pos hneg]
          have eB : Hid (B9 = 10 ^ q) := by show _ = _; rw [hB0.out]; unfold dfB; rw [if_pos hneg]; congr 1; omega
          have TP := hd (fun w' => sTensT q (by omega) w')
          have qI : (q : Int) ≤ 460 := by omega
          have q0 : ¬ (-(q : Int) ≥ 0) := by omega
          have q1 : ¬ ((0 : Int) ≤ -(q : Int)) := by omega
          have q2 : (0 : Int) < (q : Int) := by omega
          have MK := hd (fun a c a' c' m m' w' (o : OI w' m a c (natL v)) (o' : OI w' m' a' c' (natL (10 ^ q))) => sL6Make false a a' c c' v (10 ^ q) w' o.inI o'.inI (by omega) (by have := tenT (k := q) (by omega); omega) (Nat.pos_iff_ne_zero.1 (Nat.pow_pos (by decide))))
          clear hA0 hB0 hEb
          go_wp2_with fail
          refine (TP.out _).mono ?_
          rintro e w3 ⟨⟨avT, cvT, rfl, OT⟩, hb3⟩
          replace R := R.old hb3
          replace hB := old_trans hB hb3
          replace O := O.later hb3
          clear hb3 TP
          go_wp2_with fail
          refine (MK.out _ _ _ _ _ _ _ O OT).mono ?_
          rintro e w4 ⟨⟨av1, cv1, av2, cv2, rfl, Q1, Q2, sp⟩, hb4⟩
          have y1 := R.1
          replace R := R.old hb4
          replace hB := old_trans hB hb4
          clear hb4 MK O OT
          obtain ⟨m1, ⟨m2, m3, m4⟩, m5, m6, m7⟩ := id R
          go_wp2
          exact bodyPost_ret (resSF (R.setAll (.bool (fS (lowB v (10 ^ q)) false v)) (.slice av1 (fT (lowB v (10 ^ q)) v (10 ^ q)).length cv1) (.slice av2 (fU (lowB v (10 ^ q)) v (10 ^ q)).length cv2)) rfl rfl) rfl ⟨by rw [hok.out, eA.out, eB.out]; exact ⟨_, _, _, _, rfl, (oi_set3 Q1 y1).mono (Nat.le_of_lt y1), (oi_set3 Q2 y1).mono (Nat.le_of_lt y1), sp⟩, below_set (below_set (below_set hB (Nat.le_refl _) _) (Nat.le_refl _) _) (Nat.le_refl _) _⟩
        · obtain ⟨q, rfl⟩ := Int.eq_ofNat_of_zero_le (show 0 ≤ E by omega)
          have eA : Hid (A9 = v * 10 ^ q) := by show _ = _; rw [hA0.out]; unfold dfA; rw [if_neg hneg, Int.toNat_natCast]
          have eB : Hid (B9 = 1) := by show _ = _; rw [hB0.out]; unfold dfB; rw [if_neg hneg]
          have TP := hd (fun w' => sTensT q (by omega) w')
          have qI : (q : Int) ≤ 400 := by omega
          have hml : (natL (v * 10 ^ q)).length ≤ 572 := by have := mul_lenT hv (tenT (k := q) (by omega)); omega
          have ML := hd (fun a c a' c' m m' w' (o : OI w' m a c (natL v)) (o' : OI w' m' a' c' (natL (10 ^ q))) => sMul a a' _ _ c c' (natL v) (natL (10 ^ q)) w' o.inI o'.inI (digs_natL _) (digs_natL _) (by omega) (by have := tenT (k := q) (by omega); omega))
          simp only [val_natL] at ML
          have MK := hd (fun a c a' c' m m' w' (o : OI w' m a c (natL (v * 10 ^ q))) (o' : OI w' m' a' c' (natL 1)) => sL6Make false a a' c c' (v * 10 ^ q) 1 w' o.inI o'.inI (by omega) (by have := tenT (k := 0) (by omega); simpa using Nat.le_trans this (by decide)) (by decide))
          have e1 : natL 1 = [1] := by rw [natL_pos (by decide), show 1 / 65536 = 0 from rfl, natL_zero]; rfl
          have l1 : (natL 1).length = 1 := by rw [e1]; rfl
          have mk1 := hd (fun (w' : World) => show OI (w'.alloc (.cells #[.int .i64 1] 3)) w'.heap.size (some ⟨w'.heap.size, 0, none⟩) 1 (natL 1) from by
            rw [e1]
            exact ⟨fun x hx => by rw [List.mem_singleton] at hx; subst hx; decide, Nat.le_refl _, by decide, .inr ⟨w'.heap.size, rfl, Nat.le_refl _, by simp, fun i hi => by obtain rfl : i = 0 := (by simp at hi; omega); simp⟩⟩)
          rw [l1] at MK
          clear hA0 hB0 hEb e1 l1
          go_wp2_with fail
          refine (TP.out _).mono ?_
          rintro e w3 ⟨⟨avT, cvT, rfl, OT⟩, hb3⟩
          replace R := R.old hb3
          replace hB := old_trans hB hb3
          replace O := O.later hb3
          clear hb3 TP
          go_wp2_with fail
          refine (ML.out _ _ _ _ _ _ _ O OT).mono ?_
          rintro e w4 ⟨⟨avM, cvM, rfl, OM⟩, hb4⟩
          replace R := R.old hb4
          replace hB := old_trans hB hb4
          clear hb4 ML O OT
          have O1 := mk1.out w4
          have hal : Below w4.heap.size w4 (w4.alloc (.cells #[.int .i64 1] 3)) := old_alloc (Below.refl _ _) _
          replace R := R.old hal
          replace hB := old_trans hB hal
          replace OM := OM.later hal
          clear hal mk1
          go_wp2_with fail
          refine (MK.out _ _ _ _ _ _ _ OM O1).mono ?_
          rintro e w5 ⟨⟨av1, cv1, av2, cv2, rfl, Q1, Q2, sp⟩, hb5⟩
          have y1 := R.1
          replace R := R.old hb5
          replace hB := old_trans hB hb5
          clear hb5 MK OM O1
          obtain ⟨m1, ⟨m2, m3, m4⟩, m5, m6, m7⟩ := id R
          go_wp2
          exact bodyPost_ret (resSF (R.setAll (.bool (fS (lowB (v * 10 ^ q) 1) false (v * 10 ^ q))) (.slice av1 (fT (lowB (v * 10 ^ q) 1) (v * 10 ^ q) 1).length cv1) (.slice av2 (fU (lowB (v * 10 ^ q) 1) (v * 10 ^ q) 1).length cv2)) rfl rfl) rfl ⟨by rw [hok.out, eA.out, eB.out]; exact ⟨_, _, _, _, rfl, (oi_set3 Q1 y1).mono (Nat.le_of_lt y1), (oi_set3 Q2 y1).mono (Nat.le_of_lt y1), sp⟩, below_set (below_set (below_set hB (Nat.le_refl _) _) (Nat.le_refl _) _) (Nat.le_refl _) _⟩
end Go.Proofs.YtnjdcaidoffhbaaGreatDoor
