/- The specification's quotient and rest, where the divisor has two digits or more and is not above the number: new lists. Conditions: numbers, 2^16 digits at most. -/
import Derived.Test.YtgoffjpfddmhhaaGreatDoorPK08
import Derived.Test.YtgoffjpfddmhhaaGreatDoorPK09
import Derived.Deep.RegionWith
import Derived.Deep.RegionHeld3
import Derived.Deep.DeepCutAuto
namespace Go.Proofs.YtgoffjpfddmhhaaGreatDoor
open Go.RowKit
set_option linter.unusedVariables false
set_option maxRecDepth 100000

theorem up_bd {t : Int} (h1 : 1 ≤ t) (h2 : t < 65536) : ∃ U : Nat, Int.tdiv 65536 (t + 1) = (U : Int) ∧ (65536 : Int) / (t + 1) = (U : Int) ∧ 1 ≤ U ∧ U ≤ 32768 := by
  have e0 : Int.tdiv 65536 (t + 1) = 65536 / (t + 1) := Int.tdiv_eq_ediv_of_nonneg (by omega)
  have q0 : 0 ≤ (65536 : Int) / (t + 1) := Int.ediv_nonneg (by omega) (by omega)
  obtain ⟨U, hU⟩ := Int.eq_ofNat_of_zero_le q0
  have h3 : 1 ≤ (65536 : Int) / (t + 1) := (Int.le_ediv_iff_mul_le (by omega)).2 (by omega)
  have h4 : (65536 : Int) / (t + 1) ≤ 65536 / 2 := by
    refine (Int.le_ediv_iff_mul_le (by omega)).2 ?_
    have := Int.ediv_mul_le 65536 (show t + 1 ≠ 0 by omega)
    have : (65536 : Int) / (t + 1) * 2 ≤ 65536 / (t + 1) * (t + 1) := Int.mul_le_mul_of_nonneg_left (by omega) q0
    omega
  exact ⟨U, by rw [e0, hU], hU, by omega, by omega⟩
theorem long_end {m : Nat} {qs : List Int} {A B U R : Nat} (hU : 0 < U) (hB : 0 < B) (h : LongI m (natL (A * U)) qs (B * U) 0 R) : val qs = A / B ∧ R / U = A % B := by
  obtain ⟨h1, h2⟩ := h.all
  rw [val_natL] at h1 h2
  refine ⟨by rw [h1, Nat.mul_div_mul_right _ _ hU], ?_⟩
  rw [h2, Nat.mul_mod_mul_right, Nat.mul_div_cancel _ hU]
theorem mul_len {xs : List Int} {U : Nat} (hx : digs xs) (hU : U ≤ 65536) : (natL (val xs * U)).length ≤ xs.length + 1 := by
  refine natL_len.2 ?_
  have h1 := val_lt hx
  rw [Nat.pow_succ]
  have h2 : val xs * U ≤ val xs * 65536 := Nat.mul_le_mul_left _ hU
  omega
/-- a guess that fits is the quotient's digit -/
theorem guess_fits {R Y g : Nat} (hY : 0 < Y) (h1 : R / Y ≤ g) (h2 : Y * g ≤ R) : g = R / Y ∧ R - Y * g = R % Y := by
  have h3 : g ≤ R / Y := (Nat.le_div_iff_mul_le hY).2 (by rw [Nat.mul_comm]; exact h2)
  have e : g = R / Y := by omega
  refine ⟨e, ?_⟩
  have := Nat.div_add_mod R Y
  rw [← e] at this
  omega
theorem guess_not {R Y g : Nat} (hY : 0 < Y) (h2 : R < Y * g) : 0 < g ∧ R / Y ≤ g - 1 ∧ Y * g - Y = Y * (g - 1) := by
  have h0 : 0 < g := by
    rcases Nat.eq_zero_or_pos g with h | h
    · subst h; omega
    · exact h
  have h3 : R / Y < g := Nat.div_lt_of_lt_mul h2
  refine ⟨h0, by omega, ?_⟩
  rw [Nat.mul_sub, Nat.mul_one]
set_option maxRecDepth 100000 in
set_option maxHeartbeats 4000000 in
theorem sDivLong (a b : Option Addr) (la lb ca cb : Nat) (xs ys : List Int) (w : World) (hA : InI w a la ca xs) (hB : InI w b lb cb ys) (hx : digs xs) (hy : digs ys) (tx : topped xs) (ty : topped ys) (hla : la ≤ 65536) (hlb : lb ≤ 65536) (h2 : 2 ≤ lb) (hle : val ys ≤ val xs) :
    Calls Tryz.prog 77 #[.slice a la ca, .slice b lb cb] w fun e w' => (∃ av cv av2 cv2, e = .returned (.tuple #[.slice av (natL (val xs / val ys)).length cv, .slice av2 (natL (val xs % val ys)).length cv2]) ∧ OI w' w.heap.size av cv (natL (val xs / val ys)) ∧ OI w' w.heap.size av2 cv2 (natL (val xs % val ys)) ∧ Sep av av2) ∧ Below w.heap.size w w' := by
  have pa := hA.1
  have pb := hB.1
  have hY0 : 0 < val ys := Nat.lt_of_lt_of_le (Nat.pow_pos (by omega)) (val_ge hy ty (by omega))
  obtain ⟨bb, ob, t, rfl, hbl, ht, -, ct⟩ := hB.at (k := lb - 1) (by omega)
  have ek : ((lb : Int) - 1) = ((lb - 1 : Nat) : Int) := by omega
  have dt := digs_getD hy (lb - 1)
  have ht0 := ty.resolve_left (by omega)
  rw [pb] at ht0
  rw [ht] at dt ht0
  unfold dig at dt
  obtain ⟨U, hU1, hU2, hU3, hU4⟩ := up_bd (t := t) (by omega) dt.2
  have htz : (t + 1 == 0) = false := by simp; omega
  have hlb1 : ((lb : Int) == 1) = false := by simp; omega
  have hend := hd (fun m qs R h => long_end (m := m) (qs := qs) (A := val xs) (B := val ys) (U := U) (R := R) (by omega) hY0 h)
  have C := hd (sCmp a (some ⟨bb, ob, none⟩) la lb ca cb xs ys w hA hB hx hy tx ty)
  have hc0 : ¬ cmpI (val xs) (val ys) < 0 := by unfold cmpI; rw [if_neg (by omega)]; split <;> omega
  have hXl : (natL (val xs * U)).length ≤ 65537 := by have := mul_len (U := U) hx (by omega); omega
  have hYX : val ys * U ≤ val xs * U := Nat.mul_le_mul_right _ hle
  have hYp : 0 < val ys * U := Nat.mul_pos hY0 (by omega)
  have T1 := hd (fun w' (h : Below w.heap.size w w') => sTimes a la ca xs (U : Int) w' (hA.old h) hx ⟨by omega, by omega⟩ (by omega))
  have T2 := hd (fun w' (h : Below w.heap.size w w') => sTimes (some ⟨bb, ob, none⟩) lb cb ys (U : Int) w' (hB.old h) hy ⟨by omega, by omega⟩ (by omega))
  simp only [Int.toNat_natCast] at T1 T2
  generalize hqv : val xs / val ys = Qv at *
  generalize hrv : val xs % val ys = Rv at *
  generalize val xs * U = X at *
  generalize val ys * U = Y at *
  generalize cmpI (val xs) (val ys) = cc at *
  obtain ⟨lx, hlx⟩ : ∃ lx, lx = (natL X).length := ⟨_, rfl⟩
  obtain ⟨n, hn⟩ : ∃ n, n = (natL Y).length := ⟨_, rfl⟩
  have hnx : n ≤ lx := by rw [hn, hlx]; exact natL_le hYX
  have hn0 : 0 < n := by rw [hn]; exact natL_length_pos hYp
  rw [← hlx] at T1 hXl
  rw [← hn] at T2
  have hPY : 65536 ^ (n - 1) ≤ Y := by rw [hn]; exact natL_pow_le hYp
  have hYP : Y < 65536 ^ n := by rw [hn]; exact natL_lt_pow Y
  have hlx' := hd hlx
  have hn' := hd hn
  clear hlx hn
  have ht' := hd ht
  clear ht hx hy tx ty hle hY0
  go_enter Tryz.func77, Tryz.ntmps77
  go_wp2_with fail
  refine C.out.mono ?_
  rintro e wa ⟨rfl, hba⟩
  have ct := (hba.cell (p := ⟨bb, ob + (lb - 1), none⟩) hbl).trans ct
  go_wp2_with fail
  refine (T1.out _ hba).mono ?_
  rintro e w1 ⟨⟨av1, cv1, rfl, hO1⟩, hb1⟩
  have hB1 := old_trans hba hb1
  go_wp2_with fail
  refine (T2.out _ hB1).mono ?_
  rintro e w2 ⟨⟨av2, cv2, rfl, hO2⟩, hb2⟩
  have hB2 := old_trans hB1 hb2
  have hX := hO1.later hb2 |>.inI
  have hYi := hO2.inI
  rw [← hlx'.out] at hX
  rw [← hn'.out] at hYi
  clear C T1 T2 hO1 hO2 hb1 hb2 hba hB1 ct hA hB
  obtain ⟨m, hm⟩ : ∃ m, m = lx - n + 1 := ⟨_, rfl⟩
  have hmk := mkInts w2 m (by omega)
  have hr0 := IRow.made w2 m 3
  have hb0 : Below w2.heap.size w2 (w2.alloc (.cells (madeCells #[.int .i64 0] (m * 1)) 3)) := (Below.refl _ w2).alloc (Nat.le_refl _) _
  have hs0 : (w2.alloc (.cells (madeCells #[.int .i64 0] (m * 1)) 3)).heap.size = w2.heap.size + 1 := by simp
  have hmi : (m : Int) = (lx : Int) - n + 1 := by omega
  rw [hmi] at hmk
  generalize w2.alloc (.cells (madeCells #[.int .i64 0] (m * 1)) 3) = w3 at *
  have T3 := hd (sTop av1 lx cv1 (natL X) m w3 (hX.old hb0) (by omega) (by omega))
  rw [hmi] at T3
  have hI0 : Hid (LongI m (natL X) (List.replicate m 0) Y m (val ((natL X).drop m))) := LongI.zero (n := n) (digs_natL X) (by rw [← hlx'.out]; exact hm) hn0 (by rw [← hlx'.out]; exact hnx) hPY
  rw [drop_canon (v := X) (m := m)] at T3
  generalize val ((natL X).drop m) = R0 at *
  have hmi' := hd hmi
  have hm' := hd hm
  have hmlx : m ≤ lx := by omega
  clear hmi hm
  go_wp2_with fail
  refine T3.out.mono ?_
  rintro e w4 ⟨⟨av3, cv3, rfl, hO3⟩, hb4⟩
  have hB4 : Below w2.heap.size w2 w4 := old_trans hb0 hb4
  have hr4 := hr0.old hb4
  rw [hs0] at hO3
  clear T3 hr0 hmk hb4
  go_wp2_with fail
  go_loopw [13, 14] (fun r i wr => ∃ (k : Nat) (j : Int) (R : Nat) (qs : List Int) (av : Option Addr) (cv : Nat), j + 1 = k ∧ k ≤ m ∧ i = .int .i64 j ∧ r = .slice av (natL R).length cv ∧ OI wr (w2.heap.size + 1) av cv (natL R) ∧ LongI m (natL X) qs Y k R ∧ IRow wr w2.heap.size qs ∧ Below w2.heap.size w2 wr) (fun _ i _ => (intOf i + 1).toNat)
  case atStart => exact ⟨m, (lx : Int) - n, R0, _, av3, cv3, by have := hm'.out; omega, Nat.le_refl _, rfl, rfl, hO3, hI0.out, hr4, hB4⟩
  case round =>
    clear hO3 hI0 hr4 hB4
    obtain ⟨k, j, R, qs, av, cv, hj, hk, rfl, rfl, hO, hI, hr, hb⟩ := hrel
    by_cases h0 : 0 ≤ j
    · obtain ⟨i, rfl⟩ := Int.eq_ofNat_of_zero_le h0
      obtain rfl : k = i + 1 := by omega
      obtain ⟨b1, o1, x, rfl, hb1, ex, -, c1⟩ := (hX.old hb).at (k := i) (by omega)
      have dx := digs_getD (digs_natL X) i
      rw [ex] at dx
      unfold dig at dx
      obtain ⟨x', rfl⟩ := Int.eq_ofNat_of_zero_le dx.1
      obtain ⟨R', hR'⟩ : ∃ R', R' = R * 65536 + x' := ⟨_, rfl⟩
      have hstep := hI.step (by rw [← hlx'.out]; exact hmlx) (by omega) (digs_natL X) R' (by rw [ex, Int.toNat_natCast]; exact hR')
      have hRY := hI.lt
      have hRl : (natL R).length ≤ 65537 := by
        have := natL_le (Nat.le_of_lt hRY)
        rw [← hn'.out] at this
        omega
      have hR2 : R' < Y * 65536 := by omega
      have hRl' : (natL R').length ≤ n + 1 := by
        refine natL_len.2 ?_
        refine Nat.lt_of_lt_of_le hR2 ?_
        rw [Nat.pow_succ]
        exact Nat.mul_le_mul_right _ (Nat.le_of_lt hYP)
      have hRs : (natL (R * 65536)).length ≤ 1048576 := by
        have h5 : (natL (R * 65536)).length ≤ n + 1 := by
          refine natL_len.2 (Nat.lt_of_lt_of_le (Nat.mul_lt_mul_of_pos_right (Nat.lt_trans hRY hYP) (show 0 < 65536 by omega)) ?_)
          rw [Nat.pow_succ]; exact Nat.le_refl _
        omega
      have S1 := hd (fun w' (h : Below wr.heap.size wr w') => sShl av (natL R).length cv (natL R) 1 w' ((hO.later h).inI) (digs_natL R) (topped_natL R) (by omega) (by omega))
      rw [val_natL, Nat.pow_one] at S1
      have S2 := hd (fun w' => sNatOf x' (by omega) w')
      have S3 := hd (fun av1 cv1 av2 cv2 b1 b2 w' (h1 : OI w' b1 av1 cv1 (natL (R * 65536))) (h2 : OI w' b2 av2 cv2 (natL x')) => sAdd av1 av2 _ _ cv1 cv2 _ _ w' h1.inI h2.inI (digs_natL _) (digs_natL _) (topped_natL _) (topped_natL _) hRs (by have := natL_len (v := x') (n := 4); have := this.2 (by omega); omega))
      rw [val_natL, val_natL, ← hR'] at S3
      have S4 := hd (fun av1 cv1 b1 w' (h1 : OI w' b1 av1 cv1 (natL R')) => sTrim av1 _ cv1 _ w' h1.inI (digs_natL _) (by omega))
      rw [val_natL] at S4
      have hR'' := hd hR'
      clear hR' hO
      go_upto_region 15 with fail
      go_cut [13] (fun s wx => ∃ av cv, s = .slice av (natL R').length cv ∧ OI wx (w2.heap.size + 1) av cv (natL R') ∧ Below wr.heap.size wr wx)
      case first =>
        have hsz := hr.1
        have hi1 : (i : Int) < (lx : Int) := by omega
        have hi0 : (0 : Int) ≤ (i : Int) := by omega
        have hwx : IntKind.u64.wrap (x' : Int) = (x' : Int) := by simp [IntKind.wrap, IntKind.bits, IntKind.signed]; omega
        clear hstep hI hr hRY hRl hR2 hRl' hRs hPY hYP hnx hn0 hlx' hn' hm' hmi' hmlx hend hX hYi hXl hYX hYp hR'' hj hk ht0 ht' hU1 hU2 hU3 hU4 htz hlb1 hc0 hs0 hb0 hB2 hqv hrv ex pa pb hla hlb h2 dt
        generalize natL R' = rl at *
        generalize natL (R * 65536) = sl at *
        generalize natL x' = xl at *
        generalize natL R = rl0 at *
        go_wp2_with fail
        go_region_held3 (fun w' => w'.cell? ⟨b1, o1 + i, none⟩ = some (.int .i64 (x' : Int))) (go_keep) (first | (go_at_call 78; refine (S1.out _ (by repeat (first | exact Below.refl _ _ | refine Below.drew ?_ | refine old_alloc ?_ _ | refine old_trans ?_ (by assumption)))).mono ?_; rintro e wS ⟨⟨avS, cvS, rfl, hOS⟩, hbS⟩; have c1 := (hbS.cell (p := ⟨b1, o1 + i, none⟩) hb1).trans c1; have hb1 := Nat.lt_of_lt_of_le hb1 hbS.size) | (go_at_call 56; refine (S2.out _).mono ?_; rintro e wN ⟨⟨avN, cvN, rfl, hON⟩, hbN⟩; have c1 := (hbN.cell (p := ⟨b1, o1 + i, none⟩) hb1).trans c1; have hb1 := Nat.lt_of_lt_of_le hb1 hbN.size) | (go_at_call 71; refine (S3.out _ _ _ _ _ _ _ (by first | exact hOS | exact hOS.later hbN) (by first | exact hON | exact hON.later hbS)).mono ?_; rintro e wA ⟨⟨avA, cvA, rfl, hOA⟩, hbA⟩; have c1 := (hbA.cell (p := ⟨b1, o1 + i, none⟩) hb1).trans c1; have hb1 := Nat.lt_of_lt_of_le hb1 hbA.size) | (go_at_call 74; refine (S4.out _ _ _ _ hOA).mono ?_; rintro e wT ⟨⟨avT, cvT, rfl, hOT⟩, hbT⟩; have c1 := (hbT.cell (p := ⟨b1, o1 + i, none⟩) hb1).trans c1; have hb1 := Nat.lt_of_lt_of_le hb1 hbT.size))
        all_goals
          clear hwx hi1 hi0 dx S1 S2 S3 S4 h0
          go_wp2_with fail
          go_meet
          exact ⟨_, _, rfl, hOT.mono (by have := hbA.size; have := hbS.size; have := hbN.size; first | omega | (simp at *; omega)), (by repeat (first | exact Below.refl _ _ | refine Below.drew ?_ | refine old_alloc ?_ _ | refine old_trans ?_ (by assumption)))⟩
      case rest =>
        obtain ⟨avr, cvr, rfl, hO, hbc⟩ := hcut
        obtain ⟨wd, rfl⟩ : ∃ wd, wd = wc := ⟨wc, rfl⟩
        clear S1 S2 S3 S4 c1 hI
        have hBc := old_trans hb hbc
        have hrc := hr.old hbc
        clear hr hb
        obtain ⟨b2, o2, yt, rfl, hb2, ey, -, c2⟩ := (hYi.old hBc).at (k := n - 1) (by omega)
        have hP0 : 0 < 65536 ^ (n - 1) := Nat.pow_pos (by omega)
        have e1 := top_one (Y := Y) (n := n - 1) (by rw [show n - 1 + 1 = n by omega]; exact hYP)
        rw [ey] at e1
        have e2 := top_two (R := R') (n := n - 1) (by rw [show n - 1 + 2 = n + 1 by omega]; exact natL_len.1 hRl')
        rw [show n - 1 + 1 = n by omega] at e2
        have d1 := digs_getD (digs_natL R') n
        have d0 := digs_getD (digs_natL R') (n - 1)
        have hyq : 0 < Y / 65536 ^ (n - 1) := Nat.div_pos hPY hP0
        have hgl := guess_le (R := R') (Y := Y) hP0 hyq
        have SAq := hd (fun (k m : Nat) => sAt avr (natL R').length cvr (natL R') k (wd.drewN m) (show InI (wd.drewN m) avr (natL R').length cvr (natL R') from hO.inI))
        have hyt : yt < 65536 := by
          have := digs_getD (digs_natL Y) (n - 1)
          rw [ey] at this
          exact this.2
        have hq0 : R' / Y < 65536 := hstep.1
        obtain ⟨G0, hG0⟩ : ∃ G0, G0 = R' / 65536 ^ (n - 1) / (Y / 65536 ^ (n - 1)) := ⟨_, rfl⟩
        rw [← hG0] at hgl
        go_upto_region 16 with fail
        go_cut [15] (fun s wx => s = .int .i64 (G0 : Int) ∧ Below wd.heap.size wd wx)
        case first =>
          have hq : Int.tdiv ((natL R').getD n 0 * 65536 + (natL R').getD (n - 1) 0) yt = (G0 : Int) := by
            rw [e1, e2, hG0, Int.tdiv_eq_ediv_of_nonneg (Int.natCast_nonneg _)]; rfl
          unfold dig at d0 d1
          have SA1 := hd (fun m => SAq.out n m)
          have SA0 := hd (fun m => SAq.out (n - 1) m)
          rw [show ((n - 1 : Nat) : Int) = (n : Int) - 1 by omega] at SA0
          have hj1 : (n : Int) - 1 < (n : Int) := by omega
          have hj0 : (0 : Int) ≤ (n : Int) - 1 := by omega
          have hjt : ((n : Int) - 1).toNat = n - 1 := by omega
          have hN1 : (n : Int) ≤ 65537 := by omega
          have hN0 : 1 ≤ (n : Int) := by omega
          have hw1 : IntKind.i64.wrap ((n : Int) - 1) = (n : Int) - 1 := by simp [IntKind.wrap, IntKind.bits, IntKind.signed]; omega
          have SA2 := SA0
          rw [← hw1] at SA2
          clear SAq
          have hyz : (yt == 0) = false := by simp; omega
          have hyz2 : ¬ yt = 0 := by omega
          have hyp : 0 < yt := by omega
          have hG1 : (G0 : Int) ≤ 4294967295 := by
            have h6 : G0 ≤ R' / 65536 ^ (n - 1) := by rw [hG0]; exact Nat.div_le_self _ _
            omega
          clear hstep hRl hRY hR2 hRl' hPY hYP hnx hlx' hn' hm' hmi' hmlx hend hX hYi hXl hYX hYp hR'' hj hk ht0 ht' hU1 hU2 hU3 hU4 htz hlb1 hc0 hs0 hb0 hB2 hqv hrv ex pa pb hla hlb h2 dt e1 e2 hgl hG0 hyq hP0 ey hq0 hO hrc hBc
          generalize (natL R').getD n 0 = r1 at *
          generalize (natL R').getD (n - 1) 0 = r0 at *
          have hw2 : IntKind.i64.wrap (r1 * 65536) = r1 * 65536 := by simp [IntKind.wrap, IntKind.bits, IntKind.signed]; omega
          have hw3 : IntKind.i64.wrap (r1 * 65536 + r0) = r1 * 65536 + r0 := by simp [IntKind.wrap, IntKind.bits, IntKind.signed]; omega
          have hw4 : IntKind.i64.wrap (G0 : Int) = (G0 : Int) := by simp [IntKind.wrap, IntKind.bits, IntKind.signed]; omega
          go_wp2_with fail
          generalize hN : (n : Int) = N at *
          go_quiet (first | (go_at_call 93; first | with_reducible exact Calls.quiet_of_same (SA1.out _) | with_reducible exact Calls.quiet_of_same (SA0.out _) | with_reducible exact Calls.quiet_of_same (SA2.out _)))
          subst hN
          clear hw1 hw2 hw3 hw4 SA1 SA0 SA2 hj0 hj1 hjt hN0 hN1 hyz hyz2 hyp hG1 hq d0 d1 dx h0
          go_wp2_with fail
          go_meet
          exact ⟨rfl, ⟨rfl, rfl, rfl, Nat.le_refl _, fun _ _ => rfl⟩⟩
        case rest =>
          obtain ⟨rfl, hbe⟩ := hcut
          clear SAq c2 d0 d1 e1 e2 hyt ey
          replace hO := hO.later hbe
          replace hrc := hrc.old hbe
          have hBe := old_trans hBc hbe
          have hYe := hYi.old hBe
          clear hBc hbe hbc
          have hY0 : 0 < Y := hYp
          obtain ⟨g, hg1, hg2, hdec⟩ : ∃ g : Nat, R' / Y ≤ g ∧ g < 65536 ∧ ((65536 ≤ G0 ∧ g = 65535) ∨ (G0 < 65536 ∧ g = G0)) := by
            by_cases h7 : 65536 ≤ G0
            · exact ⟨65535, by omega, by omega, .inl ⟨h7, rfl⟩⟩
            · exact ⟨G0, hgl, by omega, .inr ⟨by omega, rfl⟩⟩
          have hYl : (natL Y).length ≤ 65537 := by rw [← hn'.out]; omega
          have T4 := hd (sTimes (some ⟨b2, o2, none⟩) n cv2 (natL Y) (g : Int) wc hYe (digs_natL Y) ⟨by omega, by omega⟩ (by omega))
          rw [Int.toNat_natCast, val_natL] at T4
          have hsc := hrc.1
          have hst := hd hstep
          have hqsz : Hid (qs.length = m) := by have h12 := hstep.2.sz; rw [List.length_set] at h12; exact h12
          have hRl2 : Hid ((natL R').length ≤ 65538) := by show _ ≤ _; omega
          have hYl2 := hd hYl
          have hg3 := hd (And.intro hg1 hg2)
          have hY1 := hd hY0
          clear hG0 hP0 hyq hgl hstep hRl hRl' hR2 hRs hRY hPY hYP hYp hYX hY0 hg1 hg2 hq0 hYl dx hlx' hend
          rcases hdec with ⟨hG, hgg⟩ | ⟨hG, hgg⟩
          · have hGi : (65536 : Int) ≤ (G0 : Int) := by omega
            have hgi : (g : Int) = 65535 := by omega
            rw [hgi] at T4
            have hgi' := hd hgi
            clear hG hgg hgi
            go_wp2_with fail
            refine T4.out.mono ?_
            rintro e wf ⟨⟨avp, cvp, rfl, hOp⟩, hbf⟩
            clear T4
            go_wp2_with fail
            go_loopw [15, 16] (fun gs ps wr => ∃ (g : Nat) (av : Option Addr) (cv : Nat), gs = .int .i64 (g : Int) ∧ ps = .slice av (natL (Y * g)).length cv ∧ OI wr (w2.heap.size + 1) av cv (natL (Y * g)) ∧ R' / Y ≤ g ∧ g < 65536 ∧ Below wc.heap.size wc wr) (fun gs _ _ => (intOf gs).toNat)
            case atStart => exact ⟨g, avp, cvp, by rw [hgi'.out], rfl, hOp.mono hsc, hg3.out.1, hg3.out.2, hbf⟩
            case round =>
              clear hOp hbf hg3
              obtain ⟨g', avg, cvg, rfl, rfl, hOg, hg1, hg2, hbr⟩ := hrel
              have hg1' := hd hg1
              have hg2' := hd hg2
              have hOr := hO.later hbr
              have C2 := hd (sCmp avg avr _ _ cvg cvr _ _ wr hOg.inI hOr.inI (digs_natL _) (digs_natL _) (topped_natL _) (topped_natL _))
              rw [val_natL, val_natL] at C2
              clear hg1 hg2
              by_cases hfit : Y * g' ≤ R'
              · obtain ⟨eg, er⟩ := guess_fits hY1.out hg1'.out hfit
                have hcn : ¬ 0 < cmpI (Y * g') R' := by unfold cmpI; split <;> (try split) <;> omega
                have hle : (natL (Y * g')).length ≤ (natL R').length := natL_le hfit
                have hRl3 := hRl2.out
                have hrz := hrc.old hbr
                have D2 := hd (fun w' (h : OI w' (w2.heap.size + 1) avr cvr (natL R')) (h' : OI w' (w2.heap.size + 1) avg cvg (natL (Y * g'))) => sSub avr avg _ _ cvr cvg _ _ w' h.inI h'.inI (digs_natL _) (digs_natL _) (by omega) hle (by rw [val_natL, val_natL]; exact hfit))
                rw [val_natL, val_natL, er] at D2
                have hst2 := hd hst.out.2
                rw [← eg] at hst2
                have hqb := hrz.1
                obtain ⟨z, -, k0, k2⟩ := hrz.at (k := i) (by rw [hqsz.out]; omega)
                have hil : (i : Int) < (m : Int) := by omega
                clear hfit hle hRl3 er eg hg1'
                generalize cmpI (Y * g') R' = cz at *
                generalize natL (Y * g') = pl at *
                generalize hRm : R' % Y = Rm at *
                go_wp2_with fail
                refine C2.out.mono ?_
                rintro e wy ⟨rfl, hby⟩
                replace hOr := hOr.later hby
                replace hOg := hOg.later hby
                replace hrz := hrz.old hby
                have k0 := (hby.cell (p := ⟨w2.heap.size, i, none⟩) hqb).trans k0
                have k2 := (hby.frozen (p := ⟨w2.heap.size, i, none⟩) hqb).trans k2
                have hset := hrz.set i (by rw [hqsz.out]; omega) (g' : Int)
                have hgs := grown_set (World.grownBy.refl wy (some w2.heap.size)) i (.int .i64 (g' : Int))
                have hOr2 := hOr.kept hgs (fun q e => by have := hOr.ge q e; intro e2; injection e2 with e3; omega)
                have hOg2 := hOg.kept hgs (fun q e => by have := hOg.ge q e; intro e2; injection e2 with e3; omega)
                have hBy := (old_trans (old_trans hBe hbr) hby).setCell (p := ⟨w2.heap.size, i, none⟩) (Nat.le_refl _) (.int .i64 (g' : Int))
                have D3 := hd (D2.out _ hOr2 hOg2)
                clear D2 C2 hOr hOg hOr2 hOg2 hgs
                go_wp2_with fail
                refine D3.out.mono ?_
                rintro e wx ⟨⟨avn, cvn, rfl, hOn⟩, hbx⟩
                go_wp2_with fail
                go_roundw
                case rel => exact ⟨i, (i : Int) - 1, Rm, _, avn, cvn, by omega, by omega, by go_num, rfl, hOn.mono (by have := hrz.1; simp [World.setCell]; omega), hst2.out, hset.old hbx, old_trans hBy hbx⟩
                case measure => simp [intOf] <;> omega
              · obtain ⟨h9, h10, h11⟩ := guess_not hY1.out (R := R') (g := g') (by omega)
                have hcn : cmpI (Y * g') R' = 1 := cmpI_gt (by omega)
                rw [hcn] at C2
                have hYl3 := hYl2.out
                have hml := mul_len (xs := natL Y) (U := g') (digs_natL Y) (by have := hg2'.out; omega)
                rw [val_natL] at hml
                have hYY : Y ≤ Y * g' := Nat.le_mul_of_pos_right _ h9
                have hYi2 := hYe.old (Below.mono hbr (Nat.le_refl _))
                have hnl := natL_le hYY
                rw [← hn'.out] at hnl
                have D2 := hd (fun w' (h : OI w' (w2.heap.size + 1) avg cvg (natL (Y * g'))) (h' : InI w' (some ⟨b2, o2, none⟩) n cv2 (natL Y)) => sSub avg (some ⟨b2, o2, none⟩) _ n cvg cv2 _ _ w' h.inI h' (digs_natL _) (digs_natL _) (by omega) hnl (by rw [val_natL, val_natL]; exact hYY))
                rw [val_natL, val_natL, h11] at D2
                have h9' := hd h9
                have h10' := hd h10
                have hwr := hbr.size
                have hpos : (1 : Int) ≤ (g' : Int) := by omega
                have hg3 : (g' : Int) < 65536 := by have := hg2'.out; omega
                have hgn : Hid ((g' : Int) - 1 = ((g' - 1 : Nat) : Int)) := by show _ = _; omega
                clear hfit h9 h10 h11 hcn hYl3 hml hYY hnl
                generalize natL (Y * g') = pl at *
                generalize hgI : (g' : Int) = gI at *
                go_wp2_with fail
                refine C2.out.mono ?_
                rintro e wy ⟨rfl, hby⟩
                have D3 := hd (D2.out _ (hOg.later hby) (hYi2.old hby))
                have hwy := hby.size
                clear D2 C2
                go_wp2_with fail
                refine D3.out.mono ?_
                rintro e wx ⟨⟨avn, cvn, rfl, hOn⟩, hbx⟩
                go_wp2_with fail
                go_roundw
                case rel => exact ⟨g' - 1, avn, cvn, by rw [hgn.out], rfl, hOn.mono (by omega), h10'.out, by have := hg2'.out; omega, old_trans (old_trans hbr hby) hbx⟩
                case measure => (subst hgI; have := h9'.out; simp [intOf] <;> omega)
          · have hGi : (G0 : Int) < 65536 := by omega
            have hG0 : 0 ≤ (G0 : Int) := by omega
            have hgi : (g : Int) = (G0 : Int) := by omega
            rw [hgi] at T4
            have hgi' := hd hgi
            clear hG hgg hgi
            generalize (G0 : Int) = GI at *
            go_wp2_with fail
            refine T4.out.mono ?_
            rintro e wf ⟨⟨avp, cvp, rfl, hOp⟩, hbf⟩
            clear T4
            go_wp2_with fail
            go_loopw [15, 16] (fun gs ps wr => ∃ (g : Nat) (av : Option Addr) (cv : Nat), gs = .int .i64 (g : Int) ∧ ps = .slice av (natL (Y * g)).length cv ∧ OI wr (w2.heap.size + 1) av cv (natL (Y * g)) ∧ R' / Y ≤ g ∧ g < 65536 ∧ Below wc.heap.size wc wr) (fun gs _ _ => (intOf gs).toNat)
            case atStart => exact ⟨g, avp, cvp, by rw [hgi'.out], rfl, hOp.mono hsc, hg3.out.1, hg3.out.2, hbf⟩
            case round =>
              clear hOp hbf hg3
              obtain ⟨g', avg, cvg, rfl, rfl, hOg, hg1, hg2, hbr⟩ := hrel
              have hg1' := hd hg1
              have hg2' := hd hg2
              have hOr := hO.later hbr
              have C2 := hd (sCmp avg avr _ _ cvg cvr _ _ wr hOg.inI hOr.inI (digs_natL _) (digs_natL _) (topped_natL _) (topped_natL _))
              rw [val_natL, val_natL] at C2
              clear hg1 hg2
              by_cases hfit : Y * g' ≤ R'
              · obtain ⟨eg, er⟩ := guess_fits hY1.out hg1'.out hfit
                have hcn : ¬ 0 < cmpI (Y * g') R' := by unfold cmpI; split <;> (try split) <;> omega
                have hle : (natL (Y * g')).length ≤ (natL R').length := natL_le hfit
                have hRl3 := hRl2.out
                have hrz := hrc.old hbr
                have D2 := hd (fun w' (h : OI w' (w2.heap.size + 1) avr cvr (natL R')) (h' : OI w' (w2.heap.size + 1) avg cvg (natL (Y * g'))) => sSub avr avg _ _ cvr cvg _ _ w' h.inI h'.inI (digs_natL _) (digs_natL _) (by omega) hle (by rw [val_natL, val_natL]; exact hfit))
                rw [val_natL, val_natL, er] at D2
                have hst2 := hd hst.out.2
                rw [← eg] at hst2
                have hqb := hrz.1
                obtain ⟨z, -, k0, k2⟩ := hrz.at (k := i) (by rw [hqsz.out]; omega)
                have hil : (i : Int) < (m : Int) := by omega
                clear hfit hle hRl3 er eg hg1'
                generalize cmpI (Y * g') R' = cz at *
                generalize natL (Y * g') = pl at *
                generalize hRm : R' % Y = Rm at *
                go_wp2_with fail
                refine C2.out.mono ?_
                rintro e wy ⟨rfl, hby⟩
                replace hOr := hOr.later hby
                replace hOg := hOg.later hby
                replace hrz := hrz.old hby
                have k0 := (hby.cell (p := ⟨w2.heap.size, i, none⟩) hqb).trans k0
                have k2 := (hby.frozen (p := ⟨w2.heap.size, i, none⟩) hqb).trans k2
                have hset := hrz.set i (by rw [hqsz.out]; omega) (g' : Int)
                have hgs := grown_set (World.grownBy.refl wy (some w2.heap.size)) i (.int .i64 (g' : Int))
                have hOr2 := hOr.kept hgs (fun q e => by have := hOr.ge q e; intro e2; injection e2 with e3; omega)
                have hOg2 := hOg.kept hgs (fun q e => by have := hOg.ge q e; intro e2; injection e2 with e3; omega)
                have hBy := (old_trans (old_trans hBe hbr) hby).setCell (p := ⟨w2.heap.size, i, none⟩) (Nat.le_refl _) (.int .i64 (g' : Int))
                have D3 := hd (D2.out _ hOr2 hOg2)
                clear D2 C2 hOr hOg hOr2 hOg2 hgs
                go_wp2_with fail
                refine D3.out.mono ?_
                rintro e wx ⟨⟨avn, cvn, rfl, hOn⟩, hbx⟩
                go_wp2_with fail
                go_roundw
                case rel => exact ⟨i, (i : Int) - 1, Rm, _, avn, cvn, by omega, by omega, by go_num, rfl, hOn.mono (by have := hrz.1; simp [World.setCell]; omega), hst2.out, hset.old hbx, old_trans hBy hbx⟩
                case measure => simp [intOf] <;> omega
              · obtain ⟨h9, h10, h11⟩ := guess_not hY1.out (R := R') (g := g') (by omega)
                have hcn : cmpI (Y * g') R' = 1 := cmpI_gt (by omega)
                rw [hcn] at C2
                have hYl3 := hYl2.out
                have hml := mul_len (xs := natL Y) (U := g') (digs_natL Y) (by have := hg2'.out; omega)
                rw [val_natL] at hml
                have hYY : Y ≤ Y * g' := Nat.le_mul_of_pos_right _ h9
                have hYi2 := hYe.old (Below.mono hbr (Nat.le_refl _))
                have hnl := natL_le hYY
                rw [← hn'.out] at hnl
                have D2 := hd (fun w' (h : OI w' (w2.heap.size + 1) avg cvg (natL (Y * g'))) (h' : InI w' (some ⟨b2, o2, none⟩) n cv2 (natL Y)) => sSub avg (some ⟨b2, o2, none⟩) _ n cvg cv2 _ _ w' h.inI h' (digs_natL _) (digs_natL _) (by omega) hnl (by rw [val_natL, val_natL]; exact hYY))
                rw [val_natL, val_natL, h11] at D2
                have h9' := hd h9
                have h10' := hd h10
                have hwr := hbr.size
                have hpos : (1 : Int) ≤ (g' : Int) := by omega
                have hg3 : (g' : Int) < 65536 := by have := hg2'.out; omega
                have hgn : Hid ((g' : Int) - 1 = ((g' - 1 : Nat) : Int)) := by show _ = _; omega
                clear hfit h9 h10 h11 hcn hYl3 hml hYY hnl
                generalize natL (Y * g') = pl at *
                generalize hgI : (g' : Int) = gI at *
                go_wp2_with fail
                refine C2.out.mono ?_
                rintro e wy ⟨rfl, hby⟩
                have D3 := hd (D2.out _ (hOg.later hby) (hYi2.old hby))
                have hwy := hby.size
                clear D2 C2
                go_wp2_with fail
                refine D3.out.mono ?_
                rintro e wx ⟨⟨avn, cvn, rfl, hOn⟩, hbx⟩
                go_wp2_with fail
                go_roundw
                case rel => exact ⟨g' - 1, avn, cvn, by rw [hgn.out], rfl, hOn.mono (by omega), h10'.out, by have := hg2'.out; omega, old_trans (old_trans hbr hby) hbx⟩
                case measure => (subst hgI; have := h9'.out; simp [intOf] <;> omega)
    · obtain rfl : j = -1 := by omega
      obtain rfl : k = 0 := by omega
      obtain ⟨hv, hrr⟩ := hend.out _ _ _ hI
      have hRl : (natL R).length ≤ 65537 := by
        have := natL_le (Nat.le_of_lt hI.lt)
        rw [← hn'.out] at this
        omega
      have hql := hd hI.sz
      have dq := hd hI.dg
      have D1 := hd (sDivSmall av _ cv _ U wr hO.inI (digs_natL R) (by omega) (by omega) (by omega))
      rw [val_natL, hrr] at D1
      have T9 := hd (fun w' (h : IRow w' w2.heap.size qs) => sTrim (some ⟨w2.heap.size, 0, none⟩) qs.length m qs w' (h.inI (digs_fits dq.out) (by rw [hql.out]; exact Nat.le_refl _) (by unfold maxLen; omega)) dq.out (by rw [hql.out]; omega))
      rw [hv, hql.out] at T9
      have hbs := hB2.size
      have hbw := hb.size
      clear hI hv hrr hRl hend hlx' hn' hPY hYP hYp hYX
      generalize R % U = rr at *
      go_wp2_with fail
      refine D1.out.mono ?_
      rintro e wx ⟨⟨avn, cvn, rfl, hOn⟩, hbx⟩
      have hwx := hbx.size
      have T8 := hd (T9.out _ (hr.old hbx))
      clear D1 T9
      go_wp2_with fail
      refine T8.out.mono ?_
      rintro e wy ⟨⟨avq, cvq, rfl, hOq⟩, hby⟩
      go_wp2
      go_ret2
      exact ⟨⟨_, _, _, _, rfl, hOq.mono (by omega), (hOn.later hby).mono (by omega), (OI.sepOf hOn hOq (Nat.le_refl _)).symm⟩, old_trans (old_trans (hB2.trans (hb.mono hB2.size)) hbx) hby⟩
end Go.Proofs.YtgoffjpfddmhhaaGreatDoor

/- The specification's quotient and rest: new lists that share no memory. Conditions: numbers, the second not 0, 2^16 digits at most. -/
namespace Go.Proofs.YtgoffjpfddmhhaaGreatDoor
open Go.RowKit
set_option linter.unusedVariables false
set_option maxRecDepth 100000

theorem one_digit {ys : List Int} {d : Int} (h : ys.length = 1) (e : ys.getD 0 0 = d) (hd : dig d) : val ys = d.toNat := by
  match ys, h with
  | [y], _ =>
    simp at e
    subst e
    rw [val_cons, val_nil]; omega
set_option maxRecDepth 100000 in
set_option maxHeartbeats 4000000 in
theorem sDiv (a b : Option Addr) (la lb ca cb : Nat) (xs ys : List Int) (w : World) (hA : InI w a la ca xs) (hB : InI w b lb cb ys) (hx : digs xs) (hy : digs ys) (tx : topped xs) (ty : topped ys) (hla : la ≤ 65536) (hlb : lb ≤ 65536) (h0 : 0 < lb) :
    Calls Tryz.prog 77 #[.slice a la ca, .slice b lb cb] w fun e w' => (∃ av cv av2 cv2, e = .returned (.tuple #[.slice av (natL (val xs / val ys)).length cv, .slice av2 (natL (val xs % val ys)).length cv2]) ∧ OI w' w.heap.size av cv (natL (val xs / val ys)) ∧ OI w' w.heap.size av2 cv2 (natL (val xs % val ys)) ∧ Sep av av2) ∧ Below w.heap.size w w' := by
  have pa := hA.1
  have pb := hB.1
  by_cases hlt : val xs < val ys
  · have C := hd (sCmp a b la lb ca cb xs ys w hA hB hx hy tx ty)
    rw [cmpI_lt hlt] at C
    rw [Nat.div_eq_of_lt hlt, Nat.mod_eq_of_lt hlt, natL_zero]
    have T := hd (fun w' (h : Below w.heap.size w w') => sTrim a la ca xs w' (hA.old h) hx (by omega))
    clear hlt
    generalize natL (val xs) = ql at *
    go_enter Tryz.func77, Tryz.ntmps77
    go_wp2_with fail
    refine C.out.mono ?_
    rintro e w1 ⟨rfl, hb1⟩
    go_wp2_with fail
    refine (T.out _ hb1).mono ?_
    rintro e w2 ⟨⟨av, cv, rfl, hO⟩, hb2⟩
    go_wp2
    go_ret2
    exact ⟨⟨none, 0, av, cv, rfl, OI.none _ _, hO.mono hb1.size, Sep.none _⟩, old_trans hb1 hb2⟩
  by_cases h2 : 2 ≤ lb
  · exact sDivLong a b la lb ca cb xs ys w hA hB hx hy tx ty hla hlb h2 (by omega)
  · obtain rfl : lb = 1 := by omega
    obtain ⟨bb, ob, t, rfl, hbl, ht, -, ct⟩ := hB.at (k := 0) (by omega)
    have dt := digs_getD hy 0
    have ht0 := ty.resolve_left (by omega)
    rw [pb] at ht0
    rw [show 1 - 1 = 0 from rfl] at ht0
    rw [ht] at dt ht0
    have hv := one_digit pb ht dt
    unfold dig at dt
    obtain ⟨d, rfl⟩ := Int.eq_ofNat_of_zero_le dt.1
    rw [Int.toNat_natCast] at hv
    have C := hd (sCmp a (some ⟨bb, ob, none⟩) la 1 ca cb xs ys w hA hB hx hy tx ty)
    have hc0 : ¬ cmpI (val xs) (val ys) < 0 := by unfold cmpI; rw [if_neg (by omega)]; split <;> omega
    rw [hv] at hlt C hc0 ⊢
    have D := hd (fun w' (h : Below w.heap.size w w') => sDivSmall a la ca xs d w' (hA.old h) hx (by omega) (by omega) (by omega))
    have hr : val xs % d < 65536 := by have := Nat.mod_lt (val xs) (show 0 < d by omega); omega
    have E := hd (fun w' => sNatOf (val xs % d) (by omega) w')
    have hwx : IntKind.u64.wrap ((val xs % d : Nat) : Int) = ((val xs % d : Nat) : Int) := by
      generalize val xs % d = rr at *
      simp [IntKind.wrap, IntKind.bits, IntKind.signed]; omega
    generalize val xs % d = rr at *
    generalize val xs / d = qq at *
    have hr' : ((rr : Nat) : Int) < 65536 := by omega
    have hr0 : 0 ≤ ((rr : Nat) : Int) := by omega
    generalize cmpI (val xs) d = cc at *
    clear hlt h2 hr
    generalize ((rr : Nat) : Int) = rI at *
    go_enter Tryz.func77, Tryz.ntmps77
    go_wp2_with fail
    refine C.out.mono ?_
    rintro e w1 ⟨rfl, hb1⟩
    have ct := (hb1.cell (p := ⟨bb, ob + 0, none⟩) hbl).trans ct
    rw [Nat.add_zero] at ct
    go_wp2_with fail
    refine (D.out _ hb1).mono ?_
    rintro e w2 ⟨⟨av, cv, rfl, hO⟩, hb2⟩
    go_wp2_with fail
    refine (E.out _).mono ?_
    rintro e w3 ⟨⟨av3, cv3, rfl, hO3⟩, hb3⟩
    go_wp2
    go_ret2
    have s1 := hb1.size
    have s2 := hb2.size
    exact ⟨⟨av, cv, av3, cv3, rfl, (hO.later hb3).mono s1, hO3.mono (by omega), OI.sepOf hO hO3 (Nat.le_refl _)⟩, old_trans (old_trans hb1 hb2) hb3⟩
end Go.Proofs.YtgoffjpfddmhhaaGreatDoor

/- Powers of two and shifts, by the specification. Conditions: numbers. -/
namespace Go.Proofs.YtgoffjpfddmhhaaGreatDoor
open Go.RowKit
set_option linter.unusedVariables false
set_option maxRecDepth 100000

set_option maxRecDepth 100000 in
set_option maxHeartbeats 2000000 in
theorem sPow2 (P p : Nat) (w : World) (hp : p < 16) (hP : P ≤ 1024) :
    Calls Tryz.prog 57 #[.int .i64 (16 * (P : Int) + p)] w fun e w' => (∃ av cv, e = .returned (.slice av (natL (65536 ^ P * 2 ^ p)).length cv) ∧ OI w' w.heap.size av cv (natL (65536 ^ P * 2 ^ p))) ∧ Below w.heap.size w w' := by
  have hq : (16 * (P : Int) + p) / 16 = P := by omega
  have hr : (16 * (P : Int) + p) % 16 = p := by omega
  have hT : 2 ^ p ≤ 32768 ∧ 0 < 2 ^ p := ⟨by have : 2 ^ p ≤ 2 ^ 15 := Nat.pow_le_pow_right (by omega) (by omega)
                                             omega, Nat.pow_pos (by omega)⟩
  have hw : wrap64 ((2 : Int) ^ p) = ((2 ^ p : Nat) : Int) := by
    have e : ((2 ^ p : Nat) : Int) = (2 : Int) ^ p := Int.natCast_pow 2 p
    rw [← e]
    generalize 2 ^ p = T at *
    unfold wrap64
    omega
  have hdg : dig ((2 ^ p : Nat) : Int) := by
    unfold dig
    generalize 2 ^ p = T at *
    omega
  have hrow := (dig_row w ((2 ^ p : Nat) : Int) 3).resolve_right (fun h => h hdg)
  have hB1 : Below w.heap.size w (w.alloc (.cells #[.int .i64 ((2 ^ p : Nat) : Int)] 3)) := (Below.refl _ w).alloc (Nat.le_refl _) _
  have ht : topped [((2 ^ p : Nat) : Int)] := topped_one.2 (by generalize 2 ^ p = T at *; omega)
  have M := hd (sShl (some ⟨w.heap.size, 0, none⟩) 1 1 [((2 ^ p : Nat) : Int)] P _ hrow (digs_cons.2 ⟨hdg, digs_nil⟩) ht (by omega) (by omega))
  rw [val_cons, val_nil, Int.toNat_natCast, Nat.mul_zero, Nat.add_zero, Nat.mul_comm] at M
  generalize natL (65536 ^ P * 2 ^ p) = ql at *
  clear hrow ht hdg hT
  generalize ((2 ^ p : Nat) : Int) = T at *
  have hp0 : (0 : Int) ≤ (p : Int) := by omega
  have hp1 : (p : Int) < 16 := by omega
  go_enter Tryz.func57, Tryz.ntmps57
  go_wp2_with fail
  refine M.out.mono ?_
  rintro e w1 ⟨⟨av, cv, rfl, hO⟩, hb1⟩
  go_wp2
  go_ret
  exact ⟨⟨_, _, rfl, hO.mono hB1.size⟩, old_trans hB1 hb1⟩
end Go.Proofs.YtgoffjpfddmhhaaGreatDoor
