/- Numbers of the language, of the specification. Nothing is written. No condition. -/
import Derived.Test.YtmpckbgelkfgpaaPK08
import Derived.Laws.Cover1
namespace Go.Proofs.Ytmpckbgelkfgpaa
open Go.RowKit
set_option linter.unusedVariables false
set_option maxRecDepth 100000

theorem rBn {b c : Bool} (h : c = b) : Ending.returned (.bool b) = .returned (.bool c) := by rw [h]
theorem ext3 {s : ByteArray} {a : Nat} (h : a + 3 ≤ s.size) : ∃ u0 u1 u2 : UInt8, (s.extract a (a + 3)).toList = [u0, u1, u2] ∧ (u0.toNat : Int) = byt s a ∧ (u1.toNat : Int) = byt s (a + 1) ∧ (u2.toNat : Int) = byt s (a + 2) := by
  obtain ⟨⟨l⟩⟩ := s
  have hl : a + 3 ≤ l.length := h
  refine ⟨l.getD a 0, l.getD (a + 1) 0, l.getD (a + 2) 0, ?_, rfl, rfl, rfl⟩
  rw [ByteArray.toList_eq]
  have e : (ByteArray.extract ⟨⟨l⟩⟩ a (a + 3)).data.toList = (l.drop a).take 3 := by
    have q := ByteArray.extract_mk l a (a + 3)
    rw [show a + 3 - a = 3 by omega] at q
    rw [show (⟨⟨l⟩⟩ : ByteArray) = ByteArray.mk l.toArray from rfl, q]
  rw [e]
  have c1 : l.drop a = l.getD a 0 :: l.drop (a + 1) := by rw [List.drop_eq_getElem_cons (by omega)]; simp [List.getD_eq_getElem?_getD, List.getElem?_eq_getElem (show a < l.length by omega)]
  have c2 : l.drop (a + 1) = l.getD (a + 1) 0 :: l.drop (a + 1 + 1) := by rw [List.drop_eq_getElem_cons (by omega)]; simp [List.getD_eq_getElem?_getD, List.getElem?_eq_getElem (show a + 1 < l.length by omega)]
  have c3 : l.drop (a + 1 + 1) = l.getD (a + 2) 0 :: l.drop (a + 1 + 1 + 1) := by rw [List.drop_eq_getElem_cons (by omega)]; simp [List.getD_eq_getElem?_getD, List.getElem?_eq_getElem (show a + 2 < l.length by omega)]
  rw [c1, c2, c3]
  rfl
theorem gt400 {s : ByteArray} {a : Nat} (h : ∀ i, i < 3 → dig' s (a + i)) : (!(Op.bytesLess (s.extract a (a + 3)).toList [52, 48, 48] || (s.extract a (a + 3)).toList == [52, 48, 48])) = decide (400 < nm s a 3) := by
  have h2 := h 2 (by omega)
  have h1 := h 1 (by omega)
  have h0 := h 0 (by omega)
  obtain ⟨u0, u1, u2, e, e0, e1, e2⟩ := ext3 (s := s) (a := a) (by have := h2.1; omega)
  have en : nm s a 3 = 100 * (byt s a - 48) + 10 * (byt s (a + 1) - 48) + (byt s (a + 2) - 48) := by
    unfold nm nm nm nm
    simp only [Nat.add_zero]
    omega
  rw [e, en, ← e0, ← e1, ← e2]
  have g0 := h0.2
  have g1 := h1.2
  have g2 := h2.2
  simp only [Nat.add_zero] at g0
  rw [← e0] at g0
  rw [← e1] at g1
  rw [← e2] at g2
  clear e e0 e1 e2 en h h0 h1 h2
  rw [Bool.eq_iff_iff]
  simp only [Op.bytesLess, List.cons_beq_cons, Bool.not_eq_true', Bool.or_eq_false_iff, Bool.and_eq_false_iff, decide_eq_false_iff_not, decide_eq_true_eq, UInt8.lt_iff_toNat_lt, beq_eq_false_iff_ne, ne_eq, ← UInt8.toNat_inj]
  simp
  omega
set_option maxRecDepth 100000 in
set_option maxHeartbeats 8000000 in
theorem sNumOk (s : ByteArray) (hs : s.size ≤ maxLen) (w : World) : Calls Try.prog 133 #[.string s] w fun e w' => e = .returned (.bool (decS s)) ∧ w' = w := by
  obtain ⟨res, hres⟩ : ∃ r, decS s = r := ⟨_, rfl⟩
  rw [hres]
  have DG := hd (fun k hk w => sRun11 s k hk hs w)
  have D0 := hd (DG.out 0 (by omega))
  have nl := dn_le s 0 (by omega)
  have nd := hd (fun j hj => dn_dig s (dn s 0) 0 j rfl hj)
  have e6 := hd (fun h => hres.symm.trans (decS_bad (s := s) (.inl h)))
  have eb := hd (fun h => hres.symm.trans (decS_bad (s := s) (.inr h)))
  have ek := hd (fun h => hres.symm.trans (decS_ok (s := s) h))
  clear hres
  generalize dn s 0 = n at *
  go_enter Try.func133, Try.ntmps133
  go_wp2_with fail
  refine (D0.out _).mono ?_
  rintro e w1 ⟨rfl, rfl⟩
  clear D0
  by_cases h60 : 60 < s.size
  · have h60' : 60 < (s.size : Int) := by omega
    have zz := hd (e6.out h60)
    go_wp2
    go_ret
    exact ⟨rBn zz.out, rfl⟩
  have h60' : ¬ 60 < (s.size : Int) := by omega
  by_cases c0 : n = 0
  · subst c0
    have zz := hd (eb.out (.inl rfl))
    go_wp2
    go_ret
    exact ⟨rBn zz.out, rfl⟩
  have c0' : ((n : Int) == 0) = false := by simp; omega
  have b0 : 0 < s.size := (nd.out 0 (by omega)).1
  have i0 := idxS0 (t := 9) Try.underlying9 s b0
  by_cases c1 : 1 < n ∧ byt s 0 = 48
  · have e0 := hd (eb.out (.inr c1))
    obtain ⟨c2, c3⟩ := c1
    rw [c3] at i0
    have c2' : 1 < (n : Int) := by omega
    clear eb ek nd c3
    have zz := hd (e0.out)
    go_wp2
    go_ret
    exact ⟨rBn zz.out, rfl⟩
  have EK := ek.out (by omega)
  clear eb ek e6
  have c2 : ¬ 1 < (n : Int) ∨ (1 < (n : Int) ∧ ¬ byt s 0 = 48) := by omega
  clear nd
  go_upto_region 2 with fail
  go_cut [25] (fun x wx => x = .bool false ∧ wx = w1)
  case first =>
    rcases c2 with c2 | ⟨c2, c3⟩
    · go_wp2
      go_meet
      exact ⟨by first | rfl | rw [c0'] | (simp; omega), rfl⟩
    · have c3b : (byt s 0 == 48) = false := by simp; exact c3
      go_wp2
      go_meet
      exact ⟨by first | rfl | (rw [c0', c3b]; rfl) | (simp; omega), rfl⟩
  case rest =>
  obtain ⟨rfl, rfl⟩ := hcut
  clear c2 i0
  by_cases hp : n < s.size ∧ byt s n = 46
  case neg =>
    rw [if_neg hp] at EK
    obtain ⟨k, rfl⟩ : ∃ k, k = n := ⟨_, rfl⟩
    have EX := EK
    clear EK
    have hk : k ≤ s.size := by omega
    have hx : ¬ (k : Int) < (s.size : Int) ∨ ((k : Int) < (s.size : Int) ∧ k < s.size ∧ ¬ byt s k = 46) := by omega
    clear hp
    go_upto_region 5 with fail
    go_cut [36] (fun x wx => x = .bool false ∧ wx = wc)
    case first =>
      rcases hx with hx | ⟨hx, hx2, hx3⟩
      · go_wp2
        go_meet
        exact ⟨rfl, rfl⟩
      · have ip := idxS (t := 9) Try.underlying9 s k hx2
        have hx3' : (byt s k == 46) = false := by simp; exact hx3
        generalize byt s k = bk at *
        go_wp2
        go_meet
        exact ⟨by first | rfl | rw [hx3'], rfl⟩
    case rest =>
    obtain ⟨rfl, rfl⟩ := hcut
    clear hx
    by_cases he : k < s.size ∧ byt s k = 101
    case neg =>
      have ex := hd (EX.trans (exp_no he))
      clear EX DG
      by_cases hk2 : k < s.size
      · have ix := idxS (t := 9) Try.underlying9 s k hk2
        have hb : (byt s k == 101) = false := by simp; exact fun e => he ⟨hk2, e⟩
        have hk3 : (k : Int) < (s.size : Int) := by omega
        clear he
        generalize byt s k = b at *
        have zz := hd (ex.out.trans (same_dec1 k s.size))
        go_wp2
        go_ret
        exact ⟨rBn zz.out, rfl⟩
      · have hk3 : ¬ (k : Int) < (s.size : Int) := by omega
        clear he
        have zz := hd (ex.out.trans (same_dec1 k s.size))
        go_wp2
        go_ret
        exact ⟨rBn zz.out, rfl⟩
    have ix0 := idxS (t := 9) Try.underlying9 s k he.1
    rw [he.2] at ix0
    have hk3 : (k : Int) < (s.size : Int) := by have := he.1; omega
    by_cases hm : k + 1 < s.size ∧ byt s (k + 1) = 45
    · have TL := EX.trans (exp_m he hm)
      have ix1 := idxS (t := 9) Try.underlying9 s (k + 1) hm.1
      rw [hm.2] at ix1
      push_cast at ix1
      have hk4 : (k : Int) + 1 < (s.size : Int) := by have := hm.1; omega
      have ha : k + 1 + 1 ≤ s.size := by have := hm.1; omega
      have ea : (k : Int) + 1 + 1 = ((k + 1 + 1 : Nat) : Int) := by omega
      clear EX he hm
      generalize k + 1 + 1 = a at *
      go_wp2_with fail
      refine (DG.out a ha _).mono ?_
      rintro e w9 ⟨rfl, rfl⟩
      try clear ix1
      have tb := hd (fun h => TL.trans (tl_bad (s := s) (a := a) (m := true) h))
      have tk := hd (fun h => TL.trans (tl_ok (s := s) (a := a) (m := true) h))
      have dg := hd (fun j hj => dn_dig s (dn s a) a j rfl hj)
      clear TL DG
      generalize dn s a = kk at *
      by_cases q0 : kk = 0
      · subst q0
        have zz := hd (tb.out (.inl rfl))
        go_wp2
        go_ret
        exact ⟨rBn zz.out, rfl⟩
      have q0' : ((kk : Int) == 0) = false := by simp; omega
      by_cases q3 : 3 < kk
      · have q3' : 3 < (kk : Int) := by omega
        have zz := hd (tb.out (.inr (.inl q3)))
        go_wp2
        go_ret
        exact ⟨rBn zz.out, rfl⟩
      have a0 : a < s.size := (dg.out 0 (by omega)).1
      have ix := idxS (t := 9) Try.underlying9 s a a0
      have q3' : ¬ 3 < (kk : Int) := by omega
      by_cases qb : (1 < kk ∨ true = true) ∧ byt s a = 48
      · have e48 := hd (tb.out (.inr (.inr qb)))
        obtain ⟨qc, qd⟩ := qb
        rw [qd] at ix
        clear tb tk dg qd
        by_cases q1 : 1 < kk
        · have q1' : 1 < (kk : Int) := by omega
          have zz := hd (e48.out)
          go_wp2
          go_ret
          exact ⟨rBn zz.out, rfl⟩
        · have q1' : ¬ 1 < (kk : Int) := by omega
          have zz := hd (e48.out)
          go_wp2
          go_ret
          exact ⟨rBn zz.out, rfl⟩
      have tk' := hd (tk.out (fun h => by rcases h with h | h | h; exact q0 h; exact q3 h; exact qb h))
      clear tb tk
      have aj : (a : Int) + (kk : Int) < 2000000 := by have := (dg.out (kk - 1) (by omega)).1; omega
      have al : (a : Int) + (kk : Int) ≤ (s.size : Int) := by have := (dg.out (kk - 1) (by omega)).1; omega
      have b48 : ¬ byt s a = 48 := fun e => qb ⟨.inr rfl, e⟩
      have b48' : (byt s a == 48) = false := by simp; exact b48
      clear qb
      by_cases k3 : kk = 3
      · subst k3
        have G := gt400 (s := s) (a := a) (fun i hi => dg.out i hi)
        clear dg b48
        generalize byt s a = ba at *
        by_cases hp : 400 < nm s a 3
        · rw [decide_eq_true hp] at G
          rw [decide_eq_false (by omega : ¬ nm s a 3 ≤ 400)] at tk'
          clear hp
          have zz := hd (tk'.out)
          go_wp2
          go_ret
          exact ⟨rBn zz.out, rfl⟩
        · rw [decide_eq_false hp] at G
          rw [decide_eq_true (by omega : nm s a 3 ≤ 400)] at tk'
          clear hp
          have zz := hd (tk'.out.trans ((Bool.true_and _).trans (same_dec a 3 s.size)))
          go_wp2
          go_ret
          exact ⟨rBn zz.out, rfl⟩
      · have k12 : kk = 1 ∨ kk = 2 := by omega
        rcases k12 with rfl | rfl
        · have nb := (nm_bd (s := s) (a := a) 1 (fun i hi => dg.out i hi)).2
          rw [decide_eq_true (by omega : nm s a 1 ≤ 400)] at tk'
          clear nb dg b48
          generalize byt s a = ba at *
          have zz := hd (tk'.out.trans ((Bool.true_and _).trans (same_dec a 1 s.size)))
          go_wp2
          go_ret
          exact ⟨rBn zz.out, rfl⟩
        · have nb := (nm_bd (s := s) (a := a) 2 (fun i hi => dg.out i hi)).2
          rw [decide_eq_true (by omega : nm s a 2 ≤ 400)] at tk'
          clear nb dg b48
          generalize byt s a = ba at *
          have zz := hd (tk'.out.trans ((Bool.true_and _).trans (same_dec a 2 s.size)))
          go_wp2
          go_ret
          exact ⟨rBn zz.out, rfl⟩
    · have TL := EX.trans (exp_p he hm)
      have ha : k + 1 ≤ s.size := by have := he.1; omega
      have ea : (k : Int) + 1 = ((k + 1 : Nat) : Int) := by omega
      by_cases hm1 : k + 1 < s.size
      · have hm2 : (byt s (k + 1) == 45) = false := by simp; exact fun e => hm ⟨hm1, e⟩
        have ix1 := idxS (t := 9) Try.underlying9 s (k + 1) hm1
        have hk4 : (k : Int) + 1 < (s.size : Int) := by omega
        clear EX he hm
        generalize k + 1 = a at *
        go_wp2_with fail
        refine (DG.out a ha _).mono ?_
        rintro e w9 ⟨rfl, rfl⟩
        try clear ix1
        have tb := hd (fun h => TL.trans (tl_bad (s := s) (a := a) (m := false) h))
        have tk := hd (fun h => TL.trans (tl_ok (s := s) (a := a) (m := false) h))
        have dg := hd (fun j hj => dn_dig s (dn s a) a j rfl hj)
        clear TL DG
        generalize dn s a = kk at *
        by_cases q0 : kk = 0
        · subst q0
          have zz := hd (tb.out (.inl rfl))
          go_wp2
          go_ret
          exact ⟨rBn zz.out, rfl⟩
        have q0' : ((kk : Int) == 0) = false := by simp; omega
        by_cases q3 : 3 < kk
        · have q3' : 3 < (kk : Int) := by omega
          have zz := hd (tb.out (.inr (.inl q3)))
          go_wp2
          go_ret
          exact ⟨rBn zz.out, rfl⟩
        have a0 : a < s.size := (dg.out 0 (by omega)).1
        have ix := idxS (t := 9) Try.underlying9 s a a0
        have q3' : ¬ 3 < (kk : Int) := by omega
        by_cases qb : (1 < kk ∨ false = true) ∧ byt s a = 48
        · have e48 := hd (tb.out (.inr (.inr qb)))
          obtain ⟨qc, qd⟩ := qb
          rw [qd] at ix
          clear tb tk dg qd
          have q1' : 1 < (kk : Int) := by rcases qc with h | h; omega; cases h
          have zz := hd (e48.out)
          go_wp2
          go_ret
          exact ⟨rBn zz.out, rfl⟩
        have tk' := hd (tk.out (fun h => by rcases h with h | h | h; exact q0 h; exact q3 h; exact qb h))
        clear tb tk
        have aj : (a : Int) + (kk : Int) < 2000000 := by have := (dg.out (kk - 1) (by omega)).1; omega
        have al : (a : Int) + (kk : Int) ≤ (s.size : Int) := by have := (dg.out (kk - 1) (by omega)).1; omega
        by_cases b48 : byt s a = 48
        · have k1 : kk = 1 := by
            have : ¬ 1 < kk := fun h => qb ⟨.inl h, b48⟩
            omega
          subst k1
          have nb := (nm_bd (s := s) (a := a) 1 (fun i hi => dg.out i hi)).2
          rw [decide_eq_true (by omega : nm s a 1 ≤ 400)] at tk'
          rw [b48] at ix
          clear qb b48 dg
          have zz := hd (tk'.out.trans ((Bool.true_and _).trans (same_dec a 1 s.size)))
          go_wp2
          go_ret
          exact ⟨rBn zz.out, rfl⟩
        have b48' : (byt s a == 48) = false := by simp; exact b48
        clear qb
        by_cases k3 : kk = 3
        · subst k3
          have G := gt400 (s := s) (a := a) (fun i hi => dg.out i hi)
          clear dg b48
          generalize byt s a = ba at *
          by_cases hp : 400 < nm s a 3
          · rw [decide_eq_true hp] at G
            rw [decide_eq_false (by omega : ¬ nm s a 3 ≤ 400)] at tk'
            clear hp
            have zz := hd (tk'.out)
            go_wp2
            go_ret
            exact ⟨rBn zz.out, rfl⟩
          · rw [decide_eq_false hp] at G
            rw [decide_eq_true (by omega : nm s a 3 ≤ 400)] at tk'
            clear hp
            have zz := hd (tk'.out.trans ((Bool.true_and _).trans (same_dec a 3 s.size)))
            go_wp2
            go_ret
            exact ⟨rBn zz.out, rfl⟩
        · have k12 : kk = 1 ∨ kk = 2 := by omega
          rcases k12 with rfl | rfl
          · have nb := (nm_bd (s := s) (a := a) 1 (fun i hi => dg.out i hi)).2
            rw [decide_eq_true (by omega : nm s a 1 ≤ 400)] at tk'
            clear nb dg b48
            generalize byt s a = ba at *
            have zz := hd (tk'.out.trans ((Bool.true_and _).trans (same_dec a 1 s.size)))
            go_wp2
            go_ret
            exact ⟨rBn zz.out, rfl⟩
          · have nb := (nm_bd (s := s) (a := a) 2 (fun i hi => dg.out i hi)).2
            rw [decide_eq_true (by omega : nm s a 2 ≤ 400)] at tk'
            clear nb dg b48
            generalize byt s a = ba at *
            have zz := hd (tk'.out.trans ((Bool.true_and _).trans (same_dec a 2 s.size)))
            go_wp2
            go_ret
            exact ⟨rBn zz.out, rfl⟩
      · have hk4 : ¬ (k : Int) + 1 < (s.size : Int) := by omega
        clear EX he hm
        generalize k + 1 = a at *
        go_wp2_with fail
        refine (DG.out a ha _).mono ?_
        rintro e w9 ⟨rfl, rfl⟩
        try clear ix1
        have tb := hd (fun h => TL.trans (tl_bad (s := s) (a := a) (m := false) h))
        have tk := hd (fun h => TL.trans (tl_ok (s := s) (a := a) (m := false) h))
        have dg := hd (fun j hj => dn_dig s (dn s a) a j rfl hj)
        clear TL DG
        generalize dn s a = kk at *
        by_cases q0 : kk = 0
        · subst q0
          have zz := hd (tb.out (.inl rfl))
          go_wp2
          go_ret
          exact ⟨rBn zz.out, rfl⟩
        exact absurd (dg.out 0 (by omega)).1 (by omega)
  rw [if_pos hp] at EK
  have ip := idxS (t := 9) Try.underlying9 s n hp.1
  rw [hp.2] at ip
  have hn' : (n : Int) < (s.size : Int) := by have := hp.1; omega
  have D1 := hd (DG.out (n + 1) (by have := hp.1; omega))
  push_cast at D1
  have nl1 := dn_le s (n + 1) (by have := hp.1; omega)
  generalize dn s (n + 1) = k1 at *
  clear hp
  go_wp2_with fail
  refine (D1.out _).mono ?_
  rintro e w2 ⟨rfl, rfl⟩
  by_cases c4 : k1 = 0
  · rw [if_pos c4] at EK
    subst c4
    have zz := hd EK
    clear EK
    go_wp2
    go_ret
    exact ⟨rBn zz.out, rfl⟩
  · rw [if_neg c4] at EK
    have c4' : ((k1 : Int) == 0) = false := by simp; omega
    go_upto_region 10 with fail
    generalize hA : (n : Int) + 1 + (k1 : Int) = AT at *
    obtain rfl : AT = ((n + 1 + k1 : Nat) : Int) := by omega
    have hk : n + 1 + k1 ≤ s.size := by omega
    have EX := EK
    clear hA EK c4 c4' nl1 D1 ip hn'
    generalize n + 1 + k1 = k at *
    by_cases he : k < s.size ∧ byt s k = 101
    case neg =>
      have ex := hd (EX.trans (exp_no he))
      clear EX DG
      by_cases hk2 : k < s.size
      · have ix := idxS (t := 9) Try.underlying9 s k hk2
        have hb : (byt s k == 101) = false := by simp; exact fun e => he ⟨hk2, e⟩
        have hk3 : (k : Int) < (s.size : Int) := by omega
        clear he
        generalize byt s k = b at *
        have zz := hd (ex.out.trans (same_dec1 k s.size))
        go_wp2
        go_ret
        exact ⟨rBn zz.out, rfl⟩
      · have hk3 : ¬ (k : Int) < (s.size : Int) := by omega
        clear he
        have zz := hd (ex.out.trans (same_dec1 k s.size))
        go_wp2
        go_ret
        exact ⟨rBn zz.out, rfl⟩
    have ix0 := idxS (t := 9) Try.underlying9 s k he.1
    rw [he.2] at ix0
    have hk3 : (k : Int) < (s.size : Int) := by have := he.1; omega
    by_cases hm : k + 1 < s.size ∧ byt s (k + 1) = 45
    · have TL := EX.trans (exp_m he hm)
      have ix1 := idxS (t := 9) Try.underlying9 s (k + 1) hm.1
      rw [hm.2] at ix1
      push_cast at ix1
      have hk4 : (k : Int) + 1 < (s.size : Int) := by have := hm.1; omega
      have ha : k + 1 + 1 ≤ s.size := by have := hm.1; omega
      have ea : (k : Int) + 1 + 1 = ((k + 1 + 1 : Nat) : Int) := by omega
      clear EX he hm
      generalize k + 1 + 1 = a at *
      go_wp2_with fail
      refine (DG.out a ha _).mono ?_
      rintro e w9 ⟨rfl, rfl⟩
      try clear ix1
      have tb := hd (fun h => TL.trans (tl_bad (s := s) (a := a) (m := true) h))
      have tk := hd (fun h => TL.trans (tl_ok (s := s) (a := a) (m := true) h))
      have dg := hd (fun j hj => dn_dig s (dn s a) a j rfl hj)
      clear TL DG
      generalize dn s a = kk at *
      by_cases q0 : kk = 0
      · subst q0
        have zz := hd (tb.out (.inl rfl))
        go_wp2
        go_ret
        exact ⟨rBn zz.out, rfl⟩
      have q0' : ((kk : Int) == 0) = false := by simp; omega
      by_cases q3 : 3 < kk
      · have q3' : 3 < (kk : Int) := by omega
        have zz := hd (tb.out (.inr (.inl q3)))
        go_wp2
        go_ret
        exact ⟨rBn zz.out, rfl⟩
      have a0 : a < s.size := (dg.out 0 (by omega)).1
      have ix := idxS (t := 9) Try.underlying9 s a a0
      have q3' : ¬ 3 < (kk : Int) := by omega
      by_cases qb : (1 < kk ∨ true = true) ∧ byt s a = 48
      · have e48 := hd (tb.out (.inr (.inr qb)))
        obtain ⟨qc, qd⟩ := qb
        rw [qd] at ix
        clear tb tk dg qd
        by_cases q1 : 1 < kk
        · have q1' : 1 < (kk : Int) := by omega
          have zz := hd (e48.out)
          go_wp2
          go_ret
          exact ⟨rBn zz.out, rfl⟩
        · have q1' : ¬ 1 < (kk : Int) := by omega
          have zz := hd (e48.out)
          go_wp2
          go_ret
          exact ⟨rBn zz.out, rfl⟩
      have tk' := hd (tk.out (fun h => by rcases h with h | h | h; exact q0 h; exact q3 h; exact qb h))
      clear tb tk
      have aj : (a : Int) + (kk : Int) < 2000000 := by have := (dg.out (kk - 1) (by omega)).1; omega
      have al : (a : Int) + (kk : Int) ≤ (s.size : Int) := by have := (dg.out (kk - 1) (by omega)).1; omega
      have b48 : ¬ byt s a = 48 := fun e => qb ⟨.inr rfl, e⟩
      have b48' : (byt s a == 48) = false := by simp; exact b48
      clear qb
      by_cases k3 : kk = 3
      · subst k3
        have G := gt400 (s := s) (a := a) (fun i hi => dg.out i hi)
        clear dg b48
        generalize byt s a = ba at *
        by_cases hp : 400 < nm s a 3
        · rw [decide_eq_true hp] at G
          rw [decide_eq_false (by omega : ¬ nm s a 3 ≤ 400)] at tk'
          clear hp
          have zz := hd (tk'.out)
          go_wp2
          go_ret
          exact ⟨rBn zz.out, rfl⟩
        · rw [decide_eq_false hp] at G
          rw [decide_eq_true (by omega : nm s a 3 ≤ 400)] at tk'
          clear hp
          have zz := hd (tk'.out.trans ((Bool.true_and _).trans (same_dec a 3 s.size)))
          go_wp2
          go_ret
          exact ⟨rBn zz.out, rfl⟩
      · have k12 : kk = 1 ∨ kk = 2 := by omega
        rcases k12 with rfl | rfl
        · have nb := (nm_bd (s := s) (a := a) 1 (fun i hi => dg.out i hi)).2
          rw [decide_eq_true (by omega : nm s a 1 ≤ 400)] at tk'
          clear nb dg b48
          generalize byt s a = ba at *
          have zz := hd (tk'.out.trans ((Bool.true_and _).trans (same_dec a 1 s.size)))
          go_wp2
          go_ret
          exact ⟨rBn zz.out, rfl⟩
        · have nb := (nm_bd (s := s) (a := a) 2 (fun i hi => dg.out i hi)).2
          rw [decide_eq_true (by omega : nm s a 2 ≤ 400)] at tk'
          clear nb dg b48
          generalize byt s a = ba at *
          have zz := hd (tk'.out.trans ((Bool.true_and _).trans (same_dec a 2 s.size)))
          go_wp2
          go_ret
          exact ⟨rBn zz.out, rfl⟩
    · have TL := EX.trans (exp_p he hm)
      have ha : k + 1 ≤ s.size := by have := he.1; omega
      have ea : (k : Int) + 1 = ((k + 1 : Nat) : Int) := by omega
      by_cases hm1 : k + 1 < s.size
      · have hm2 : (byt s (k + 1) == 45) = false := by simp; exact fun e => hm ⟨hm1, e⟩
        have ix1 := idxS (t := 9) Try.underlying9 s (k + 1) hm1
        have hk4 : (k : Int) + 1 < (s.size : Int) := by omega
        clear EX he hm
        generalize k + 1 = a at *
        go_wp2_with fail
        refine (DG.out a ha _).mono ?_
        rintro e w9 ⟨rfl, rfl⟩
        try clear ix1
        have tb := hd (fun h => TL.trans (tl_bad (s := s) (a := a) (m := false) h))
        have tk := hd (fun h => TL.trans (tl_ok (s := s) (a := a) (m := false) h))
        have dg := hd (fun j hj => dn_dig s (dn s a) a j rfl hj)
        clear TL DG
        generalize dn s a = kk at *
        by_cases q0 : kk = 0
        · subst q0
          have zz := hd (tb.out (.inl rfl))
          go_wp2
          go_ret
          exact ⟨rBn zz.out, rfl⟩
        have q0' : ((kk : Int) == 0) = false := by simp; omega
        by_cases q3 : 3 < kk
        · have q3' : 3 < (kk : Int) := by omega
          have zz := hd (tb.out (.inr (.inl q3)))
          go_wp2
          go_ret
          exact ⟨rBn zz.out, rfl⟩
        have a0 : a < s.size := (dg.out 0 (by omega)).1
        have ix := idxS (t := 9) Try.underlying9 s a a0
        have q3' : ¬ 3 < (kk : Int) := by omega
        by_cases qb : (1 < kk ∨ false = true) ∧ byt s a = 48
        · have e48 := hd (tb.out (.inr (.inr qb)))
          obtain ⟨qc, qd⟩ := qb
          rw [qd] at ix
          clear tb tk dg qd
          have q1' : 1 < (kk : Int) := by rcases qc with h | h; omega; cases h
          have zz := hd (e48.out)
          go_wp2
          go_ret
          exact ⟨rBn zz.out, rfl⟩
        have tk' := hd (tk.out (fun h => by rcases h with h | h | h; exact q0 h; exact q3 h; exact qb h))
        clear tb tk
        have aj : (a : Int) + (kk : Int) < 2000000 := by have := (dg.out (kk - 1) (by omega)).1; omega
        have al : (a : Int) + (kk : Int) ≤ (s.size : Int) := by have := (dg.out (kk - 1) (by omega)).1; omega
        by_cases b48 : byt s a = 48
        · have k1 : kk = 1 := by
            have : ¬ 1 < kk := fun h => qb ⟨.inl h, b48⟩
            omega
          subst k1
          have nb := (nm_bd (s := s) (a := a) 1 (fun i hi => dg.out i hi)).2
          rw [decide_eq_true (by omega : nm s a 1 ≤ 400)] at tk'
          rw [b48] at ix
          clear qb b48 dg
          have zz := hd (tk'.out.trans ((Bool.true_and _).trans (same_dec a 1 s.size)))
          go_wp2
          go_ret
          exact ⟨rBn zz.out, rfl⟩
        have b48' : (byt s a == 48) = false := by simp; exact b48
        clear qb
        by_cases k3 : kk = 3
        · subst k3
          have G := gt400 (s := s) (a := a) (fun i hi => dg.out i hi)
          clear dg b48
          generalize byt s a = ba at *
          by_cases hp : 400 < nm s a 3
          · rw [decide_eq_true hp] at G
            rw [decide_eq_false (by omega : ¬ nm s a 3 ≤ 400)] at tk'
            clear hp
            have zz := hd (tk'.out)
            go_wp2
            go_ret
            exact ⟨rBn zz.out, rfl⟩
          · rw [decide_eq_false hp] at G
            rw [decide_eq_true (by omega : nm s a 3 ≤ 400)] at tk'
            clear hp
            have zz := hd (tk'.out.trans ((Bool.true_and _).trans (same_dec a 3 s.size)))
            go_wp2
            go_ret
            exact ⟨rBn zz.out, rfl⟩
        · have k12 : kk = 1 ∨ kk = 2 := by omega
          rcases k12 with rfl | rfl
          · have nb := (nm_bd (s := s) (a := a) 1 (fun i hi => dg.out i hi)).2
            rw [decide_eq_true (by omega : nm s a 1 ≤ 400)] at tk'
            clear nb dg b48
            generalize byt s a = ba at *
            have zz := hd (tk'.out.trans ((Bool.true_and _).trans (same_dec a 1 s.size)))
            go_wp2
            go_ret
            exact ⟨rBn zz.out, rfl⟩
          · have nb := (nm_bd (s := s) (a := a) 2 (fun i hi => dg.out i hi)).2
            rw [decide_eq_true (by omega : nm s a 2 ≤ 400)] at tk'
            clear nb dg b48
            generalize byt s a = ba at *
            have zz := hd (tk'.out.trans ((Bool.true_and _).trans (same_dec a 2 s.size)))
            go_wp2
            go_ret
            exact ⟨rBn zz.out, rfl⟩
      · have hk4 : ¬ (k : Int) + 1 < (s.size : Int) := by omega
        clear EX he hm
        generalize k + 1 = a at *
        go_wp2_with fail
        refine (DG.out a ha _).mono ?_
        rintro e w9 ⟨rfl, rfl⟩
        try clear ix1
        have tb := hd (fun h => TL.trans (tl_bad (s := s) (a := a) (m := false) h))
        have tk := hd (fun h => TL.trans (tl_ok (s := s) (a := a) (m := false) h))
        have dg := hd (fun j hj => dn_dig s (dn s a) a j rfl hj)
        clear TL DG
        generalize dn s a = kk at *
        by_cases q0 : kk = 0
        · subst q0
          have zz := hd (tb.out (.inl rfl))
          go_wp2
          go_ret
          exact ⟨rBn zz.out, rfl⟩
        exact absurd (dg.out 0 (by omega)).1 (by omega)
end Go.Proofs.Ytmpckbgelkfgpaa
