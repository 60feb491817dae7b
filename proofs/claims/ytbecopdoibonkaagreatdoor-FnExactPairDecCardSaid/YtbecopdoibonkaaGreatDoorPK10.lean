/- Literals of the specification: taken apart, with what is told. Nothing is written. No condition. -/
import Derived.Test.YtbecopdoibonkaaGreatDoorPK09
import Derived.Test.YtbecopdoibonkaaGreatDoorPK08
namespace Go.Proofs.YtbecopdoibonkaaGreatDoor
open Go.RowKit
set_option linter.unusedVariables false
set_option maxRecDepth 100000

/-- the decimals of a literal, and its power -/
def decDs (s : ByteArray) : ByteArray := ba (txt s 0 (dn s 0) ++ tBe s (dn s 0))
def decPw (s : ByteArray) : Int := if dnE s (pBe s (dn s 0)) then - pwE s (pBe s (dn s 0)) else pwE s (pBe s (dn s 0))
theorem ext_txt (s : ByteArray) (a n : Nat) : s.extract a (a + n) = ba (txt s a n) := by
  apply ByteArray.ext
  rw [ByteArray.data_extract]
  apply Array.ext'
  simp [ba, txt, List.take_drop]
theorem ext_txt0 (s : ByteArray) (n : Nat) : s.extract 0 n = ba (txt s 0 n) := by
  have := ext_txt s 0 n
  rwa [Nat.zero_add] at this
set_option maxRecDepth 100000 in
set_option maxHeartbeats 8000000 in
theorem sPartsF (s : ByteArray) (hs : s.size ≤ maxLen) (w : World) : Calls Tryz.prog 11 #[.string s] w fun e w' => (∃ d b p, e = .returned (.tuple #[.string d, .int .i64 b, .int .i64 p, .bool (decS s)]) ∧ (decS s = true → d = decDs s ∧ b = (nBe s (dn s 0) : Int) ∧ p = decPw s)) ∧ w' = w := by
  obtain ⟨DS, hDS0⟩ : ∃ d, decDs s = d := ⟨_, rfl⟩
  obtain ⟨BB, hBB⟩ : ∃ b, (nBe s (dn s 0) : Int) = b := ⟨_, rfl⟩
  obtain ⟨PP, hPP0⟩ : ∃ p, decPw s = p := ⟨_, rfl⟩
  rw [hDS0, hBB, hPP0]
  have hDS : Hid (ba (txt s 0 (dn s 0) ++ tBe s (dn s 0)) = DS) := hDS0
  clear hDS0
  replace hBB := hd hBB
  have hPP1 : Hid (PP = (if dnE s (pBe s (dn s 0)) then - pwE s (pBe s (dn s 0)) else pwE s (pBe s (dn s 0)))) := by show _ = _; rw [← hPP0]; rfl
  clear hPP0
  obtain ⟨res, hres⟩ : ∃ r, decS s = r := ⟨_, rfl⟩
  rw [hres]
  have DG := hd (fun k hk w => sDigits7 s k hk hs w)
  by_cases h60 : 60 < s.size
  · rw [decS_bad (.inl h60)] at hres
    subst hres
    have h60' : 60 < (s.size : Int) := by omega
    clear DG
    go_enter Tryz.func11, Tryz.ntmps11
    go_wp2
    exact bodyPost_ret (resP7 rfl rfl rfl rfl) rfl ⟨⟨_, _, _, rfl, fun hh => by cases hh⟩, rfl⟩
  have h60' : ¬ 60 < (s.size : Int) := by omega
  have D0 := hd (DG.out 0 (by omega))
  have nl := dn_le s 0 (by omega)
  have nd := hd (fun j hj => dn_dig s (dn s 0) 0 j rfl hj)
  have eb := hd (fun h => hres.symm.trans (decS_bad (s := s) (.inr h)))
  have ek := hd (fun h => hres.symm.trans (decS_ok (s := s) h))
  clear hres
  generalize dn s 0 = n at *
  go_enter Tryz.func11, Tryz.ntmps11
  go_wp2_with fail
  refine (D0.out _).mono ?_
  rintro e w1 ⟨rfl, rfl⟩
  clear D0
  by_cases c0 : n = 0
  · subst c0
    have zz := hd (eb.out (.inl rfl))
    go_wp2
    exact bodyPost_ret (resP7 rfl rfl rfl rfl) rfl ⟨⟨_, _, _, retP zz.out, fun hh => absurd (zz.out.symm.trans hh) (by simp)⟩, rfl⟩
  have c0' : ¬ (n : Int) = 0 := by omega
  have b0 : 0 < s.size := (nd.out 0 (by omega)).1
  have i0 := idxS0 (t := 9) Tryz.underlying9 s b0
  by_cases c1 : 1 < n ∧ byt s 0 = 48
  · have e0 := hd (eb.out (.inr c1))
    obtain ⟨c2, c3⟩ := c1
    rw [c3] at i0
    have c2' : 1 < (n : Int) := by omega
    clear eb ek nd c3
    have zz := hd (e0.out)
    go_wp2
    exact bodyPost_ret (resP7 rfl rfl rfl rfl) rfl ⟨⟨_, _, _, retP zz.out, fun hh => absurd (zz.out.symm.trans hh) (by simp)⟩, rfl⟩
  have EK := ek.out (by omega)
  clear eb ek
  have c2 : ¬ 1 < (n : Int) ∨ (1 < (n : Int) ∧ ¬ byt s 0 = 48) := by omega
  clear nd
  go_upto_region 4 with fail
  go_cut [29] (fun x wx => x = .bool false ∧ wx = w1)
  case first =>
    have c0b : ((n : Int) == 0) = false := by simp; omega
    rcases c2 with c2 | ⟨c2, c3⟩
    · go_wp2
      go_meet
      exact ⟨by first | rfl | rw [c0b], rfl⟩
    · have c3b : (byt s 0 == 48) = false := by simp; exact c3
      go_wp2
      go_meet
      exact ⟨by first | rfl | (rw [c0b, c3b]; rfl), rfl⟩
  case rest =>
  obtain ⟨rfl, rfl⟩ := hcut
  clear c2 i0
  by_cases hp : n < s.size ∧ byt s n = 46
  case neg =>
    rw [if_neg hp] at EK
    obtain ⟨k, rfl⟩ : ∃ k, k = n := ⟨_, rfl⟩
    have hP : isP s k = false := decide_eq_false hp
    have dF : Hid (s.extract 0 k = DS) := by
      show _ = _
      rw [← hDS.out]; unfold tBe; rw [hP]; simp only [Bool.false_eq_true, if_false, List.append_nil]; exact ext_txt0 s k
    have bF : Hid ((0 : Int) = BB) := by show _ = _; rw [← hBB.out]; unfold nBe; rw [hP]; rfl
    have hPP : Hid (PP = (if dnE s k then - pwE s k else pwE s k)) := by show _ = _; rw [hPP1.out]; unfold pBe; rw [hP]; rfl
    clear hP hDS hBB hPP1
    have EX := EK
    clear EK
    have hk : k ≤ s.size := by omega
    have hx : ¬ (k : Int) < (s.size : Int) ∨ ((k : Int) < (s.size : Int) ∧ k < s.size ∧ ¬ byt s k = 46) := by omega
    clear hp
    go_upto_region 9 with fail
    go_cut [43] (fun x wx => x = .bool false ∧ wx = wc)
    case first =>
      rcases hx with hx | ⟨hx, hx2, hx3⟩
      · go_wp2
        go_meet
        exact ⟨rfl, rfl⟩
      · have ip := idxS (t := 9) Tryz.underlying9 s k hx2
        have hx3' : (byt s k == 46) = false := by simp; exact hx3
        generalize byt s k = bk at *
        go_wp2
        go_meet
        exact ⟨by first | rfl | rw [hx3'], rfl⟩
    case rest =>
    obtain ⟨rfl, rfl⟩ := hcut
    clear hx
    by_cases he : k < s.size ∧ byt s k = 101
    case neg =>
      have pF : Hid ((0 : Int) = PP) := by show _ = _; rw [hPP.out]; unfold dnE pwE; rw [show isE s k = false from decide_eq_false he]; rfl
      have ex := hd (EX.trans (exp_no he))
      clear EX DG
      by_cases hk2 : k < s.size
      · have ix := idxS (t := 9) Tryz.underlying9 s k hk2
        have hb : ¬ byt s k = 101 := fun e => he ⟨hk2, e⟩
        have hk3 : (k : Int) < (s.size : Int) := by omega
        clear he
        generalize byt s k = b at *
        have zz := hd (ex.out.trans (same_dec1 k s.size))
        go_wp2
        exact bodyPost_ret (resP7 rfl rfl rfl rfl) rfl ⟨⟨_, _, _, retP zz.out, fun hh => ⟨dF.out, bF.out, pF.out⟩⟩, rfl⟩
      · have hk3 : ¬ (k : Int) < (s.size : Int) := by omega
        clear he
        have zz := hd (ex.out.trans (same_dec1 k s.size))
        go_wp2
        exact bodyPost_ret (resP7 rfl rfl rfl rfl) rfl ⟨⟨_, _, _, retP zz.out, fun hh => ⟨dF.out, bF.out, pF.out⟩⟩, rfl⟩
    have ix0 := idxS (t := 9) Tryz.underlying9 s k he.1
    rw [he.2] at ix0
    have hk3 : (k : Int) < (s.size : Int) := by have := he.1; omega
    by_cases hm : k + 1 < s.size ∧ byt s (k + 1) = 45
    · have TL := EX.trans (exp_m he hm)
      have pF : Hid (-(nm s (k + 1 + 1) (dn s (k + 1 + 1))) = PP) := by show _ = _; rw [hPP.out]; unfold dnE pwE atE; rw [show isE s k = true from decide_eq_true he, show mnE s k = true from decide_eq_true hm]; rfl
      have ix1 := idxS (t := 9) Tryz.underlying9 s (k + 1) hm.1
      rw [hm.2] at ix1
      push_cast at ix1
      have hk4 : (k : Int) + 1 < (s.size : Int) := by have := hm.1; omega
      have ha : k + 1 + 1 ≤ s.size := by have := hm.1; omega
      have ea : (k : Int) + 1 + 1 = ((k + 1 + 1 : Nat) : Int) := by omega
      clear EX he hm hPP
      generalize k + 1 + 1 = a at *
      go_wp2_with fail
      refine (DG.out a ha _).mono ?_
      rintro e w9 ⟨rfl, rfl⟩
      try clear ix1
      have tb := hd (fun h => TL.trans (tl_bad (s := s) (a := a) (m := true) h))
      have tk := hd (fun h => TL.trans (tl_ok (s := s) (a := a) (m := true) h))
      have dg := hd (fun j hj => dn_dig s (dn s a) a j rfl hj)
      clear TL DG
      generalize dn s a = kk at *
      by_cases q0 : kk = 0
      · subst q0
        have zz := hd (tb.out (.inl rfl))
        go_wp2
        exact bodyPost_ret (resP7 rfl rfl rfl rfl) rfl ⟨⟨_, _, _, retP zz.out, fun hh => absurd (zz.out.symm.trans hh) (by simp)⟩, rfl⟩
      by_cases q3 : 3 < kk
      · have q3' : 3 < (kk : Int) := by omega
        have q0' : ((kk : Int) == 0) = false := by simp; omega
        have zz := hd (tb.out (.inr (.inl q3)))
        go_wp2
        exact bodyPost_ret (resP7 rfl rfl rfl rfl) rfl ⟨⟨_, _, _, retP zz.out, fun hh => absurd (zz.out.symm.trans hh) (by simp)⟩, rfl⟩
      have a0 : a < s.size := (dg.out 0 (by omega)).1
      have ix := idxS (t := 9) Tryz.underlying9 s a a0
      have q3' : ¬ 3 < (kk : Int) := by omega
      have q0' : ((kk : Int) == 0) = false := by simp; omega
      by_cases qb : (1 < kk ∨ true = true) ∧ byt s a = 48
      · have e48 := hd (tb.out (.inr (.inr qb)))
        obtain ⟨qc, qd⟩ := qb
        rw [qd] at ix
        clear tb tk dg qd
        by_cases q1 : 1 < kk
        · have q1' : 1 < (kk : Int) := by omega
          have zz := hd (e48.out)
          go_wp2
          exact bodyPost_ret (resP7 rfl rfl rfl rfl) rfl ⟨⟨_, _, _, retP zz.out, fun hh => absurd (zz.out.symm.trans hh) (by simp)⟩, rfl⟩
        · have q1' : ¬ 1 < (kk : Int) := by omega
          have zz := hd (e48.out)
          go_wp2
          exact bodyPost_ret (resP7 rfl rfl rfl rfl) rfl ⟨⟨_, _, _, retP zz.out, fun hh => absurd (zz.out.symm.trans hh) (by simp)⟩, rfl⟩
      have tk' := hd (tk.out (fun h => by rcases h with h | h | h; exact q0 h; exact q3 h; exact qb h))
      clear tb tk
      have dg' := hd (fun j (hj : j < kk) => (dg.out j hj))
      have DL := hd (fun j (h : j ≤ kk) => nm_bd (s := s) (a := a) j (fun i hi => dg.out i (by omega)))
      clear dg
      by_cases q1 : 1 < kk
      · have q1' : 1 < (kk : Int) := by omega
        have qn' : (byt s a == 48) = false := by simp; exact fun e => qb ⟨.inl q1, e⟩
        clear qb
        go_wp2
        go_loopw [10, 13] (fun p i wr => ∃ j : Nat, j ≤ kk ∧ i = .int .i64 ((a : Int) + (j : Int)) ∧ p = .int .i64 (nm s a j) ∧ wr = w9) (fun p i _ => a + kk - (intOf i).toNat)
        case atStart => exact ⟨0, by omega, by simp, rfl, rfl⟩
        case round =>
          obtain ⟨j, hj, rfl, rfl, rfl⟩ := hrel
          have nb := DL.out j hj
          have np : (10 : Int) ^ j ≤ 1000 := by
            have : j = 0 ∨ j = 1 ∨ j = 2 ∨ j = 3 := by omega
            rcases this with rfl | rfl | rfl | rfl <;> decide
          have nb1 := nb.1
          have nb2 : nm s a j ≤ 1000 := by omega
          clear nb np
          by_cases hlt : j < kk
          · have dj := dg'.out j hlt
            have iy := idxS (t := 9) Tryz.underlying9 s (a + j) dj.1
            push_cast at iy
            have d1 := dj.2.1
            have d2 := dj.2.2
            have en : nm s a (j + 1) = 10 * nm s a j + (byt s (a + j) - 48) := rfl
            have hlt' : (a : Int) + (j : Int) < (a : Int) + (kk : Int) := by omega
            have ajl : (a : Int) + (j : Int) < 100 := by omega
            clear dj dg' tk'
            have en' := hd en
            clear en
            generalize byt s (a + j) = bj at *
            generalize nm s a j = nj at *
            go_wp2
            go_roundw
            case rel => exact ⟨j + 1, by omega, by (first | go_num | (congr 1; omega)), by rw [en'.out]; (first | rfl | (congr 1; omega)), trivial⟩
            case measure => simp [intOf]; omega
          · obtain rfl : j = kk := by omega
            have hlt' : ¬ (a : Int) + (j : Int) < (a : Int) + (j : Int) := by omega
            have tq := tk'.out
            clear tk' DL dg'
            generalize nm s a j = P at *
            by_cases hp : 400 < P
            · rw [decide_eq_false (by omega : ¬ P ≤ 400)] at tq
              have tq' := hd tq
              clear tq
              have zz := hd (tq'.out)
              go_wp2
              exact bodyPost_ret (resP7 rfl rfl rfl rfl) rfl ⟨⟨_, _, _, retP zz.out, fun hh => absurd (zz.out.symm.trans hh) (by simp)⟩, rfl⟩
            · rw [decide_eq_true (by omega : P ≤ 400)] at tq
              have tq' := hd tq
              clear tq
              have hp' : ¬ 400 < P := hp
              have aj : (a : Int) + (j : Int) < 200 := by omega
              have zz := hd (tq'.out.trans ((Bool.true_and _).trans (same_dec a j s.size)))
              go_wp2
              exact bodyPost_ret (resP7 rfl rfl rfl rfl) rfl ⟨⟨_, _, _, retP zz.out, fun hh => ⟨dF.out, bF.out, pF.out⟩⟩, rfl⟩
      · have q1' : ¬ 1 < (kk : Int) := by omega
        have qn' : (byt s a == 48) = false := by simp; exact fun e => qb ⟨.inr rfl, e⟩
        clear qb
        go_wp2
        go_loopw [10, 13] (fun p i wr => ∃ j : Nat, j ≤ kk ∧ i = .int .i64 ((a : Int) + (j : Int)) ∧ p = .int .i64 (nm s a j) ∧ wr = w9) (fun p i _ => a + kk - (intOf i).toNat)
        case atStart => exact ⟨0, by omega, by simp, rfl, rfl⟩
        case round =>
          obtain ⟨j, hj, rfl, rfl, rfl⟩ := hrel
          have nb := DL.out j hj
          have np : (10 : Int) ^ j ≤ 1000 := by
            have : j = 0 ∨ j = 1 ∨ j = 2 ∨ j = 3 := by omega
            rcases this with rfl | rfl | rfl | rfl <;> decide
          have nb1 := nb.1
          have nb2 : nm s a j ≤ 1000 := by omega
          clear nb np
          by_cases hlt : j < kk
          · have dj := dg'.out j hlt
            have iy := idxS (t := 9) Tryz.underlying9 s (a + j) dj.1
            push_cast at iy
            have d1 := dj.2.1
            have d2 := dj.2.2
            have en : nm s a (j + 1) = 10 * nm s a j + (byt s (a + j) - 48) := rfl
            have hlt' : (a : Int) + (j : Int) < (a : Int) + (kk : Int) := by omega
            have ajl : (a : Int) + (j : Int) < 100 := by omega
            clear dj dg' tk'
            have en' := hd en
            clear en
            generalize byt s (a + j) = bj at *
            generalize nm s a j = nj at *
            go_wp2
            go_roundw
            case rel => exact ⟨j + 1, by omega, by (first | go_num | (congr 1; omega)), by rw [en'.out]; (first | rfl | (congr 1; omega)), trivial⟩
            case measure => simp [intOf]; omega
          · obtain rfl : j = kk := by omega
            have hlt' : ¬ (a : Int) + (j : Int) < (a : Int) + (j : Int) := by omega
            have tq := tk'.out
            clear tk' DL dg'
            generalize nm s a j = P at *
            by_cases hp : 400 < P
            · rw [decide_eq_false (by omega : ¬ P ≤ 400)] at tq
              have tq' := hd tq
              clear tq
              have zz := hd (tq'.out)
              go_wp2
              exact bodyPost_ret (resP7 rfl rfl rfl rfl) rfl ⟨⟨_, _, _, retP zz.out, fun hh => absurd (zz.out.symm.trans hh) (by simp)⟩, rfl⟩
            · rw [decide_eq_true (by omega : P ≤ 400)] at tq
              have tq' := hd tq
              clear tq
              have hp' : ¬ 400 < P := hp
              have aj : (a : Int) + (j : Int) < 200 := by omega
              have zz := hd (tq'.out.trans ((Bool.true_and _).trans (same_dec a j s.size)))
              go_wp2
              exact bodyPost_ret (resP7 rfl rfl rfl rfl) rfl ⟨⟨_, _, _, retP zz.out, fun hh => ⟨dF.out, bF.out, pF.out⟩⟩, rfl⟩
    · have TL := EX.trans (exp_p he hm)
      have pF : Hid (nm s (k + 1) (dn s (k + 1)) = PP) := by show _ = _; rw [hPP.out]; unfold dnE pwE atE; rw [show isE s k = true from decide_eq_true he, show mnE s k = false from decide_eq_false hm]; rfl
      have ha : k + 1 ≤ s.size := by have := he.1; omega
      have ea : (k : Int) + 1 = ((k + 1 : Nat) : Int) := by omega
      by_cases hm1 : k + 1 < s.size
      · have hm2 : ¬ byt s (k + 1) = 45 := fun e => hm ⟨hm1, e⟩
        have ix1 := idxS (t := 9) Tryz.underlying9 s (k + 1) hm1
        have hk4 : (k : Int) + 1 < (s.size : Int) := by omega
        clear EX he hm hPP
        generalize k + 1 = a at *
        go_wp2_with fail
        refine (DG.out a ha _).mono ?_
        rintro e w9 ⟨rfl, rfl⟩
        try clear ix1
        have tb := hd (fun h => TL.trans (tl_bad (s := s) (a := a) (m := false) h))
        have tk := hd (fun h => TL.trans (tl_ok (s := s) (a := a) (m := false) h))
        have dg := hd (fun j hj => dn_dig s (dn s a) a j rfl hj)
        clear TL DG
        generalize dn s a = kk at *
        by_cases q0 : kk = 0
        · subst q0
          have zz := hd (tb.out (.inl rfl))
          go_wp2
          exact bodyPost_ret (resP7 rfl rfl rfl rfl) rfl ⟨⟨_, _, _, retP zz.out, fun hh => absurd (zz.out.symm.trans hh) (by simp)⟩, rfl⟩
        by_cases q3 : 3 < kk
        · have q3' : 3 < (kk : Int) := by omega
          have q0' : ((kk : Int) == 0) = false := by simp; omega
          have zz := hd (tb.out (.inr (.inl q3)))
          go_wp2
          exact bodyPost_ret (resP7 rfl rfl rfl rfl) rfl ⟨⟨_, _, _, retP zz.out, fun hh => absurd (zz.out.symm.trans hh) (by simp)⟩, rfl⟩
        have a0 : a < s.size := (dg.out 0 (by omega)).1
        have ix := idxS (t := 9) Tryz.underlying9 s a a0
        have q3' : ¬ 3 < (kk : Int) := by omega
        have q0' : ((kk : Int) == 0) = false := by simp; omega
        by_cases qb : (1 < kk ∨ false = true) ∧ byt s a = 48
        · have e48 := hd (tb.out (.inr (.inr qb)))
          obtain ⟨qc, qd⟩ := qb
          rw [qd] at ix
          clear tb tk dg qd
          have q1' : 1 < (kk : Int) := by rcases qc with h | h; omega; cases h
          have zz := hd (e48.out)
          go_wp2
          exact bodyPost_ret (resP7 rfl rfl rfl rfl) rfl ⟨⟨_, _, _, retP zz.out, fun hh => absurd (zz.out.symm.trans hh) (by simp)⟩, rfl⟩
        have tk' := hd (tk.out (fun h => by rcases h with h | h | h; exact q0 h; exact q3 h; exact qb h))
        clear tb tk
        have dg' := hd (fun j (hj : j < kk) => (dg.out j hj))
        have DL := hd (fun j (h : j ≤ kk) => nm_bd (s := s) (a := a) j (fun i hi => dg.out i (by omega)))
        clear dg
        by_cases q1 : 1 < kk
        · have q1' : 1 < (kk : Int) := by omega
          have qn' : (byt s a == 48) = false := by simp; exact fun e => qb ⟨.inl q1, e⟩
          clear qb
          go_wp2
          go_loopw [10, 13] (fun p i wr => ∃ j : Nat, j ≤ kk ∧ i = .int .i64 ((a : Int) + (j : Int)) ∧ p = .int .i64 (nm s a j) ∧ wr = w9) (fun p i _ => a + kk - (intOf i).toNat)
          case atStart => exact ⟨0, by omega, by simp, rfl, rfl⟩
          case round =>
            obtain ⟨j, hj, rfl, rfl, rfl⟩ := hrel
            have nb := DL.out j hj
            have np : (10 : Int) ^ j ≤ 1000 := by
              have : j = 0 ∨ j = 1 ∨ j = 2 ∨ j = 3 := by omega
              rcases this with rfl | rfl | rfl | rfl <;> decide
            have nb1 := nb.1
            have nb2 : nm s a j ≤ 1000 := by omega
            clear nb np
            by_cases hlt : j < kk
            · have dj := dg'.out j hlt
              have iy := idxS (t := 9) Tryz.underlying9 s (a + j) dj.1
              push_cast at iy
              have d1 := dj.2.1
              have d2 := dj.2.2
              have en : nm s a (j + 1) = 10 * nm s a j + (byt s (a + j) - 48) := rfl
              have hlt' : (a : Int) + (j : Int) < (a : Int) + (kk : Int) := by omega
              have ajl : (a : Int) + (j : Int) < 100 := by omega
              clear dj dg' tk'
              have en' := hd en
              clear en
              generalize byt s (a + j) = bj at *
              generalize nm s a j = nj at *
              go_wp2
              go_roundw
              case rel => exact ⟨j + 1, by omega, by (first | go_num | (congr 1; omega)), by rw [en'.out]; (first | rfl | (congr 1; omega)), trivial⟩
              case measure => simp [intOf]; omega
            · obtain rfl : j = kk := by omega
              have hlt' : ¬ (a : Int) + (j : Int) < (a : Int) + (j : Int) := by omega
              have tq := tk'.out
              clear tk' DL dg'
              generalize nm s a j = P at *
              by_cases hp : 400 < P
              · rw [decide_eq_false (by omega : ¬ P ≤ 400)] at tq
                have tq' := hd tq
                clear tq
                have zz := hd (tq'.out)
                go_wp2
                exact bodyPost_ret (resP7 rfl rfl rfl rfl) rfl ⟨⟨_, _, _, retP zz.out, fun hh => absurd (zz.out.symm.trans hh) (by simp)⟩, rfl⟩
              · rw [decide_eq_true (by omega : P ≤ 400)] at tq
                have tq' := hd tq
                clear tq
                have hp' : ¬ 400 < P := hp
                have aj : (a : Int) + (j : Int) < 200 := by omega
                have zz := hd (tq'.out.trans ((Bool.true_and _).trans (same_dec a j s.size)))
                go_wp2
                exact bodyPost_ret (resP7 rfl rfl rfl rfl) rfl ⟨⟨_, _, _, retP zz.out, fun hh => ⟨dF.out, bF.out, pF.out⟩⟩, rfl⟩
        · have q1' : ¬ 1 < (kk : Int) := by omega
          clear qb
          go_wp2
          go_loopw [10, 13] (fun p i wr => ∃ j : Nat, j ≤ kk ∧ i = .int .i64 ((a : Int) + (j : Int)) ∧ p = .int .i64 (nm s a j) ∧ wr = w9) (fun p i _ => a + kk - (intOf i).toNat)
          case atStart => exact ⟨0, by omega, by simp, rfl, rfl⟩
          case round =>
            obtain ⟨j, hj, rfl, rfl, rfl⟩ := hrel
            have nb := DL.out j hj
            have np : (10 : Int) ^ j ≤ 1000 := by
              have : j = 0 ∨ j = 1 ∨ j = 2 ∨ j = 3 := by omega
              rcases this with rfl | rfl | rfl | rfl <;> decide
            have nb1 := nb.1
            have nb2 : nm s a j ≤ 1000 := by omega
            clear nb np
            by_cases hlt : j < kk
            · have dj := dg'.out j hlt
              have iy := idxS (t := 9) Tryz.underlying9 s (a + j) dj.1
              push_cast at iy
              have d1 := dj.2.1
              have d2 := dj.2.2
              have en : nm s a (j + 1) = 10 * nm s a j + (byt s (a + j) - 48) := rfl
              have hlt' : (a : Int) + (j : Int) < (a : Int) + (kk : Int) := by omega
              have ajl : (a : Int) + (j : Int) < 100 := by omega
              clear dj dg' tk'
              have en' := hd en
              clear en
              generalize byt s (a + j) = bj at *
              generalize nm s a j = nj at *
              go_wp2
              go_roundw
              case rel => exact ⟨j + 1, by omega, by (first | go_num | (congr 1; omega)), by rw [en'.out]; (first | rfl | (congr 1; omega)), trivial⟩
              case measure => simp [intOf]; omega
            · obtain rfl : j = kk := by omega
              have hlt' : ¬ (a : Int) + (j : Int) < (a : Int) + (j : Int) := by omega
              have tq := tk'.out
              clear tk' DL dg'
              generalize nm s a j = P at *
              by_cases hp : 400 < P
              · rw [decide_eq_false (by omega : ¬ P ≤ 400)] at tq
                have tq' := hd tq
                clear tq
                have zz := hd (tq'.out)
                go_wp2
                exact bodyPost_ret (resP7 rfl rfl rfl rfl) rfl ⟨⟨_, _, _, retP zz.out, fun hh => absurd (zz.out.symm.trans hh) (by simp)⟩, rfl⟩
              · rw [decide_eq_true (by omega : P ≤ 400)] at tq
                have tq' := hd tq
                clear tq
                have hp' : ¬ 400 < P := hp
                have aj : (a : Int) + (j : Int) < 200 := by omega
                have zz := hd (tq'.out.trans ((Bool.true_and _).trans (same_dec a j s.size)))
                go_wp2
                exact bodyPost_ret (resP7 rfl rfl rfl rfl) rfl ⟨⟨_, _, _, retP zz.out, fun hh => ⟨dF.out, bF.out, pF.out⟩⟩, rfl⟩
      · have hk4 : ¬ (k : Int) + 1 < (s.size : Int) := by omega
        clear EX he hm hPP
        generalize k + 1 = a at *
        go_wp2_with fail
        refine (DG.out a ha _).mono ?_
        rintro e w9 ⟨rfl, rfl⟩
        try clear ix1
        have tb := hd (fun h => TL.trans (tl_bad (s := s) (a := a) (m := false) h))
        have tk := hd (fun h => TL.trans (tl_ok (s := s) (a := a) (m := false) h))
        have dg := hd (fun j hj => dn_dig s (dn s a) a j rfl hj)
        clear TL DG
        generalize dn s a = kk at *
        by_cases q0 : kk = 0
        · subst q0
          have zz := hd (tb.out (.inl rfl))
          go_wp2
          exact bodyPost_ret (resP7 rfl rfl rfl rfl) rfl ⟨⟨_, _, _, retP zz.out, fun hh => absurd (zz.out.symm.trans hh) (by simp)⟩, rfl⟩
        exact absurd (dg.out 0 (by omega)).1 (by omega)
  rw [if_pos hp] at EK
  have ip := idxS (t := 9) Tryz.underlying9 s n hp.1
  rw [hp.2] at ip
  have hn' : (n : Int) < (s.size : Int) := by have := hp.1; omega
  have D1 := hd (DG.out (n + 1) (by have := hp.1; omega))
  push_cast at D1
  have nl1 := dn_le s (n + 1) (by have := hp.1; omega)
  have nx : ∀ (x y : Nat), ¬ 9223372036854775807 < (s.extract 0 x).size + (s.extract (n + 1) y).size := by
    intro x y
    rw [ByteArray.size_extract, ByteArray.size_extract]
    unfold maxLen at hs
    omega
  have hP : isP s n = true := decide_eq_true hp
  have dF : Hid (s.extract 0 n ++ s.extract (n + 1) (n + 1 + dn s (n + 1)) = DS) := by
    show _ = _
    rw [← hDS.out]; unfold tBe; rw [hP, ext_txt0, ext_txt, ba_app]; rfl
  have bF : Hid ((dn s (n + 1) : Int) = BB) := by show _ = _; rw [← hBB.out]; unfold nBe; rw [hP]; rfl
  have hPP : Hid (PP = (if dnE s (n + 1 + dn s (n + 1)) then - pwE s (n + 1 + dn s (n + 1)) else pwE s (n + 1 + dn s (n + 1)))) := by show _ = _; rw [hPP1.out]; unfold pBe; rw [hP]; rfl
  clear hP hDS hBB hPP1
  generalize dn s (n + 1) = k1 at *
  clear hp
  go_wp2_with fail
  refine (D1.out _).mono ?_
  rintro e w2 ⟨rfl, rfl⟩
  by_cases c4 : k1 = 0
  · rw [if_pos c4] at EK
    subst c4
    go_wp2
    exact bodyPost_ret (resP7 rfl rfl rfl rfl) rfl ⟨⟨_, _, _, retP EK, fun hh => absurd (EK.symm.trans hh) (by simp)⟩, rfl⟩
  · rw [if_neg c4] at EK
    have c4' : ¬ (k1 : Int) = 0 := by omega
    go_upto_region 15 with fail
    generalize hA : (n : Int) + 1 + (k1 : Int) = AT at *
    obtain rfl : AT = ((n + 1 + k1 : Nat) : Int) := by omega
    have hk : n + 1 + k1 ≤ s.size := by omega
    have EX := EK
    clear hA EK c4 c4' nl1 D1 nx ip hn'
    generalize n + 1 + k1 = k at *
    by_cases he : k < s.size ∧ byt s k = 101
    case neg =>
      have pF : Hid ((0 : Int) = PP) := by show _ = _; rw [hPP.out]; unfold dnE pwE; rw [show isE s k = false from decide_eq_false he]; rfl
      have ex := hd (EX.trans (exp_no he))
      clear EX DG
      by_cases hk2 : k < s.size
      · have ix := idxS (t := 9) Tryz.underlying9 s k hk2
        have hb : ¬ byt s k = 101 := fun e => he ⟨hk2, e⟩
        have hk3 : (k : Int) < (s.size : Int) := by omega
        clear he
        generalize byt s k = b at *
        have zz := hd (ex.out.trans (same_dec1 k s.size))
        go_wp2
        exact bodyPost_ret (resP7 rfl rfl rfl rfl) rfl ⟨⟨_, _, _, retP zz.out, fun hh => ⟨dF.out, bF.out, pF.out⟩⟩, rfl⟩
      · have hk3 : ¬ (k : Int) < (s.size : Int) := by omega
        clear he
        have zz := hd (ex.out.trans (same_dec1 k s.size))
        go_wp2
        exact bodyPost_ret (resP7 rfl rfl rfl rfl) rfl ⟨⟨_, _, _, retP zz.out, fun hh => ⟨dF.out, bF.out, pF.out⟩⟩, rfl⟩
    have ix0 := idxS (t := 9) Tryz.underlying9 s k he.1
    rw [he.2] at ix0
    have hk3 : (k : Int) < (s.size : Int) := by have := he.1; omega
    by_cases hm : k + 1 < s.size ∧ byt s (k + 1) = 45
    · have TL := EX.trans (exp_m he hm)
      have pF : Hid (-(nm s (k + 1 + 1) (dn s (k + 1 + 1))) = PP) := by show _ = _; rw [hPP.out]; unfold dnE pwE atE; rw [show isE s k = true from decide_eq_true he, show mnE s k = true from decide_eq_true hm]; rfl
      have ix1 := idxS (t := 9) Tryz.underlying9 s (k + 1) hm.1
      rw [hm.2] at ix1
      push_cast at ix1
      have hk4 : (k : Int) + 1 < (s.size : Int) := by have := hm.1; omega
      have ha : k + 1 + 1 ≤ s.size := by have := hm.1; omega
      have ea : (k : Int) + 1 + 1 = ((k + 1 + 1 : Nat) : Int) := by omega
      clear EX he hm hPP
      generalize k + 1 + 1 = a at *
      go_wp2_with fail
      refine (DG.out a ha _).mono ?_
      rintro e w9 ⟨rfl, rfl⟩
      try clear ix1
      have tb := hd (fun h => TL.trans (tl_bad (s := s) (a := a) (m := true) h))
      have tk := hd (fun h => TL.trans (tl_ok (s := s) (a := a) (m := true) h))
      have dg := hd (fun j hj => dn_dig s (dn s a) a j rfl hj)
      clear TL DG
      generalize dn s a = kk at *
      by_cases q0 : kk = 0
      · subst q0
        have zz := hd (tb.out (.inl rfl))
        go_wp2
        exact bodyPost_ret (resP7 rfl rfl rfl rfl) rfl ⟨⟨_, _, _, retP zz.out, fun hh => absurd (zz.out.symm.trans hh) (by simp)⟩, rfl⟩
      by_cases q3 : 3 < kk
      · have q3' : 3 < (kk : Int) := by omega
        have q0' : ((kk : Int) == 0) = false := by simp; omega
        have zz := hd (tb.out (.inr (.inl q3)))
        go_wp2
        exact bodyPost_ret (resP7 rfl rfl rfl rfl) rfl ⟨⟨_, _, _, retP zz.out, fun hh => absurd (zz.out.symm.trans hh) (by simp)⟩, rfl⟩
      have a0 : a < s.size := (dg.out 0 (by omega)).1
      have ix := idxS (t := 9) Tryz.underlying9 s a a0
      have q3' : ¬ 3 < (kk : Int) := by omega
      have q0' : ((kk : Int) == 0) = false := by simp; omega
      by_cases qb : (1 < kk ∨ true = true) ∧ byt s a = 48
      · have e48 := hd (tb.out (.inr (.inr qb)))
        obtain ⟨qc, qd⟩ := qb
        rw [qd] at ix
        clear tb tk dg qd
        by_cases q1 : 1 < kk
        · have q1' : 1 < (kk : Int) := by omega
          have zz := hd (e48.out)
          go_wp2
          exact bodyPost_ret (resP7 rfl rfl rfl rfl) rfl ⟨⟨_, _, _, retP zz.out, fun hh => absurd (zz.out.symm.trans hh) (by simp)⟩, rfl⟩
        · have q1' : ¬ 1 < (kk : Int) := by omega
          have zz := hd (e48.out)
          go_wp2
          exact bodyPost_ret (resP7 rfl rfl rfl rfl) rfl ⟨⟨_, _, _, retP zz.out, fun hh => absurd (zz.out.symm.trans hh) (by simp)⟩, rfl⟩
      have tk' := hd (tk.out (fun h => by rcases h with h | h | h; exact q0 h; exact q3 h; exact qb h))
      clear tb tk
      have dg' := hd (fun j (hj : j < kk) => (dg.out j hj))
      have DL := hd (fun j (h : j ≤ kk) => nm_bd (s := s) (a := a) j (fun i hi => dg.out i (by omega)))
      clear dg
      by_cases q1 : 1 < kk
      · have q1' : 1 < (kk : Int) := by omega
        have qn' : (byt s a == 48) = false := by simp; exact fun e => qb ⟨.inl q1, e⟩
        clear qb
        go_wp2
        go_loopw [10, 13] (fun p i wr => ∃ j : Nat, j ≤ kk ∧ i = .int .i64 ((a : Int) + (j : Int)) ∧ p = .int .i64 (nm s a j) ∧ wr = w9) (fun p i _ => a + kk - (intOf i).toNat)
        case atStart => exact ⟨0, by omega, by simp, rfl, rfl⟩
        case round =>
          obtain ⟨j, hj, rfl, rfl, rfl⟩ := hrel
          have nb := DL.out j hj
          have np : (10 : Int) ^ j ≤ 1000 := by
            have : j = 0 ∨ j = 1 ∨ j = 2 ∨ j = 3 := by omega
            rcases this with rfl | rfl | rfl | rfl <;> decide
          have nb1 := nb.1
          have nb2 : nm s a j ≤ 1000 := by omega
          clear nb np
          by_cases hlt : j < kk
          · have dj := dg'.out j hlt
            have iy := idxS (t := 9) Tryz.underlying9 s (a + j) dj.1
            push_cast at iy
            have d1 := dj.2.1
            have d2 := dj.2.2
            have en : nm s a (j + 1) = 10 * nm s a j + (byt s (a + j) - 48) := rfl
            have hlt' : (a : Int) + (j : Int) < (a : Int) + (kk : Int) := by omega
            have ajl : (a : Int) + (j : Int) < 100 := by omega
            clear dj dg' tk'
            have en' := hd en
            clear en
            generalize byt s (a + j) = bj at *
            generalize nm s a j = nj at *
            go_wp2
            go_roundw
            case rel => exact ⟨j + 1, by omega, by (first | go_num | (congr 1; omega)), by rw [en'.out]; (first | rfl | (congr 1; omega)), trivial⟩
            case measure => simp [intOf]; omega
          · obtain rfl : j = kk := by omega
            have hlt' : ¬ (a : Int) + (j : Int) < (a : Int) + (j : Int) := by omega
            have tq := tk'.out
            clear tk' DL dg'
            generalize nm s a j = P at *
            by_cases hp : 400 < P
            · rw [decide_eq_false (by omega : ¬ P ≤ 400)] at tq
              have tq' := hd tq
              clear tq
              have zz := hd (tq'.out)
              go_wp2
              exact bodyPost_ret (resP7 rfl rfl rfl rfl) rfl ⟨⟨_, _, _, retP zz.out, fun hh => absurd (zz.out.symm.trans hh) (by simp)⟩, rfl⟩
            · rw [decide_eq_true (by omega : P ≤ 400)] at tq
              have tq' := hd tq
              clear tq
              have hp' : ¬ 400 < P := hp
              have aj : (a : Int) + (j : Int) < 200 := by omega
              have zz := hd (tq'.out.trans ((Bool.true_and _).trans (same_dec a j s.size)))
              go_wp2
              exact bodyPost_ret (resP7 rfl rfl rfl rfl) rfl ⟨⟨_, _, _, retP zz.out, fun hh => ⟨dF.out, bF.out, pF.out⟩⟩, rfl⟩
      · have q1' : ¬ 1 < (kk : Int) := by omega
        have qn' : (byt s a == 48) = false := by simp; exact fun e => qb ⟨.inr rfl, e⟩
        clear qb
        go_wp2
        go_loopw [10, 13] (fun p i wr => ∃ j : Nat, j ≤ kk ∧ i = .int .i64 ((a : Int) + (j : Int)) ∧ p = .int .i64 (nm s a j) ∧ wr = w9) (fun p i _ => a + kk - (intOf i).toNat)
        case atStart => exact ⟨0, by omega, by simp, rfl, rfl⟩
        case round =>
          obtain ⟨j, hj, rfl, rfl, rfl⟩ := hrel
          have nb := DL.out j hj
          have np : (10 : Int) ^ j ≤ 1000 := by
            have : j = 0 ∨ j = 1 ∨ j = 2 ∨ j = 3 := by omega
            rcases this with rfl | rfl | rfl | rfl <;> decide
          have nb1 := nb.1
          have nb2 : nm s a j ≤ 1000 := by omega
          clear nb np
          by_cases hlt : j < kk
          · have dj := dg'.out j hlt
            have iy := idxS (t := 9) Tryz.underlying9 s (a + j) dj.1
            push_cast at iy
            have d1 := dj.2.1
            have d2 := dj.2.2
            have en : nm s a (j + 1) = 10 * nm s a j + (byt s (a + j) - 48) := rfl
            have hlt' : (a : Int) + (j : Int) < (a : Int) + (kk : Int) := by omega
            have ajl : (a : Int) + (j : Int) < 100 := by omega
            clear dj dg' tk'
            have en' := hd en
            clear en
            generalize byt s (a + j) = bj at *
            generalize nm s a j = nj at *
            go_wp2
            go_roundw
            case rel => exact ⟨j + 1, by omega, by (first | go_num | (congr 1; omega)), by rw [en'.out]; (first | rfl | (congr 1; omega)), trivial⟩
            case measure => simp [intOf]; omega
          · obtain rfl : j = kk := by omega
            have hlt' : ¬ (a : Int) + (j : Int) < (a : Int) + (j : Int) := by omega
            have tq := tk'.out
            clear tk' DL dg'
            generalize nm s a j = P at *
            by_cases hp : 400 < P
            · rw [decide_eq_false (by omega : ¬ P ≤ 400)] at tq
              have tq' := hd tq
              clear tq
              have zz := hd (tq'.out)
              go_wp2
              exact bodyPost_ret (resP7 rfl rfl rfl rfl) rfl ⟨⟨_, _, _, retP zz.out, fun hh => absurd (zz.out.symm.trans hh) (by simp)⟩, rfl⟩
            · rw [decide_eq_true (by omega : P ≤ 400)] at tq
              have tq' := hd tq
              clear tq
              have hp' : ¬ 400 < P := hp
              have aj : (a : Int) + (j : Int) < 200 := by omega
              have zz := hd (tq'.out.trans ((Bool.true_and _).trans (same_dec a j s.size)))
              go_wp2
              exact bodyPost_ret (resP7 rfl rfl rfl rfl) rfl ⟨⟨_, _, _, retP zz.out, fun hh => ⟨dF.out, bF.out, pF.out⟩⟩, rfl⟩
    · have TL := EX.trans (exp_p he hm)
      have pF : Hid (nm s (k + 1) (dn s (k + 1)) = PP) := by show _ = _; rw [hPP.out]; unfold dnE pwE atE; rw [show isE s k = true from decide_eq_true he, show mnE s k = false from decide_eq_false hm]; rfl
      have ha : k + 1 ≤ s.size := by have := he.1; omega
      have ea : (k : Int) + 1 = ((k + 1 : Nat) : Int) := by omega
      by_cases hm1 : k + 1 < s.size
      · have hm2 : ¬ byt s (k + 1) = 45 := fun e => hm ⟨hm1, e⟩
        have ix1 := idxS (t := 9) Tryz.underlying9 s (k + 1) hm1
        have hk4 : (k : Int) + 1 < (s.size : Int) := by omega
        clear EX he hm hPP
        generalize k + 1 = a at *
        go_wp2_with fail
        refine (DG.out a ha _).mono ?_
        rintro e w9 ⟨rfl, rfl⟩
        try clear ix1
        have tb := hd (fun h => TL.trans (tl_bad (s := s) (a := a) (m := false) h))
        have tk := hd (fun h => TL.trans (tl_ok (s := s) (a := a) (m := false) h))
        have dg := hd (fun j hj => dn_dig s (dn s a) a j rfl hj)
        clear TL DG
        generalize dn s a = kk at *
        by_cases q0 : kk = 0
        · subst q0
          have zz := hd (tb.out (.inl rfl))
          go_wp2
          exact bodyPost_ret (resP7 rfl rfl rfl rfl) rfl ⟨⟨_, _, _, retP zz.out, fun hh => absurd (zz.out.symm.trans hh) (by simp)⟩, rfl⟩
        by_cases q3 : 3 < kk
        · have q3' : 3 < (kk : Int) := by omega
          have q0' : ((kk : Int) == 0) = false := by simp; omega
          have zz := hd (tb.out (.inr (.inl q3)))
          go_wp2
          exact bodyPost_ret (resP7 rfl rfl rfl rfl) rfl ⟨⟨_, _, _, retP zz.out, fun hh => absurd (zz.out.symm.trans hh) (by simp)⟩, rfl⟩
        have a0 : a < s.size := (dg.out 0 (by omega)).1
        have ix := idxS (t := 9) Tryz.underlying9 s a a0
        have q3' : ¬ 3 < (kk : Int) := by omega
        have q0' : ((kk : Int) == 0) = false := by simp; omega
        by_cases qb : (1 < kk ∨ false = true) ∧ byt s a = 48
        · have e48 := hd (tb.out (.inr (.inr qb)))
          obtain ⟨qc, qd⟩ := qb
          rw [qd] at ix
          clear tb tk dg qd
          have q1' : 1 < (kk : Int) := by rcases qc with h | h; omega; cases h
          have zz := hd (e48.out)
          go_wp2
          exact bodyPost_ret (resP7 rfl rfl rfl rfl) rfl ⟨⟨_, _, _, retP zz.out, fun hh => absurd (zz.out.symm.trans hh) (by simp)⟩, rfl⟩
        have tk' := hd (tk.out (fun h => by rcases h with h | h | h; exact q0 h; exact q3 h; exact qb h))
        clear tb tk
        have dg' := hd (fun j (hj : j < kk) => (dg.out j hj))
        have DL := hd (fun j (h : j ≤ kk) => nm_bd (s := s) (a := a) j (fun i hi => dg.out i (by omega)))
        clear dg
        by_cases q1 : 1 < kk
        · have q1' : 1 < (kk : Int) := by omega
          have qn' : (byt s a == 48) = false := by simp; exact fun e => qb ⟨.inl q1, e⟩
          clear qb
          go_wp2
          go_loopw [10, 13] (fun p i wr => ∃ j : Nat, j ≤ kk ∧ i = .int .i64 ((a : Int) + (j : Int)) ∧ p = .int .i64 (nm s a j) ∧ wr = w9) (fun p i _ => a + kk - (intOf i).toNat)
          case atStart => exact ⟨0, by omega, by simp, rfl, rfl⟩
          case round =>
            obtain ⟨j, hj, rfl, rfl, rfl⟩ := hrel
            have nb := DL.out j hj
            have np : (10 : Int) ^ j ≤ 1000 := by
              have : j = 0 ∨ j = 1 ∨ j = 2 ∨ j = 3 := by omega
              rcases this with rfl | rfl | rfl | rfl <;> decide
            have nb1 := nb.1
            have nb2 : nm s a j ≤ 1000 := by omega
            clear nb np
            by_cases hlt : j < kk
            · have dj := dg'.out j hlt
              have iy := idxS (t := 9) Tryz.underlying9 s (a + j) dj.1
              push_cast at iy
              have d1 := dj.2.1
              have d2 := dj.2.2
              have en : nm s a (j + 1) = 10 * nm s a j + (byt s (a + j) - 48) := rfl
              have hlt' : (a : Int) + (j : Int) < (a : Int) + (kk : Int) := by omega
              have ajl : (a : Int) + (j : Int) < 100 := by omega
              clear dj dg' tk'
              have en' := hd en
              clear en
              generalize byt s (a + j) = bj at *
              generalize nm s a j = nj at *
              go_wp2
              go_roundw
              case rel => exact ⟨j + 1, by omega, by (first | go_num | (congr 1; omega)), by rw [en'.out]; (first | rfl | (congr 1; omega)), trivial⟩
              case measure => simp [intOf]; omega
            · obtain rfl : j = kk := by omega
              have hlt' : ¬ (a : Int) + (j : Int) < (a : Int) + (j : Int) := by omega
              have tq := tk'.out
              clear tk' DL dg'
              generalize nm s a j = P at *
              by_cases hp : 400 < P
              · rw [decide_eq_false (by omega : ¬ P ≤ 400)] at tq
                have tq' := hd tq
                clear tq
                have zz := hd (tq'.out)
                go_wp2
                exact bodyPost_ret (resP7 rfl rfl rfl rfl) rfl ⟨⟨_, _, _, retP zz.out, fun hh => absurd (zz.out.symm.trans hh) (by simp)⟩, rfl⟩
              · rw [decide_eq_true (by omega : P ≤ 400)] at tq
                have tq' := hd tq
                clear tq
                have hp' : ¬ 400 < P := hp
                have aj : (a : Int) + (j : Int) < 200 := by omega
                have zz := hd (tq'.out.trans ((Bool.true_and _).trans (same_dec a j s.size)))
                go_wp2
                exact bodyPost_ret (resP7 rfl rfl rfl rfl) rfl ⟨⟨_, _, _, retP zz.out, fun hh => ⟨dF.out, bF.out, pF.out⟩⟩, rfl⟩
        · have q1' : ¬ 1 < (kk : Int) := by omega
          clear qb
          go_wp2
          go_loopw [10, 13] (fun p i wr => ∃ j : Nat, j ≤ kk ∧ i = .int .i64 ((a : Int) + (j : Int)) ∧ p = .int .i64 (nm s a j) ∧ wr = w9) (fun p i _ => a + kk - (intOf i).toNat)
          case atStart => exact ⟨0, by omega, by simp, rfl, rfl⟩
          case round =>
            obtain ⟨j, hj, rfl, rfl, rfl⟩ := hrel
            have nb := DL.out j hj
            have np : (10 : Int) ^ j ≤ 1000 := by
              have : j = 0 ∨ j = 1 ∨ j = 2 ∨ j = 3 := by omega
              rcases this with rfl | rfl | rfl | rfl <;> decide
            have nb1 := nb.1
            have nb2 : nm s a j ≤ 1000 := by omega
            clear nb np
            by_cases hlt : j < kk
            · have dj := dg'.out j hlt
              have iy := idxS (t := 9) Tryz.underlying9 s (a + j) dj.1
              push_cast at iy
              have d1 := dj.2.1
              have d2 := dj.2.2
              have en : nm s a (j + 1) = 10 * nm s a j + (byt s (a + j) - 48) := rfl
              have hlt' : (a : Int) + (j : Int) < (a : Int) + (kk : Int) := by omega
              have ajl : (a : Int) + (j : Int) < 100 := by omega
              clear dj dg' tk'
              have en' := hd en
              clear en
              generalize byt s (a + j) = bj at *
              generalize nm s a j = nj at *
              go_wp2
              go_roundw
              case rel => exact ⟨j + 1, by omega, by (first | go_num | (congr 1; omega)), by rw [en'.out]; (first | rfl | (congr 1; omega)), trivial⟩
              case measure => simp [intOf]; omega
            · obtain rfl : j = kk := by omega
              have hlt' : ¬ (a : Int) + (j : Int) < (a : Int) + (j : Int) := by omega
              have tq := tk'.out
              clear tk' DL dg'
              generalize nm s a j = P at *
              by_cases hp : 400 < P
              · rw [decide_eq_false (by omega : ¬ P ≤ 400)] at tq
                have tq' := hd tq
                clear tq
                have zz := hd (tq'.out)
                go_wp2
                exact bodyPost_ret (resP7 rfl rfl rfl rfl) rfl ⟨⟨_, _, _, retP zz.out, fun hh => absurd (zz.out.symm.trans hh) (by simp)⟩, rfl⟩
              · rw [decide_eq_true (by omega : P ≤ 400)] at tq
                have tq' := hd tq
                clear tq
                have hp' : ¬ 400 < P := hp
                have aj : (a : Int) + (j : Int) < 200 := by omega
                have zz := hd (tq'.out.trans ((Bool.true_and _).trans (same_dec a j s.size)))
                go_wp2
                exact bodyPost_ret (resP7 rfl rfl rfl rfl) rfl ⟨⟨_, _, _, retP zz.out, fun hh => ⟨dF.out, bF.out, pF.out⟩⟩, rfl⟩
      · have hk4 : ¬ (k : Int) + 1 < (s.size : Int) := by omega
        clear EX he hm hPP
        generalize k + 1 = a at *
        go_wp2_with fail
        refine (DG.out a ha _).mono ?_
        rintro e w9 ⟨rfl, rfl⟩
        try clear ix1
        have tb := hd (fun h => TL.trans (tl_bad (s := s) (a := a) (m := false) h))
        have tk := hd (fun h => TL.trans (tl_ok (s := s) (a := a) (m := false) h))
        have dg := hd (fun j hj => dn_dig s (dn s a) a j rfl hj)
        clear TL DG
        generalize dn s a = kk at *
        by_cases q0 : kk = 0
        · subst q0
          have zz := hd (tb.out (.inl rfl))
          go_wp2
          exact bodyPost_ret (resP7 rfl rfl rfl rfl) rfl ⟨⟨_, _, _, retP zz.out, fun hh => absurd (zz.out.symm.trans hh) (by simp)⟩, rfl⟩
        exact absurd (dg.out 0 (by omega)).1 (by omega)
end Go.Proofs.YtbecopdoibonkaaGreatDoor
