/- FracRead of the specification and of the program. Conditions, for the program: the library's tables and its handle of errors are there. Nothing that was there is written. -/
import Derived.Test.YtlfaiekcmflgnaaGreatDoorKK
namespace Go.Proofs.YtlfaiekcmflgnaaGreatDoor
open Go.RowKit Go.Lib
set_option linter.unusedVariables false
set_option maxRecDepth 100000

theorem resSR {W : World} {b : Nat} {v0 v1 v2 r : Value} {tmps : Array Value} (h : Cel3 W b v0 v1 v2) (ht : tmps[2]? = some (.pointer (some ⟨b, 0, none⟩))) (h3 : tmps[3]? = some r) : (results Tryz.f5 tmps).run Tryz.prog W = .ok (.tuple #[.agg #[v0, v1, v2], r]) W := by
  obtain ⟨h1, ⟨a0, a1, a2⟩, -⟩ := h
  simp [results, Tryz.results5, go_sem, a0, a1, a2, ht, h3]
theorem resIR {W : World} {b : Nat} {v0 v1 v2 r : Value} {tmps : Array Value} (h : Cel3 W b v0 v1 v2) (ht : tmps[2]? = some (.pointer (some ⟨b, 0, none⟩))) (h3 : tmps[3]? = some r) : (results Tryz.f6 tmps).run Tryz.prog W = .ok (.tuple #[.agg #[v0, v1, v2], r]) W := by
  obtain ⟨h1, ⟨a0, a1, a2⟩, -⟩ := h
  simp [results, Tryz.results6, go_sem, a0, a1, a2, ht, h3]
theorem sp_len (t : List UInt8) (h : t.length ≤ 1048576) : (bt t).size ≤ maxLen := by rw [bt_size]; unfold maxLen; omega
set_option maxRecDepth 100000 in
set_option maxHeartbeats 8000000 in
theorem iFracRead (l : List UInt8) (hl : l.length ≤ 1048576) (w : World) (hT : Tab w) (hE : ET w) (hP : P10 w) :
    Calls Tryz.prog 6 #[.string (bt l)] w fun e w' => FRes w' w.heap.size e (okFR l) (bmin l) (topFR l) (botFR l) ∧ Below w.heap.size w w' := by
  have TT := hd (fun (w' : World) (h : Below w.heap.size w w') => (⟨hT.old h, hE.old h, hP.old h⟩ : Tab w' ∧ ET w' ∧ P10 w'))
  clear hT hE hP
  have K2 := Cel3.new w (.bool false) (.slice none 0 0) (.slice none 0 0) 24
  have hB : Below w.heap.size w (w.alloc (.cells #[.bool false, .slice none 0 0, .slice none 0 0] 24)) := (by repeat (first | exact Below.refl _ _ | refine Below.drew ?_ | refine old_alloc ?_ _ | refine old_trans ?_ (by assumption)))
  have hrl := rst_len l
  have CU := hd (fun w' => iCutS (rst l) (by omega) w')
  have CP := hd (fun w' => iCutPre l w')
  have hla := hd (l_all l)
  have FA := hd (fun (st : Bool) (t u : List UInt8) (hp : partsR (rst l) = (st, t, u)) (W : World) (e : Ending) (h : ResR W w.heap.size e (bmin l) st t u) (h2 : Below w.heap.size w W) => (⟨h.all hp, h2⟩ : FRes W w.heap.size e (okFR l) (bmin l) (topFR l) (botFR l) ∧ Below w.heap.size w W))
  generalize hb0 : bmin l = b0 at *
  generalize hr0 : rst l = r at *
  clear hb0 hr0
  go_enter Tryz.func6, Tryz.ntmps6
  generalize hW0 : w.alloc (.cells #[.bool false, .slice none 0 0, .slice none 0 0] 24) = W0 at *
  go_wp2_with fail
  clear hW0
  refine (CP.out _).mono ?_
  rintro e w' ⟨rfl, rfl⟩
  go_wp2_with fail
  refine (CU.out _).mono ?_
  rintro e wc ⟨he, hbc⟩
  replace K2 := K2.old hbc
  replace hB := old_trans hB hbc
  clear hbc CU CP
  rcases he with ⟨hq, rfl⟩ | ⟨n, hq, rfl⟩
  · obtain ⟨st, hst0⟩ : ∃ st, st = false := ⟨_, rfl⟩
    obtain ⟨t, ht0⟩ : ∃ t, t = r := ⟨_, rfl⟩
    obtain ⟨u, hu0⟩ : ∃ u, u = ([49] : List UInt8) := ⟨_, rfl⟩
    have hst : Hid (st = false → u = [49]) := fun _ => hu0
    have hlp : Hid (l = (if b0 then [45] else []) ++ (t ++ (if st then 47 :: u else []))) := by
      show _ = _
      rw [hst0, ht0]; simpa using hla.out
    have FIN := hd (FA.out st t u (by rw [hst0, ht0, hu0]; exact partsR_no hq))
    have e49 : (⟨#[49]⟩ : ByteArray) = bt u := by rw [hu0]; rfl
    have hlt : t.length ≤ 1048576 := by rw [ht0]; omega
    have hlu : u.length ≤ 1048576 := by rw [hu0]; simp
    have S1 := hd (fun w' => iNatRead (bt t) (sp_len t hlt) w')
    have S2 := hd (fun w' => iNatRead (bt u) (sp_len u hlu) w')
    rw [← ht0]
    clear hq hla FA hst0 ht0 hu0
    cases h1 : rdB (bt t)
    · have hno := hd (okR_no1 (b := b0) (st := st) (u := u) h1)
      rw [h1] at S1
      clear h1
      generalize rdB (bt u) = r2 at *
      generalize resN r2 (nv (bt u) (bt u).size) = qu at *
      go_wp2_with fail
      have y0 := K2.1
      refine (S1.out _).mono ?_
      rintro e v1 ⟨⟨avT, cvT, rfl, O1⟩, hc1⟩
      replace K2 := K2.old hc1
      replace hB := old_trans hB hc1
      have z1 := O1.lt
      have z1' := hc1.size
      have y1 := K2.1
      go_wp2_with fail
      refine (S2.out _).mono ?_
      rintro e v2 ⟨⟨avU, cvU, rfl, O2⟩, hc2⟩
      replace K2 := K2.old hc2
      replace hB := old_trans hB hc2
      replace O1 := O1.later hc2
      have z2' := hc2.size
      obtain ⟨m1, ⟨m2, m3, m4⟩, m5, m6, m7⟩ := id K2
      go_wp2
      refine bodyPost_ret (resIR ((K2.setAll (.bool false) (.slice none 0 0) (.slice none 0 0)).old (old_alloc (Below.refl _ _) (.cells #[.bool b0, .slice avT 0 cvT, .slice avU qu.length cvU] 24))) rfl rfl) rfl (FIN.out _ _ (ResR.no hno.out) (old_alloc (below_set (below_set (below_set hB (Nat.le_refl _) _) (Nat.le_refl _) _) (Nat.le_refl _) _) _))
    cases h2 : rdB (bt u)
    · have hno := hd (okR_no2 (b := b0) (st := st) (t := t) h2)
      rw [h1] at S1
      rw [h2] at S2
      clear h1 h2
      generalize resN true (nv (bt t) (bt t).size) = qt at *
      go_wp2_with fail
      have y0 := K2.1
      refine (S1.out _).mono ?_
      rintro e v1 ⟨⟨avT, cvT, rfl, O1⟩, hc1⟩
      replace K2 := K2.old hc1
      replace hB := old_trans hB hc1
      have z1 := O1.lt
      have z1' := hc1.size
      have y1 := K2.1
      go_wp2_with fail
      refine (S2.out _).mono ?_
      rintro e v2 ⟨⟨avU, cvU, rfl, O2⟩, hc2⟩
      replace K2 := K2.old hc2
      replace hB := old_trans hB hc2
      replace O1 := O1.later hc2
      have z2' := hc2.size
      obtain ⟨m1, ⟨m2, m3, m4⟩, m5, m6, m7⟩ := id K2
      go_wp2
      refine bodyPost_ret (resIR ((K2.setAll (.bool false) (.slice none 0 0) (.slice none 0 0)).old (old_alloc (Below.refl _ _) (.cells #[.bool b0, .slice avT qt.length cvT, .slice avU 0 cvU] 24))) rfl rfl) rfl (FIN.out _ _ (ResR.no hno.out) (old_alloc (below_set (below_set (below_set hB (Nat.le_refl _) _) (Nat.le_refl _) _) (Nat.le_refl _) _) _))
    have hyes := hd (okR_yes (b := b0) (st := st) h1 h2)
    have hno3 := hd (okR_no3 (b := b0) (st := st) (t := t) (u := u))
    have TI := hd (text_is (b := b0) (st := st) h1 h2 hst.out)
    rw [← hlp.out] at TI
    rw [h1] at S1
    rw [h2] at S2
    have hVV := hd (rdB_fits h1)
    have hUU := hd (rdB_fits h2)
    clear h1 h2
    obtain ⟨V, hV⟩ : ∃ V, nv (bt t) t.length = V := ⟨_, rfl⟩
    obtain ⟨U, hU⟩ : ∃ U, nv (bt u) u.length = U := ⟨_, rfl⟩
    rw [bt_size, hV, show resN true V = natL V from rfl] at S1
    rw [bt_size, hU, show resN true U = natL U from rfl] at S2
    have hV' := hd hV
    have hU' := hd hU
    rw [hV, hU] at hyes hno3 TI
    clear hV hU
    go_wp2_with fail
    have y0 := K2.1
    refine (S1.out _).mono ?_
    rintro e v1 ⟨⟨avT, cvT, rfl, O1⟩, hc1⟩
    replace K2 := K2.old hc1
    replace hB := old_trans hB hc1
    have z1 := O1.lt
    have z1' := hc1.size
    have y1 := K2.1
    go_wp2_with fail
    refine (S2.out _).mono ?_
    rintro e v2 ⟨⟨avU, cvU, rfl, O2⟩, hc2⟩
    replace K2 := K2.old hc2
    replace hB := old_trans hB hc2
    replace O1 := O1.later hc2
    have z2' := hc2.size
    have K3 := Cel3.new v2 (.bool b0) (.slice avT (natL V).length cvT) (.slice avU (natL U).length cvU) 24
    have hal : Below v2.heap.size v2 (v2.alloc (.cells #[.bool b0, .slice avT (natL V).length cvT, .slice avU (natL U).length cvU] 24)) := old_alloc (Below.refl _ _) _
    replace K2 := K2.old hal
    replace hB := old_trans hB hal
    replace O1 := O1.later hal
    replace O2 := O2.later hal
    have hs9 := hB.size
    have FO := hd (iFracText b0 avT avU _ _ cvT cvU (natL V) (natL U) _ O1.inI O2.inI (TT.out _ hB).1 (TT.out _ hB).2.1 (TT.out _ hB).2.2)
    cases hf : (fracOk b0 (natL V) (natL U) && !(st && decide (U = 1)))
    · have hno := hd (hno3.out hf)
      have hne : ¬ (frT b0 (natL V) (natL U) = bt l) := fun e => by rw [TI.out.1 e] at hf; cases hf
      generalize frT b0 (natL V) (natL U) = z at *
      have hne2 : (z.toList == (bt l).toList) = false := by
        rw [beq_eq_false_iff_ne]
        intro e
        rw [ByteArray.toList_eq, ByteArray.toList_eq] at e
        exact hne (by cases z; simp [bt] at e ⊢; exact Array.ext' (by simpa using e))
      clear hne TI hf
      obtain ⟨k1, ⟨k2, k3, k4⟩, -⟩ := id K3
      go_wp2_with fail
      refine FO.out.mono ?_
      rintro e v3 ⟨rfl, hc3⟩
      replace K2 := K2.old hc3
      replace hB := old_trans hB hc3
      obtain ⟨m1, ⟨m2, m3, m4⟩, m5, m6, m7⟩ := id K2
      go_wp2
      refine bodyPost_ret (resIR (K2.setAll (.bool false) (.slice none 0 0) (.slice none 0 0)) rfl rfl) rfl (FIN.out _ _ (ResR.no hno.out) (below_set (below_set (below_set hB (Nat.le_refl _) _) (Nat.le_refl _) _) (Nat.le_refl _) _))
    have hok := hd (hyes.out hf)
    rw [TI.out.2 hf] at FO
    clear hf TI
    obtain ⟨k1, ⟨k2, k3, k4⟩, -⟩ := id K3
    go_wp2_with fail
    refine FO.out.mono ?_
    rintro e v3 ⟨rfl, hc3⟩
    replace K2 := K2.old hc3
    replace hB := old_trans hB hc3
    replace O1 := O1.later hc3
    replace O2 := O2.later hc3
    replace K3 := K3.old hc3
    clear k1 k2 k3 k4
    obtain ⟨k1, ⟨k2, k3, k4⟩, -⟩ := id K3
    obtain ⟨m1, ⟨m2, m3, m4⟩, m5, m6, m7⟩ := id K2
    have sp : Sep avT avU := fun p q e1 e2 => by have h1 := z1 p e1; have h2 := O2.ge q e2; omega
    go_wp2
    refine bodyPost_ret (resIR (K2.setAll (.bool b0) (.slice avT (natL V).length cvT) (.slice avU (natL U).length cvU)) rfl rfl) rfl (FIN.out _ _ (ResR.yes hV'.out hU'.out hok.out ((oi_set3 O1 y0).mono (Nat.le_of_lt y0)) ((oi_set3 O2 y1).mono (Nat.le_of_lt y1)) sp) (below_set (below_set (below_set hB (Nat.le_refl _) _) (Nat.le_refl _) _) (Nat.le_refl _) _))

  · have h47 := stk_47 _ _ hq
    obtain ⟨st, hst0⟩ : ∃ st, st = true := ⟨_, rfl⟩
    obtain ⟨t, ht0⟩ : ∃ t, t = r.take n := ⟨_, rfl⟩
    obtain ⟨u, hu0⟩ : ∃ u, u = r.drop (n + 1) := ⟨_, rfl⟩
    have hst : Hid (st = false → u = [49]) := fun h => by rw [hst0] at h; cases h
    have hlp : Hid (l = (if b0 then [45] else []) ++ (t ++ (if st then 47 :: u else []))) := by
      show _ = _
      rw [hst0, ht0, hu0]
      have := l_parts h47.1 h47.2
      simp only [if_true]
      rw [← this]; exact hla.out
    have FIN := hd (FA.out st t u (by rw [hst0, ht0, hu0]; exact partsR_at hq))
    have hlt : t.length ≤ 1048576 := by rw [ht0, List.length_take]; omega
    have hlu : u.length ≤ 1048576 := by rw [hu0, List.length_drop]; omega
    have S1 := hd (fun w' => iNatRead (bt t) (sp_len t hlt) w')
    have S2 := hd (fun w' => iNatRead (bt u) (sp_len u hlu) w')
    rw [← ht0, ← hu0]
    clear hq hla FA hst0 ht0 hu0 h47
    cases h1 : rdB (bt t)
    · have hno := hd (okR_no1 (b := b0) (st := st) (u := u) h1)
      rw [h1] at S1
      clear h1
      generalize rdB (bt u) = r2 at *
      generalize resN r2 (nv (bt u) (bt u).size) = qu at *
      go_wp2_with fail
      have y0 := K2.1
      refine (S1.out _).mono ?_
      rintro e v1 ⟨⟨avT, cvT, rfl, O1⟩, hc1⟩
      replace K2 := K2.old hc1
      replace hB := old_trans hB hc1
      have z1 := O1.lt
      have z1' := hc1.size
      have y1 := K2.1
      go_wp2_with fail
      refine (S2.out _).mono ?_
      rintro e v2 ⟨⟨avU, cvU, rfl, O2⟩, hc2⟩
      replace K2 := K2.old hc2
      replace hB := old_trans hB hc2
      replace O1 := O1.later hc2
      have z2' := hc2.size
      obtain ⟨m1, ⟨m2, m3, m4⟩, m5, m6, m7⟩ := id K2
      go_wp2
      refine bodyPost_ret (resIR ((K2.setAll (.bool false) (.slice none 0 0) (.slice none 0 0)).old (old_alloc (Below.refl _ _) (.cells #[.bool b0, .slice avT 0 cvT, .slice avU qu.length cvU] 24))) rfl rfl) rfl (FIN.out _ _ (ResR.no hno.out) (old_alloc (below_set (below_set (below_set hB (Nat.le_refl _) _) (Nat.le_refl _) _) (Nat.le_refl _) _) _))
    cases h2 : rdB (bt u)
    · have hno := hd (okR_no2 (b := b0) (st := st) (t := t) h2)
      rw [h1] at S1
      rw [h2] at S2
      clear h1 h2
      generalize resN true (nv (bt t) (bt t).size) = qt at *
      go_wp2_with fail
      have y0 := K2.1
      refine (S1.out _).mono ?_
      rintro e v1 ⟨⟨avT, cvT, rfl, O1⟩, hc1⟩
      replace K2 := K2.old hc1
      replace hB := old_trans hB hc1
      have z1 := O1.lt
      have z1' := hc1.size
      have y1 := K2.1
      go_wp2_with fail
      refine (S2.out _).mono ?_
      rintro e v2 ⟨⟨avU, cvU, rfl, O2⟩, hc2⟩
      replace K2 := K2.old hc2
      replace hB := old_trans hB hc2
      replace O1 := O1.later hc2
      have z2' := hc2.size
      obtain ⟨m1, ⟨m2, m3, m4⟩, m5, m6, m7⟩ := id K2
      go_wp2
      refine bodyPost_ret (resIR ((K2.setAll (.bool false) (.slice none 0 0) (.slice none 0 0)).old (old_alloc (Below.refl _ _) (.cells #[.bool b0, .slice avT qt.length cvT, .slice avU 0 cvU] 24))) rfl rfl) rfl (FIN.out _ _ (ResR.no hno.out) (old_alloc (below_set (below_set (below_set hB (Nat.le_refl _) _) (Nat.le_refl _) _) (Nat.le_refl _) _) _))
    have hyes := hd (okR_yes (b := b0) (st := st) h1 h2)
    have hno3 := hd (okR_no3 (b := b0) (st := st) (t := t) (u := u))
    have TI := hd (text_is (b := b0) (st := st) h1 h2 hst.out)
    rw [← hlp.out] at TI
    rw [h1] at S1
    rw [h2] at S2
    have hVV := hd (rdB_fits h1)
    have hUU := hd (rdB_fits h2)
    clear h1 h2
    obtain ⟨V, hV⟩ : ∃ V, nv (bt t) t.length = V := ⟨_, rfl⟩
    obtain ⟨U, hU⟩ : ∃ U, nv (bt u) u.length = U := ⟨_, rfl⟩
    rw [bt_size, hV, show resN true V = natL V from rfl] at S1
    rw [bt_size, hU, show resN true U = natL U from rfl] at S2
    have hV' := hd hV
    have hU' := hd hU
    rw [hV, hU] at hyes hno3 TI
    clear hV hU
    go_wp2_with fail
    have y0 := K2.1
    refine (S1.out _).mono ?_
    rintro e v1 ⟨⟨avT, cvT, rfl, O1⟩, hc1⟩
    replace K2 := K2.old hc1
    replace hB := old_trans hB hc1
    have z1 := O1.lt
    have z1' := hc1.size
    have y1 := K2.1
    go_wp2_with fail
    refine (S2.out _).mono ?_
    rintro e v2 ⟨⟨avU, cvU, rfl, O2⟩, hc2⟩
    replace K2 := K2.old hc2
    replace hB := old_trans hB hc2
    replace O1 := O1.later hc2
    have z2' := hc2.size
    have K3 := Cel3.new v2 (.bool b0) (.slice avT (natL V).length cvT) (.slice avU (natL U).length cvU) 24
    have hal : Below v2.heap.size v2 (v2.alloc (.cells #[.bool b0, .slice avT (natL V).length cvT, .slice avU (natL U).length cvU] 24)) := old_alloc (Below.refl _ _) _
    replace K2 := K2.old hal
    replace hB := old_trans hB hal
    replace O1 := O1.later hal
    replace O2 := O2.later hal
    have hs9 := hB.size
    have FO := hd (iFracText b0 avT avU _ _ cvT cvU (natL V) (natL U) _ O1.inI O2.inI (TT.out _ hB).1 (TT.out _ hB).2.1 (TT.out _ hB).2.2)
    cases hf : (fracOk b0 (natL V) (natL U) && !(st && decide (U = 1)))
    · have hno := hd (hno3.out hf)
      have hne : ¬ (frT b0 (natL V) (natL U) = bt l) := fun e => by rw [TI.out.1 e] at hf; cases hf
      generalize frT b0 (natL V) (natL U) = z at *
      have hne2 : (z.toList == (bt l).toList) = false := by
        rw [beq_eq_false_iff_ne]
        intro e
        rw [ByteArray.toList_eq, ByteArray.toList_eq] at e
        exact hne (by cases z; simp [bt] at e ⊢; exact Array.ext' (by simpa using e))
      clear hne TI hf
      obtain ⟨k1, ⟨k2, k3, k4⟩, -⟩ := id K3
      go_wp2_with fail
      refine FO.out.mono ?_
      rintro e v3 ⟨rfl, hc3⟩
      replace K2 := K2.old hc3
      replace hB := old_trans hB hc3
      obtain ⟨m1, ⟨m2, m3, m4⟩, m5, m6, m7⟩ := id K2
      go_wp2
      refine bodyPost_ret (resIR (K2.setAll (.bool false) (.slice none 0 0) (.slice none 0 0)) rfl rfl) rfl (FIN.out _ _ (ResR.no hno.out) (below_set (below_set (below_set hB (Nat.le_refl _) _) (Nat.le_refl _) _) (Nat.le_refl _) _))
    have hok := hd (hyes.out hf)
    rw [TI.out.2 hf] at FO
    clear hf TI
    obtain ⟨k1, ⟨k2, k3, k4⟩, -⟩ := id K3
    go_wp2_with fail
    refine FO.out.mono ?_
    rintro e v3 ⟨rfl, hc3⟩
    replace K2 := K2.old hc3
    replace hB := old_trans hB hc3
    replace O1 := O1.later hc3
    replace O2 := O2.later hc3
    replace K3 := K3.old hc3
    clear k1 k2 k3 k4
    obtain ⟨k1, ⟨k2, k3, k4⟩, -⟩ := id K3
    obtain ⟨m1, ⟨m2, m3, m4⟩, m5, m6, m7⟩ := id K2
    have sp : Sep avT avU := fun p q e1 e2 => by have h1 := z1 p e1; have h2 := O2.ge q e2; omega
    go_wp2
    refine bodyPost_ret (resIR (K2.setAll (.bool b0) (.slice avT (natL V).length cvT) (.slice avU (natL U).length cvU)) rfl rfl) rfl (FIN.out _ _ (ResR.yes hV'.out hU'.out hok.out ((oi_set3 O1 y0).mono (Nat.le_of_lt y0)) ((oi_set3 O2 y1).mono (Nat.le_of_lt y1)) sp) (below_set (below_set (below_set hB (Nat.le_refl _) _) (Nat.le_refl _) _) (Nat.le_refl _) _))

end Go.Proofs.YtlfaiekcmflgnaaGreatDoor
