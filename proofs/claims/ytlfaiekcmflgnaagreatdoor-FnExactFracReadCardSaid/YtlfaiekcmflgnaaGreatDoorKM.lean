/- FracRead of the specification. Nothing that was there is written. No condition but the text's length. -/
import Derived.Test.YtlfaiekcmflgnaaGreatDoorKL
namespace Go.Proofs.YtlfaiekcmflgnaaGreatDoor
open Go.RowKit Go.Lib
set_option linter.unusedVariables false
set_option maxRecDepth 100000

set_option maxRecDepth 100000 in
set_option maxHeartbeats 16000000 in
theorem sFracRead (l : List UInt8) (hl : l.length ≤ 1048576) (w : World) :
    Calls Tryz.prog 5 #[.string (bt l)] w fun e w' => FRes w' w.heap.size e (okFR l) (bmin l) (topFR l) (botFR l) ∧ Below w.heap.size w w' := by
  have K2 := Cel3.new w (.bool false) (.slice none 0 0) (.slice none 0 0) 24
  have hB : Below w.heap.size w (w.alloc (.cells #[.bool false, .slice none 0 0, .slice none 0 0] 24)) := (by repeat (first | exact Below.refl _ _ | refine Below.drew ?_ | refine old_alloc ?_ _ | refine old_trans ?_ (by assumption)))
  have FA := hd (fun (st : Bool) (t u : List UInt8) (hp : partsR (rst l) = (st, t, u)) (W : World) (e : Ending) (h : ResR W w.heap.size e (bmin l) st t u) (h2 : Below w.heap.size w W) => (⟨h.all hp, h2⟩ : FRes W w.heap.size e (okFR l) (bmin l) (topFR l) (botFR l) ∧ Below w.heap.size w W))
  generalize okFR l = okl at *
  generalize topFR l = tpl at *
  generalize botFR l = btl at *
  obtain ⟨r, hr⟩ : ∃ r, rst l = r := ⟨_, rfl⟩
  have hrl : r.length ≤ 1048576 := by have := rst_len l; rw [hr] at this; omega
  rw [hr] at FA
  cases hb : bmin l
  · rw [hb] at FA
    obtain rfl : l = r := by rw [← hr, rst_not hb]
    cases hl0 : l with
    | nil =>
      have hl1 : l.length = 0 := by rw [hl0]; rfl
      rw [← hl0]
      have hsz0 : (bt l).size = 0 := hl1
      have hl1' := hd hl1
      clear hr hb hl0 hl1
      go_enter Tryz.func5, Tryz.ntmps5
      generalize hW0 : w.alloc (.cells #[.bool false, .slice none 0 0, .slice none 0 0] 24) = WX at *
      go_wp2_with fail
      clear hW0
      obtain ⟨r, rfl⟩ : ∃ r, r = l := ⟨_, rfl⟩
      go_loopw [5, 6, 7] (fun a5 a6 i wr => ∃ k : Nat, k ≤ r.length ∧ a5 = .string (bt r) ∧ a6 = .string ⟨#[49]⟩ ∧ i = .int .i64 (k : Int) ∧ (∀ j, j < k → r.getD j 0 ≠ 47) ∧ wr = WX) (fun _ _ i _ => r.length - (Lib.intOf i).toNat)
      case atStart => exact ⟨0, by omega, rfl, rfl, rfl, fun j hj => by omega, rfl⟩
      case round =>
        obtain ⟨k, hk, rfl, rfl, rfl, hj, rfl⟩ := hrel
        by_cases hlt : k < r.length
        · exact absurd hlt (by have := hl1'.out; omega)
        · obtain rfl : k = r.length := by omega
          have hq := stk_no r hj
          obtain ⟨st, hst0⟩ : ∃ st, st = false := ⟨_, rfl⟩
          obtain ⟨t, ht0⟩ : ∃ t, t = r := ⟨_, rfl⟩
          obtain ⟨u, hu0⟩ : ∃ u, u = ([49] : List UInt8) := ⟨_, rfl⟩
          have FIN := hd (FA.out st t u (by rw [hst0, ht0, hu0]; exact partsR_no hq))
          have e49 : (⟨#[49]⟩ : ByteArray) = bt u := by rw [hu0]; rfl
          have hlt' : t.length ≤ 1048576 := by rw [ht0]; omega
          have hlu : u.length ≤ 1048576 := by rw [hu0]; simp
          have HS : Hid (rdB (bt u) = true → (st && decide (nv (bt u) u.length = 1)) = false) := fun _ => by rw [hst0]; rfl
          have S1 := hd (fun w' => sNatRead (bt t) (sp_len t hlt') w')
          have S2 := hd (fun w' => sNatRead (bt u) (sp_len u hlu) w')
          rw [e49, ← ht0]
          rw [← ht0] at hsz0 hl1'
          clear hq hj FA hst0 hu0 e49 hlt ht0
          have hk0 : (t.length : Int) = 0 := by have := hl1'.out; omega
          cases h1 : rdB (bt t)
          · have hno := hd (okR_no1 (b := false) (st := st) (u := u) h1)
            rw [h1] at S1
            clear h1
            generalize rdB (bt u) = r2 at *
            generalize resN r2 (nv (bt u) (bt u).size) = qu at *
            go_wp2_with fail
            have y0 := K2.1
            refine (S1.out _).mono ?_
            rintro e v1 ⟨⟨avT, cvT, rfl, O1⟩, hc1⟩
            replace K2 := K2.old hc1
            replace hB := old_trans hB hc1
            have z1 := O1.lt
            have z1' := hc1.size
            have y1 := K2.1
            go_wp2_with fail
            refine (S2.out _).mono ?_
            rintro e v2 ⟨⟨avU, cvU, rfl, O2⟩, hc2⟩
            replace K2 := K2.old hc2
            replace hB := old_trans hB hc2
            replace O1 := O1.later hc2
            have z2' := hc2.size
            obtain ⟨m1, ⟨m2, m3, m4⟩, m5, m6, m7⟩ := id K2
            go_wp2
            refine bodyPost_ret (resSR ((K2.setAll (.bool false) (.slice none 0 0) (.slice none 0 0)).old (old_alloc (Below.refl _ _) (.cells #[.bool false, .slice avT 0 cvT, .slice avU qu.length cvU] 24))) rfl rfl) rfl (FIN.out _ _ (ResR.no hno.out) (old_alloc (below_set (below_set (below_set hB (Nat.le_refl _) _) (Nat.le_refl _) _) (Nat.le_refl _) _) _))
          cases h2 : rdB (bt u)
          · have hno := hd (okR_no2 (b := false) (st := st) (t := t) h2)
            rw [h1] at S1
            rw [h2] at S2
            clear h1 h2
            generalize resN true (nv (bt t) (bt t).size) = qt at *
            go_wp2_with fail
            have y0 := K2.1
            refine (S1.out _).mono ?_
            rintro e v1 ⟨⟨avT, cvT, rfl, O1⟩, hc1⟩
            replace K2 := K2.old hc1
            replace hB := old_trans hB hc1
            have z1 := O1.lt
            have z1' := hc1.size
            have y1 := K2.1
            go_wp2_with fail
            refine (S2.out _).mono ?_
            rintro e v2 ⟨⟨avU, cvU, rfl, O2⟩, hc2⟩
            replace K2 := K2.old hc2
            replace hB := old_trans hB hc2
            replace O1 := O1.later hc2
            have z2' := hc2.size
            obtain ⟨m1, ⟨m2, m3, m4⟩, m5, m6, m7⟩ := id K2
            go_wp2
            refine bodyPost_ret (resSR ((K2.setAll (.bool false) (.slice none 0 0) (.slice none 0 0)).old (old_alloc (Below.refl _ _) (.cells #[.bool false, .slice avT qt.length cvT, .slice avU 0 cvU] 24))) rfl rfl) rfl (FIN.out _ _ (ResR.no hno.out) (old_alloc (below_set (below_set (below_set hB (Nat.le_refl _) _) (Nat.le_refl _) _) (Nat.le_refl _) _) _))
          have hyes := hd (okR_yes (b := false) (st := st) h1 h2)
          have hno3 := hd (okR_no3 (b := false) (st := st) (t := t) (u := u))
          have hst1 := hd (HS.out h2)
          rw [h1] at S1
          rw [h2] at S2
          clear h1 h2
          obtain ⟨V, hV⟩ : ∃ V, nv (bt t) t.length = V := ⟨_, rfl⟩
          obtain ⟨U, hU⟩ : ∃ U, nv (bt u) u.length = U := ⟨_, rfl⟩
          rw [bt_size, hV, show resN true V = natL V from rfl] at S1
          rw [bt_size, hU, show resN true U = natL U from rfl] at S2
          have hV' := hd hV
          have hU' := hd hU
          rw [hV, hU] at hyes hno3
          rw [hU] at hst1
          clear hV hU
          go_wp2_with fail
          have y0 := K2.1
          refine (S1.out _).mono ?_
          rintro e v1 ⟨⟨avT, cvT, rfl, O1⟩, hc1⟩
          replace K2 := K2.old hc1
          replace hB := old_trans hB hc1
          have z1 := O1.lt
          have z1' := hc1.size
          have y1 := K2.1
          go_wp2_with fail
          refine (S2.out _).mono ?_
          rintro e v2 ⟨⟨avU, cvU, rfl, O2⟩, hc2⟩
          replace K2 := K2.old hc2
          replace hB := old_trans hB hc2
          replace O1 := O1.later hc2
          have z2' := hc2.size
          have K3 := Cel3.new v2 (.bool false) (.slice avT (natL V).length cvT) (.slice avU (natL U).length cvU) 24
          have hal : Below v2.heap.size v2 (v2.alloc (.cells #[.bool false, .slice avT (natL V).length cvT, .slice avU (natL U).length cvU] 24)) := old_alloc (Below.refl _ _) _
          replace K2 := K2.old hal
          replace hB := old_trans hB hal
          replace O1 := O1.later hal
          replace O2 := O2.later hal
          have FO := hd (sFracOk false avT avU _ _ cvT cvU (natL V) (natL U) _ O1.inI O2.inI)
          cases hf : fracOk false (natL V) (natL U)
          · have hno := hd (hno3.out (by rw [hf]; rfl))
            rw [hf] at FO
            clear hf
            obtain ⟨k1, ⟨k2, k3, k4⟩, -⟩ := id K3
            go_wp2_with fail
            refine FO.out.mono ?_
            rintro e v3 ⟨rfl, hc3⟩
            replace K2 := K2.old hc3
            replace hB := old_trans hB hc3
            obtain ⟨m1, ⟨m2, m3, m4⟩, m5, m6, m7⟩ := id K2
            go_wp2
            refine bodyPost_ret (resSR (K2.setAll (.bool false) (.slice none 0 0) (.slice none 0 0)) rfl rfl) rfl (FIN.out _ _ (ResR.no hno.out) (below_set (below_set (below_set hB (Nat.le_refl _) _) (Nat.le_refl _) _) (Nat.le_refl _) _))
          have hok := hd (hyes.out (by rw [hf, hst1.out]; rfl))
          rw [hf] at FO
          clear hf
          obtain ⟨k1, ⟨k2, k3, k4⟩, -⟩ := id K3
          go_wp2_with fail
          refine FO.out.mono ?_
          rintro e v3 ⟨rfl, hc3⟩
          replace K2 := K2.old hc3
          replace hB := old_trans hB hc3
          replace O1 := O1.later hc3
          replace O2 := O2.later hc3
          replace K3 := K3.old hc3
          clear k1 k2 k3 k4
          obtain ⟨k1, ⟨k2, k3, k4⟩, -⟩ := id K3
          obtain ⟨m1, ⟨m2, m3, m4⟩, m5, m6, m7⟩ := id K2
          have sp : Sep avT avU := fun p q e1 e2 => by have h1 := z1 p e1; have h2 := O2.ge q e2; omega
          go_wp2
          refine bodyPost_ret (resSR (K2.setAll (.bool false) (.slice avT (natL V).length cvT) (.slice avU (natL U).length cvU)) rfl rfl) rfl (FIN.out _ _ (ResR.yes hV'.out hU'.out hok.out ((oi_set3 O1 y0).mono (Nat.le_of_lt y0)) ((oi_set3 O2 y1).mono (Nat.le_of_lt y1)) sp) (below_set (below_set (below_set hB (Nat.le_refl _) _) (Nat.le_refl _) _) (Nat.le_refl _) _))
    | cons b t9 =>
      have hl1 : 0 < l.length := by rw [hl0]; simp
      have hb45 : ¬ (byt (bt l) 0 = 45) := by
        intro e
        rw [hl0, bmin_cons] at hb
        rw [byt_bt, hl0] at e
        have e3 : ((b.toNat : Nat) : Int) = 45 := e
        have e2 : b.toNat = 45 := by omega
        have : b = 45 := UInt8.toNat_inj.1 e2
        subst this
        simp at hb
      rw [← hl0]
      have ix0 := idxS0 Tryz.underlying9 (bt l) (by rw [bt_size]; exact hl1)
      have bd0 := byt_bd (bt l) 0
      have hI : (0 : Int) < (l.length : Int) := by omega
      generalize byt (bt l) 0 = y0_ at *
      have hyb : (y0_ == 45) = false := by simpa using hb45
      clear hr hb hl0
      go_enter Tryz.func5, Tryz.ntmps5
      generalize hW0 : w.alloc (.cells #[.bool false, .slice none 0 0, .slice none 0 0] 24) = WX at *
      go_wp2_with fail
      clear hW0 hI hl1 ix0 bd0 hyb hb45
      obtain ⟨r, rfl⟩ : ∃ r, r = l := ⟨_, rfl⟩
      go_loopw [5, 6, 7] (fun a5 a6 i wr => ∃ k : Nat, k ≤ r.length ∧ a5 = .string (bt r) ∧ a6 = .string ⟨#[49]⟩ ∧ i = .int .i64 (k : Int) ∧ (∀ j, j < k → r.getD j 0 ≠ 47) ∧ wr = WX) (fun _ _ i _ => r.length - (Lib.intOf i).toNat)
      case atStart => exact ⟨0, by omega, rfl, rfl, rfl, fun j hj => by omega, rfl⟩
      case round =>
        obtain ⟨k, hk, rfl, rfl, rfl, hj, rfl⟩ := hrel
        by_cases hlt : k < r.length
        · have ix := idxS Tryz.underlying9 (bt r) k (by rw [bt_size]; exact hlt)
          rw [byt_bt] at ix
          have hkI : (k : Int) < (r.length : Int) := by omega
          have hkI2 : (r.length : Int) ≤ 1048576 := by omega
          by_cases h47 : r.getD k 0 = 47
          · have hq := stk_at r k hlt hj h47
            rw [h47, show ((47 : UInt8).toNat : Int) = 47 from rfl] at ix
            have s1 := slTo r k (by omega)
            have s2 := slFrom1 r k (by omega)
            obtain ⟨st, hst0⟩ : ∃ st, st = true := ⟨_, rfl⟩
            obtain ⟨t, ht0⟩ : ∃ t, t = r.take k := ⟨_, rfl⟩
            obtain ⟨u, hu0⟩ : ∃ u, u = r.drop (k + 1) := ⟨_, rfl⟩
            have FIN := hd (FA.out st t u (by rw [hst0, ht0, hu0]; exact partsR_at hq))
            have hlt' : t.length ≤ 1048576 := by rw [ht0, List.length_take]; omega
            have hlu : u.length ≤ 1048576 := by rw [hu0, List.length_drop]; omega
            rw [← ht0] at s1
            rw [← hu0] at s2
            by_cases hu : u = [49]
            · have hno : Hid (okR false st t u = false) := by show _ = _; rw [hst0, hu]; exact okR_one
              have e9 : ((bt u).toList == [49]) = true := by rw [hu, ByteArray.toList_eq]; rfl
              clear hq hj h47 hst0 ht0 hu0 hu
              obtain ⟨m1, ⟨m2, m3, m4⟩, m5, m6, m7⟩ := id K2
              go_wp2
              refine bodyPost_ret (resSR (K2.setAll (.bool false) (.slice none 0 0) (.slice none 0 0)) rfl rfl) rfl (FIN.out _ _ (ResR.no hno.out) (below_set (below_set (below_set hB (Nat.le_refl _) _) (Nat.le_refl _) _) (Nat.le_refl _) _))
            · have e9 : ((bt u).toList == [49]) = false := by
                rw [beq_eq_false_iff_ne, ByteArray.toList_eq]
                simpa [bt] using hu
              have HS : Hid (rdB (bt u) = true → (st && decide (nv (bt u) u.length = 1)) = false) := fun h => by
                have := nv_not1 h hu
                simp [this]
              have S1 := hd (fun w' => sNatRead (bt t) (sp_len t hlt') w')
              have S2 := hd (fun w' => sNatRead (bt u) (sp_len u hlu) w')
              clear hq hj h47 hst0 ht0 hu0 hu FA
              cases h1 : rdB (bt t)
              · have hno := hd (okR_no1 (b := false) (st := st) (u := u) h1)
                rw [h1] at S1
                clear h1
                generalize rdB (bt u) = r2 at *
                generalize resN r2 (nv (bt u) (bt u).size) = qu at *
                go_wp2_with fail
                have y0 := K2.1
                refine (S1.out _).mono ?_
                rintro e v1 ⟨⟨avT, cvT, rfl, O1⟩, hc1⟩
                replace K2 := K2.old hc1
                replace hB := old_trans hB hc1
                have z1 := O1.lt
                have z1' := hc1.size
                have y1 := K2.1
                go_wp2_with fail
                refine (S2.out _).mono ?_
                rintro e v2 ⟨⟨avU, cvU, rfl, O2⟩, hc2⟩
                replace K2 := K2.old hc2
                replace hB := old_trans hB hc2
                replace O1 := O1.later hc2
                have z2' := hc2.size
                obtain ⟨m1, ⟨m2, m3, m4⟩, m5, m6, m7⟩ := id K2
                go_wp2
                refine bodyPost_ret (resSR ((K2.setAll (.bool false) (.slice none 0 0) (.slice none 0 0)).old (old_alloc (Below.refl _ _) (.cells #[.bool false, .slice avT 0 cvT, .slice avU qu.length cvU] 24))) rfl rfl) rfl (FIN.out _ _ (ResR.no hno.out) (old_alloc (below_set (below_set (below_set hB (Nat.le_refl _) _) (Nat.le_refl _) _) (Nat.le_refl _) _) _))
              cases h2 : rdB (bt u)
              · have hno := hd (okR_no2 (b := false) (st := st) (t := t) h2)
                rw [h1] at S1
                rw [h2] at S2
                clear h1 h2
                generalize resN true (nv (bt t) (bt t).size) = qt at *
                go_wp2_with fail
                have y0 := K2.1
                refine (S1.out _).mono ?_
                rintro e v1 ⟨⟨avT, cvT, rfl, O1⟩, hc1⟩
                replace K2 := K2.old hc1
                replace hB := old_trans hB hc1
                have z1 := O1.lt
                have z1' := hc1.size
                have y1 := K2.1
                go_wp2_with fail
                refine (S2.out _).mono ?_
                rintro e v2 ⟨⟨avU, cvU, rfl, O2⟩, hc2⟩
                replace K2 := K2.old hc2
                replace hB := old_trans hB hc2
                replace O1 := O1.later hc2
                have z2' := hc2.size
                obtain ⟨m1, ⟨m2, m3, m4⟩, m5, m6, m7⟩ := id K2
                go_wp2
                refine bodyPost_ret (resSR ((K2.setAll (.bool false) (.slice none 0 0) (.slice none 0 0)).old (old_alloc (Below.refl _ _) (.cells #[.bool false, .slice avT qt.length cvT, .slice avU 0 cvU] 24))) rfl rfl) rfl (FIN.out _ _ (ResR.no hno.out) (old_alloc (below_set (below_set (below_set hB (Nat.le_refl _) _) (Nat.le_refl _) _) (Nat.le_refl _) _) _))
              have hyes := hd (okR_yes (b := false) (st := st) h1 h2)
              have hno3 := hd (okR_no3 (b := false) (st := st) (t := t) (u := u))
              have hst1 := hd (HS.out h2)
              rw [h1] at S1
              rw [h2] at S2
              clear h1 h2
              obtain ⟨V, hV⟩ : ∃ V, nv (bt t) t.length = V := ⟨_, rfl⟩
              obtain ⟨U, hU⟩ : ∃ U, nv (bt u) u.length = U := ⟨_, rfl⟩
              rw [bt_size, hV, show resN true V = natL V from rfl] at S1
              rw [bt_size, hU, show resN true U = natL U from rfl] at S2
              have hV' := hd hV
              have hU' := hd hU
              rw [hV, hU] at hyes hno3
              rw [hU] at hst1
              clear hV hU
              go_wp2_with fail
              have y0 := K2.1
              refine (S1.out _).mono ?_
              rintro e v1 ⟨⟨avT, cvT, rfl, O1⟩, hc1⟩
              replace K2 := K2.old hc1
              replace hB := old_trans hB hc1
              have z1 := O1.lt
              have z1' := hc1.size
              have y1 := K2.1
              go_wp2_with fail
              refine (S2.out _).mono ?_
              rintro e v2 ⟨⟨avU, cvU, rfl, O2⟩, hc2⟩
              replace K2 := K2.old hc2
              replace hB := old_trans hB hc2
              replace O1 := O1.later hc2
              have z2' := hc2.size
              have K3 := Cel3.new v2 (.bool false) (.slice avT (natL V).length cvT) (.slice avU (natL U).length cvU) 24
              have hal : Below v2.heap.size v2 (v2.alloc (.cells #[.bool false, .slice avT (natL V).length cvT, .slice avU (natL U).length cvU] 24)) := old_alloc (Below.refl _ _) _
              replace K2 := K2.old hal
              replace hB := old_trans hB hal
              replace O1 := O1.later hal
              replace O2 := O2.later hal
              have FO := hd (sFracOk false avT avU _ _ cvT cvU (natL V) (natL U) _ O1.inI O2.inI)
              cases hf : fracOk false (natL V) (natL U)
              · have hno := hd (hno3.out (by rw [hf]; rfl))
                rw [hf] at FO
                clear hf
                obtain ⟨k1, ⟨k2, k3, k4⟩, -⟩ := id K3
                go_wp2_with fail
                refine FO.out.mono ?_
                rintro e v3 ⟨rfl, hc3⟩
                replace K2 := K2.old hc3
                replace hB := old_trans hB hc3
                obtain ⟨m1, ⟨m2, m3, m4⟩, m5, m6, m7⟩ := id K2
                go_wp2
                refine bodyPost_ret (resSR (K2.setAll (.bool false) (.slice none 0 0) (.slice none 0 0)) rfl rfl) rfl (FIN.out _ _ (ResR.no hno.out) (below_set (below_set (below_set hB (Nat.le_refl _) _) (Nat.le_refl _) _) (Nat.le_refl _) _))
              have hok := hd (hyes.out (by rw [hf, hst1.out]; rfl))
              rw [hf] at FO
              clear hf
              obtain ⟨k1, ⟨k2, k3, k4⟩, -⟩ := id K3
              go_wp2_with fail
              refine FO.out.mono ?_
              rintro e v3 ⟨rfl, hc3⟩
              replace K2 := K2.old hc3
              replace hB := old_trans hB hc3
              replace O1 := O1.later hc3
              replace O2 := O2.later hc3
              replace K3 := K3.old hc3
              clear k1 k2 k3 k4
              obtain ⟨k1, ⟨k2, k3, k4⟩, -⟩ := id K3
              obtain ⟨m1, ⟨m2, m3, m4⟩, m5, m6, m7⟩ := id K2
              have sp : Sep avT avU := fun p q e1 e2 => by have h1 := z1 p e1; have h2 := O2.ge q e2; omega
              go_wp2
              refine bodyPost_ret (resSR (K2.setAll (.bool false) (.slice avT (natL V).length cvT) (.slice avU (natL U).length cvU)) rfl rfl) rfl (FIN.out _ _ (ResR.yes hV'.out hU'.out hok.out ((oi_set3 O1 y0).mono (Nat.le_of_lt y0)) ((oi_set3 O2 y1).mono (Nat.le_of_lt y1)) sp) (below_set (below_set (below_set hB (Nat.le_refl _) _) (Nat.le_refl _) _) (Nat.le_refl _) _))
          · have hne : ¬ (((r.getD k 0).toNat : Int) = 47) := fun e => h47 (by
              apply UInt8.toNat_inj.1
              show (r.getD k 0).toNat = 47
              omega)
            have hj' : Hid (∀ j, j < k + 1 → r.getD j 0 ≠ 47) := fun j hj1 => by
              by_cases e : j = k
              · subst e; exact h47
              · exact hj j (by omega)
            have bd : ((r.getD k 0).toNat : Int) ≤ 255 := by have := (r.getD k 0).toNat_lt; omega
            generalize ((r.getD k 0).toNat : Int) = by_ at *
            have hneb : (by_ == 47) = false := by simpa using hne
            clear hj h47 FA K2 hB
            go_wp2
            go_roundw
            case rel => exact ⟨k + 1, by omega, rfl, rfl, by go_num, hj'.out, by first | rfl | trivial⟩
            case measure => simp [Lib.intOf]; omega
        · obtain rfl : k = r.length := by omega
          have hq := stk_no r hj
          obtain ⟨st, hst0⟩ : ∃ st, st = false := ⟨_, rfl⟩
          obtain ⟨t, ht0⟩ : ∃ t, t = r := ⟨_, rfl⟩
          obtain ⟨u, hu0⟩ : ∃ u, u = ([49] : List UInt8) := ⟨_, rfl⟩
          have FIN := hd (FA.out st t u (by rw [hst0, ht0, hu0]; exact partsR_no hq))
          have e49 : (⟨#[49]⟩ : ByteArray) = bt u := by rw [hu0]; rfl
          have hlt' : t.length ≤ 1048576 := by rw [ht0]; omega
          have hlu : u.length ≤ 1048576 := by rw [hu0]; simp
          have HS : Hid (rdB (bt u) = true → (st && decide (nv (bt u) u.length = 1)) = false) := fun _ => by rw [hst0]; rfl
          have S1 := hd (fun w' => sNatRead (bt t) (sp_len t hlt') w')
          have S2 := hd (fun w' => sNatRead (bt u) (sp_len u hlu) w')
          rw [e49, ← ht0]
          clear hq hj FA hst0 hu0 e49 hlt ht0
          have hszt := bt_size t
          have hni : ¬ ((t.length : Int) < (t.length : Int)) := by omega
          cases h1 : rdB (bt t)
          · have hno := hd (okR_no1 (b := false) (st := st) (u := u) h1)
            rw [h1] at S1
            clear h1
            generalize rdB (bt u) = r2 at *
            generalize resN r2 (nv (bt u) (bt u).size) = qu at *
            go_wp2_with fail
            have y0 := K2.1
            refine (S1.out _).mono ?_
            rintro e v1 ⟨⟨avT, cvT, rfl, O1⟩, hc1⟩
            replace K2 := K2.old hc1
            replace hB := old_trans hB hc1
            have z1 := O1.lt
            have z1' := hc1.size
            have y1 := K2.1
            go_wp2_with fail
            refine (S2.out _).mono ?_
            rintro e v2 ⟨⟨avU, cvU, rfl, O2⟩, hc2⟩
            replace K2 := K2.old hc2
            replace hB := old_trans hB hc2
            replace O1 := O1.later hc2
            have z2' := hc2.size
            obtain ⟨m1, ⟨m2, m3, m4⟩, m5, m6, m7⟩ := id K2
            go_wp2
            refine bodyPost_ret (resSR ((K2.setAll (.bool false) (.slice none 0 0) (.slice none 0 0)).old (old_alloc (Below.refl _ _) (.cells #[.bool false, .slice avT 0 cvT, .slice avU qu.length cvU] 24))) rfl rfl) rfl (FIN.out _ _ (ResR.no hno.out) (old_alloc (below_set (below_set (below_set hB (Nat.le_refl _) _) (Nat.le_refl _) _) (Nat.le_refl _) _) _))
          cases h2 : rdB (bt u)
          · have hno := hd (okR_no2 (b := false) (st := st) (t := t) h2)
            rw [h1] at S1
            rw [h2] at S2
            clear h1 h2
            generalize resN true (nv (bt t) (bt t).size) = qt at *
            go_wp2_with fail
            have y0 := K2.1
            refine (S1.out _).mono ?_
            rintro e v1 ⟨⟨avT, cvT, rfl, O1⟩, hc1⟩
            replace K2 := K2.old hc1
            replace hB := old_trans hB hc1
            have z1 := O1.lt
            have z1' := hc1.size
            have y1 := K2.1
            go_wp2_with fail
            refine (S2.out _).mono ?_
            rintro e v2 ⟨⟨avU, cvU, rfl, O2⟩, hc2⟩
            replace K2 := K2.old hc2
            replace hB := old_trans hB hc2
            replace O1 := O1.later hc2
            have z2' := hc2.size
            obtain ⟨m1, ⟨m2, m3, m4⟩, m5, m6, m7⟩ := id K2
            go_wp2
            refine bodyPost_ret (resSR ((K2.setAll (.bool false) (.slice none 0 0) (.slice none 0 0)).old (old_alloc (Below.refl _ _) (.cells #[.bool false, .slice avT qt.length cvT, .slice avU 0 cvU] 24))) rfl rfl) rfl (FIN.out _ _ (ResR.no hno.out) (old_alloc (below_set (below_set (below_set hB (Nat.le_refl _) _) (Nat.le_refl _) _) (Nat.le_refl _) _) _))
          have hyes := hd (okR_yes (b := false) (st := st) h1 h2)
          have hno3 := hd (okR_no3 (b := false) (st := st) (t := t) (u := u))
          have hst1 := hd (HS.out h2)
          rw [h1] at S1
          rw [h2] at S2
          clear h1 h2
          obtain ⟨V, hV⟩ : ∃ V, nv (bt t) t.length = V := ⟨_, rfl⟩
          obtain ⟨U, hU⟩ : ∃ U, nv (bt u) u.length = U := ⟨_, rfl⟩
          rw [bt_size, hV, show resN true V = natL V from rfl] at S1
          rw [bt_size, hU, show resN true U = natL U from rfl] at S2
          have hV' := hd hV
          have hU' := hd hU
          rw [hV, hU] at hyes hno3
          rw [hU] at hst1
          clear hV hU
          go_wp2_with fail
          have y0 := K2.1
          refine (S1.out _).mono ?_
          rintro e v1 ⟨⟨avT, cvT, rfl, O1⟩, hc1⟩
          replace K2 := K2.old hc1
          replace hB := old_trans hB hc1
          have z1 := O1.lt
          have z1' := hc1.size
          have y1 := K2.1
          go_wp2_with fail
          refine (S2.out _).mono ?_
          rintro e v2 ⟨⟨avU, cvU, rfl, O2⟩, hc2⟩
          replace K2 := K2.old hc2
          replace hB := old_trans hB hc2
          replace O1 := O1.later hc2
          have z2' := hc2.size
          have K3 := Cel3.new v2 (.bool false) (.slice avT (natL V).length cvT) (.slice avU (natL U).length cvU) 24
          have hal : Below v2.heap.size v2 (v2.alloc (.cells #[.bool false, .slice avT (natL V).length cvT, .slice avU (natL U).length cvU] 24)) := old_alloc (Below.refl _ _) _
          replace K2 := K2.old hal
          replace hB := old_trans hB hal
          replace O1 := O1.later hal
          replace O2 := O2.later hal
          have FO := hd (sFracOk false avT avU _ _ cvT cvU (natL V) (natL U) _ O1.inI O2.inI)
          cases hf : fracOk false (natL V) (natL U)
          · have hno := hd (hno3.out (by rw [hf]; rfl))
            rw [hf] at FO
            clear hf
            obtain ⟨k1, ⟨k2, k3, k4⟩, -⟩ := id K3
            go_wp2_with fail
            refine FO.out.mono ?_
            rintro e v3 ⟨rfl, hc3⟩
            replace K2 := K2.old hc3
            replace hB := old_trans hB hc3
            obtain ⟨m1, ⟨m2, m3, m4⟩, m5, m6, m7⟩ := id K2
            go_wp2
            refine bodyPost_ret (resSR (K2.setAll (.bool false) (.slice none 0 0) (.slice none 0 0)) rfl rfl) rfl (FIN.out _ _ (ResR.no hno.out) (below_set (below_set (below_set hB (Nat.le_refl _) _) (Nat.le_refl _) _) (Nat.le_refl _) _))
          have hok := hd (hyes.out (by rw [hf, hst1.out]; rfl))
          rw [hf] at FO
          clear hf
          obtain ⟨k1, ⟨k2, k3, k4⟩, -⟩ := id K3
          go_wp2_with fail
          refine FO.out.mono ?_
          rintro e v3 ⟨rfl, hc3⟩
          replace K2 := K2.old hc3
          replace hB := old_trans hB hc3
          replace O1 := O1.later hc3
          replace O2 := O2.later hc3
          replace K3 := K3.old hc3
          clear k1 k2 k3 k4
          obtain ⟨k1, ⟨k2, k3, k4⟩, -⟩ := id K3
          obtain ⟨m1, ⟨m2, m3, m4⟩, m5, m6, m7⟩ := id K2
          have sp : Sep avT avU := fun p q e1 e2 => by have h1 := z1 p e1; have h2 := O2.ge q e2; omega
          go_wp2
          refine bodyPost_ret (resSR (K2.setAll (.bool false) (.slice avT (natL V).length cvT) (.slice avU (natL U).length cvU)) rfl rfl) rfl (FIN.out _ _ (ResR.yes hV'.out hU'.out hok.out ((oi_set3 O1 y0).mono (Nat.le_of_lt y0)) ((oi_set3 O2 y1).mono (Nat.le_of_lt y1)) sp) (below_set (below_set (below_set hB (Nat.le_refl _) _) (Nat.le_refl _) _) (Nat.le_refl _) _))
  · rw [hb] at FA
    have hl0 := rst_min hb
    rw [hr] at hl0
    have hl1 : 0 < l.length := by rw [hl0]; simp
    have ix0 := idxS0 Tryz.underlying9 (bt l) (by rw [bt_size]; exact hl1)
    rw [show byt (bt l) 0 = 45 by rw [byt_bt, hl0]; rfl] at ix0
    have s0 := slFrom l 1 (by omega)
    rw [show l.drop 1 = r by rw [hl0]; rfl, show ((1 : Nat) : Int) = 1 from rfl] at s0
    have hI : (0 : Int) < (l.length : Int) := by omega
    have hI2 : (l.length : Int) ≤ 1048576 := by omega
    clear hr hb hl0
    go_enter Tryz.func5, Tryz.ntmps5
    generalize hW0 : w.alloc (.cells #[.bool false, .slice none 0 0, .slice none 0 0] 24) = WX at *
    go_wp2_with fail
    clear hW0 hI hI2 hl1 ix0 s0
    go_loopw [5, 6, 7] (fun a5 a6 i wr => ∃ k : Nat, k ≤ r.length ∧ a5 = .string (bt r) ∧ a6 = .string ⟨#[49]⟩ ∧ i = .int .i64 (k : Int) ∧ (∀ j, j < k → r.getD j 0 ≠ 47) ∧ wr = WX) (fun _ _ i _ => r.length - (Lib.intOf i).toNat)
    case atStart => exact ⟨0, by omega, rfl, rfl, rfl, fun j hj => by omega, rfl⟩
    case round =>
      obtain ⟨k, hk, rfl, rfl, rfl, hj, rfl⟩ := hrel
      by_cases hlt : k < r.length
      · have ix := idxS Tryz.underlying9 (bt r) k (by rw [bt_size]; exact hlt)
        rw [byt_bt] at ix
        have hkI : (k : Int) < (r.length : Int) := by omega
        have hkI2 : (r.length : Int) ≤ 1048576 := by omega
        by_cases h47 : r.getD k 0 = 47
        · have hq := stk_at r k hlt hj h47
          rw [h47, show ((47 : UInt8).toNat : Int) = 47 from rfl] at ix
          have s1 := slTo r k (by omega)
          have s2 := slFrom1 r k (by omega)
          obtain ⟨st, hst0⟩ : ∃ st, st = true := ⟨_, rfl⟩
          obtain ⟨t, ht0⟩ : ∃ t, t = r.take k := ⟨_, rfl⟩
          obtain ⟨u, hu0⟩ : ∃ u, u = r.drop (k + 1) := ⟨_, rfl⟩
          have FIN := hd (FA.out st t u (by rw [hst0, ht0, hu0]; exact partsR_at hq))
          have hlt' : t.length ≤ 1048576 := by rw [ht0, List.length_take]; omega
          have hlu : u.length ≤ 1048576 := by rw [hu0, List.length_drop]; omega
          rw [← ht0] at s1
          rw [← hu0] at s2
          by_cases hu : u = [49]
          · have hno : Hid (okR true st t u = false) := by show _ = _; rw [hst0, hu]; exact okR_one
            have e9 : ((bt u).toList == [49]) = true := by rw [hu, ByteArray.toList_eq]; rfl
            clear hq hj h47 hst0 ht0 hu0 hu
            obtain ⟨m1, ⟨m2, m3, m4⟩, m5, m6, m7⟩ := id K2
            go_wp2
            refine bodyPost_ret (resSR (K2.setAll (.bool false) (.slice none 0 0) (.slice none 0 0)) rfl rfl) rfl (FIN.out _ _ (ResR.no hno.out) (below_set (below_set (below_set hB (Nat.le_refl _) _) (Nat.le_refl _) _) (Nat.le_refl _) _))
          · have e9 : ((bt u).toList == [49]) = false := by
              rw [beq_eq_false_iff_ne, ByteArray.toList_eq]
              simpa [bt] using hu
            have HS : Hid (rdB (bt u) = true → (st && decide (nv (bt u) u.length = 1)) = false) := fun h => by
              have := nv_not1 h hu
              simp [this]
            have S1 := hd (fun w' => sNatRead (bt t) (sp_len t hlt') w')
            have S2 := hd (fun w' => sNatRead (bt u) (sp_len u hlu) w')
            clear hq hj h47 hst0 ht0 hu0 hu FA
            cases h1 : rdB (bt t)
            · have hno := hd (okR_no1 (b := true) (st := st) (u := u) h1)
              rw [h1] at S1
              clear h1
              generalize rdB (bt u) = r2 at *
              generalize resN r2 (nv (bt u) (bt u).size) = qu at *
              go_wp2_with fail
              have y0 := K2.1
              refine (S1.out _).mono ?_
              rintro e v1 ⟨⟨avT, cvT, rfl, O1⟩, hc1⟩
              replace K2 := K2.old hc1
              replace hB := old_trans hB hc1
              have z1 := O1.lt
              have z1' := hc1.size
              have y1 := K2.1
              go_wp2_with fail
              refine (S2.out _).mono ?_
              rintro e v2 ⟨⟨avU, cvU, rfl, O2⟩, hc2⟩
              replace K2 := K2.old hc2
              replace hB := old_trans hB hc2
              replace O1 := O1.later hc2
              have z2' := hc2.size
              obtain ⟨m1, ⟨m2, m3, m4⟩, m5, m6, m7⟩ := id K2
              go_wp2
              refine bodyPost_ret (resSR ((K2.setAll (.bool false) (.slice none 0 0) (.slice none 0 0)).old (old_alloc (Below.refl _ _) (.cells #[.bool true, .slice avT 0 cvT, .slice avU qu.length cvU] 24))) rfl rfl) rfl (FIN.out _ _ (ResR.no hno.out) (old_alloc (below_set (below_set (below_set hB (Nat.le_refl _) _) (Nat.le_refl _) _) (Nat.le_refl _) _) _))
            cases h2 : rdB (bt u)
            · have hno := hd (okR_no2 (b := true) (st := st) (t := t) h2)
              rw [h1] at S1
              rw [h2] at S2
              clear h1 h2
              generalize resN true (nv (bt t) (bt t).size) = qt at *
              go_wp2_with fail
              have y0 := K2.1
              refine (S1.out _).mono ?_
              rintro e v1 ⟨⟨avT, cvT, rfl, O1⟩, hc1⟩
              replace K2 := K2.old hc1
              replace hB := old_trans hB hc1
              have z1 := O1.lt
              have z1' := hc1.size
              have y1 := K2.1
              go_wp2_with fail
              refine (S2.out _).mono ?_
              rintro e v2 ⟨⟨avU, cvU, rfl, O2⟩, hc2⟩
              replace K2 := K2.old hc2
              replace hB := old_trans hB hc2
              replace O1 := O1.later hc2
              have z2' := hc2.size
              obtain ⟨m1, ⟨m2, m3, m4⟩, m5, m6, m7⟩ := id K2
              go_wp2
              refine bodyPost_ret (resSR ((K2.setAll (.bool false) (.slice none 0 0) (.slice none 0 0)).old (old_alloc (Below.refl _ _) (.cells #[.bool true, .slice avT qt.length cvT, .slice avU 0 cvU] 24))) rfl rfl) rfl (FIN.out _ _ (ResR.no hno.out) (old_alloc (below_set (below_set (below_set hB (Nat.le_refl _) _) (Nat.le_refl _) _) (Nat.le_refl _) _) _))
            have hyes := hd (okR_yes (b := true) (st := st) h1 h2)
            have hno3 := hd (okR_no3 (b := true) (st := st) (t := t) (u := u))
            have hst1 := hd (HS.out h2)
            rw [h1] at S1
            rw [h2] at S2
            clear h1 h2
            obtain ⟨V, hV⟩ : ∃ V, nv (bt t) t.length = V := ⟨_, rfl⟩
            obtain ⟨U, hU⟩ : ∃ U, nv (bt u) u.length = U := ⟨_, rfl⟩
            rw [bt_size, hV, show resN true V = natL V from rfl] at S1
            rw [bt_size, hU, show resN true U = natL U from rfl] at S2
            have hV' := hd hV
            have hU' := hd hU
            rw [hV, hU] at hyes hno3
            rw [hU] at hst1
            clear hV hU
            go_wp2_with fail
            have y0 := K2.1
            refine (S1.out _).mono ?_
            rintro e v1 ⟨⟨avT, cvT, rfl, O1⟩, hc1⟩
            replace K2 := K2.old hc1
            replace hB := old_trans hB hc1
            have z1 := O1.lt
            have z1' := hc1.size
            have y1 := K2.1
            go_wp2_with fail
            refine (S2.out _).mono ?_
            rintro e v2 ⟨⟨avU, cvU, rfl, O2⟩, hc2⟩
            replace K2 := K2.old hc2
            replace hB := old_trans hB hc2
            replace O1 := O1.later hc2
            have z2' := hc2.size
            have K3 := Cel3.new v2 (.bool true) (.slice avT (natL V).length cvT) (.slice avU (natL U).length cvU) 24
            have hal : Below v2.heap.size v2 (v2.alloc (.cells #[.bool true, .slice avT (natL V).length cvT, .slice avU (natL U).length cvU] 24)) := old_alloc (Below.refl _ _) _
            replace K2 := K2.old hal
            replace hB := old_trans hB hal
            replace O1 := O1.later hal
            replace O2 := O2.later hal
            have FO := hd (sFracOk true avT avU _ _ cvT cvU (natL V) (natL U) _ O1.inI O2.inI)
            cases hf : fracOk true (natL V) (natL U)
            · have hno := hd (hno3.out (by rw [hf]; rfl))
              rw [hf] at FO
              clear hf
              obtain ⟨k1, ⟨k2, k3, k4⟩, -⟩ := id K3
              go_wp2_with fail
              refine FO.out.mono ?_
              rintro e v3 ⟨rfl, hc3⟩
              replace K2 := K2.old hc3
              replace hB := old_trans hB hc3
              obtain ⟨m1, ⟨m2, m3, m4⟩, m5, m6, m7⟩ := id K2
              go_wp2
              refine bodyPost_ret (resSR (K2.setAll (.bool false) (.slice none 0 0) (.slice none 0 0)) rfl rfl) rfl (FIN.out _ _ (ResR.no hno.out) (below_set (below_set (below_set hB (Nat.le_refl _) _) (Nat.le_refl _) _) (Nat.le_refl _) _))
            have hok := hd (hyes.out (by rw [hf, hst1.out]; rfl))
            rw [hf] at FO
            clear hf
            obtain ⟨k1, ⟨k2, k3, k4⟩, -⟩ := id K3
            go_wp2_with fail
            refine FO.out.mono ?_
            rintro e v3 ⟨rfl, hc3⟩
            replace K2 := K2.old hc3
            replace hB := old_trans hB hc3
            replace O1 := O1.later hc3
            replace O2 := O2.later hc3
            replace K3 := K3.old hc3
            clear k1 k2 k3 k4
            obtain ⟨k1, ⟨k2, k3, k4⟩, -⟩ := id K3
            obtain ⟨m1, ⟨m2, m3, m4⟩, m5, m6, m7⟩ := id K2
            have sp : Sep avT avU := fun p q e1 e2 => by have h1 := z1 p e1; have h2 := O2.ge q e2; omega
            go_wp2
            refine bodyPost_ret (resSR (K2.setAll (.bool true) (.slice avT (natL V).length cvT) (.slice avU (natL U).length cvU)) rfl rfl) rfl (FIN.out _ _ (ResR.yes hV'.out hU'.out hok.out ((oi_set3 O1 y0).mono (Nat.le_of_lt y0)) ((oi_set3 O2 y1).mono (Nat.le_of_lt y1)) sp) (below_set (below_set (below_set hB (Nat.le_refl _) _) (Nat.le_refl _) _) (Nat.le_refl _) _))
        · have hne : ¬ (((r.getD k 0).toNat : Int) = 47) := fun e => h47 (by
            apply UInt8.toNat_inj.1
            show (r.getD k 0).toNat = 47
            omega)
          have hj' : Hid (∀ j, j < k + 1 → r.getD j 0 ≠ 47) := fun j hj1 => by
            by_cases e : j = k
            · subst e; exact h47
            · exact hj j (by omega)
          have bd : ((r.getD k 0).toNat : Int) ≤ 255 := by have := (r.getD k 0).toNat_lt; omega
          generalize ((r.getD k 0).toNat : Int) = by_ at *
          have hneb : (by_ == 47) = false := by simpa using hne
          clear hj h47 FA K2 hB
          go_wp2
          go_roundw
          case rel => exact ⟨k + 1, by omega, rfl, rfl, by go_num, hj'.out, by first | rfl | trivial⟩
          case measure => simp [Lib.intOf]; omega
      · obtain rfl : k = r.length := by omega
        have hq := stk_no r hj
        obtain ⟨st, hst0⟩ : ∃ st, st = false := ⟨_, rfl⟩
        obtain ⟨t, ht0⟩ : ∃ t, t = r := ⟨_, rfl⟩
        obtain ⟨u, hu0⟩ : ∃ u, u = ([49] : List UInt8) := ⟨_, rfl⟩
        have FIN := hd (FA.out st t u (by rw [hst0, ht0, hu0]; exact partsR_no hq))
        have e49 : (⟨#[49]⟩ : ByteArray) = bt u := by rw [hu0]; rfl
        have hlt' : t.length ≤ 1048576 := by rw [ht0]; omega
        have hlu : u.length ≤ 1048576 := by rw [hu0]; simp
        have HS : Hid (rdB (bt u) = true → (st && decide (nv (bt u) u.length = 1)) = false) := fun _ => by rw [hst0]; rfl
        have S1 := hd (fun w' => sNatRead (bt t) (sp_len t hlt') w')
        have S2 := hd (fun w' => sNatRead (bt u) (sp_len u hlu) w')
        rw [e49, ← ht0]
        clear hq hj FA hst0 hu0 e49 hlt ht0
        have hszt := bt_size t
        have hni : ¬ ((t.length : Int) < (t.length : Int)) := by omega
        cases h1 : rdB (bt t)
        · have hno := hd (okR_no1 (b := true) (st := st) (u := u) h1)
          rw [h1] at S1
          clear h1
          generalize rdB (bt u) = r2 at *
          generalize resN r2 (nv (bt u) (bt u).size) = qu at *
          go_wp2_with fail
          have y0 := K2.1
          refine (S1.out _).mono ?_
          rintro e v1 ⟨⟨avT, cvT, rfl, O1⟩, hc1⟩
          replace K2 := K2.old hc1
          replace hB := old_trans hB hc1
          have z1 := O1.lt
          have z1' := hc1.size
          have y1 := K2.1
          go_wp2_with fail
          refine (S2.out _).mono ?_
          rintro e v2 ⟨⟨avU, cvU, rfl, O2⟩, hc2⟩
          replace K2 := K2.old hc2
          replace hB := old_trans hB hc2
          replace O1 := O1.later hc2
          have z2' := hc2.size
          obtain ⟨m1, ⟨m2, m3, m4⟩, m5, m6, m7⟩ := id K2
          go_wp2
          refine bodyPost_ret (resSR ((K2.setAll (.bool false) (.slice none 0 0) (.slice none 0 0)).old (old_alloc (Below.refl _ _) (.cells #[.bool true, .slice avT 0 cvT, .slice avU qu.length cvU] 24))) rfl rfl) rfl (FIN.out _ _ (ResR.no hno.out) (old_alloc (below_set (below_set (below_set hB (Nat.le_refl _) _) (Nat.le_refl _) _) (Nat.le_refl _) _) _))
        cases h2 : rdB (bt u)
        · have hno := hd (okR_no2 (b := true) (st := st) (t := t) h2)
          rw [h1] at S1
          rw [h2] at S2
          clear h1 h2
          generalize resN true (nv (bt t) (bt t).size) = qt at *
          go_wp2_with fail
          have y0 := K2.1
          refine (S1.out _).mono ?_
          rintro e v1 ⟨⟨avT, cvT, rfl, O1⟩, hc1⟩
          replace K2 := K2.old hc1
          replace hB := old_trans hB hc1
          have z1 := O1.lt
          have z1' := hc1.size
          have y1 := K2.1
          go_wp2_with fail
          refine (S2.out _).mono ?_
          rintro e v2 ⟨⟨avU, cvU, rfl, O2⟩, hc2⟩
          replace K2 := K2.old hc2
          replace hB := old_trans hB hc2
          replace O1 := O1.later hc2
          have z2' := hc2.size
          obtain ⟨m1, ⟨m2, m3, m4⟩, m5, m6, m7⟩ := id K2
          go_wp2
          refine bodyPost_ret (resSR ((K2.setAll (.bool false) (.slice none 0 0) (.slice none 0 0)).old (old_alloc (Below.refl _ _) (.cells #[.bool true, .slice avT qt.length cvT, .slice avU 0 cvU] 24))) rfl rfl) rfl (FIN.out _ _ (ResR.no hno.out) (old_alloc (below_set (below_set (below_set hB (Nat.le_refl _) _) (Nat.le_refl _) _) (Nat.le_refl _) _) _))
        have hyes := hd (okR_yes (b := true) (st := st) h1 h2)
        have hno3 := hd (okR_no3 (b := true) (st := st) (t := t) (u := u))
        have hst1 := hd (HS.out h2)
        rw [h1] at S1
        rw [h2] at S2
        clear h1 h2
        obtain ⟨V, hV⟩ : ∃ V, nv (bt t) t.length = V := ⟨_, rfl⟩
        obtain ⟨U, hU⟩ : ∃ U, nv (bt u) u.length = U := ⟨_, rfl⟩
        rw [bt_size, hV, show resN true V = natL V from rfl] at S1
        rw [bt_size, hU, show resN true U = natL U from rfl] at S2
        have hV' := hd hV
        have hU' := hd hU
        rw [hV, hU] at hyes hno3
        rw [hU] at hst1
        clear hV hU
        go_wp2_with fail
        have y0 := K2.1
        refine (S1.out _).mono ?_
        rintro e v1 ⟨⟨avT, cvT, rfl, O1⟩, hc1⟩
        replace K2 := K2.old hc1
        replace hB := old_trans hB hc1
        have z1 := O1.lt
        have z1' := hc1.size
        have y1 := K2.1
        go_wp2_with fail
        refine (S2.out _).mono ?_
        rintro e v2 ⟨⟨avU, cvU, rfl, O2⟩, hc2⟩
        replace K2 := K2.old hc2
        replace hB := old_trans hB hc2
        replace O1 := O1.later hc2
        have z2' := hc2.size
        have K3 := Cel3.new v2 (.bool true) (.slice avT (natL V).length cvT) (.slice avU (natL U).length cvU) 24
        have hal : Below v2.heap.size v2 (v2.alloc (.cells #[.bool true, .slice avT (natL V).length cvT, .slice avU (natL U).length cvU] 24)) := old_alloc (Below.refl _ _) _
        replace K2 := K2.old hal
        replace hB := old_trans hB hal
        replace O1 := O1.later hal
        replace O2 := O2.later hal
        have FO := hd (sFracOk true avT avU _ _ cvT cvU (natL V) (natL U) _ O1.inI O2.inI)
        cases hf : fracOk true (natL V) (natL U)
        · have hno := hd (hno3.out (by rw [hf]; rfl))
          rw [hf] at FO
          clear hf
          obtain ⟨k1, ⟨k2, k3, k4⟩, -⟩ := id K3
          go_wp2_with fail
          refine FO.out.mono ?_
          rintro e v3 ⟨rfl, hc3⟩
          replace K2 := K2.old hc3
          replace hB := old_trans hB hc3
          obtain ⟨m1, ⟨m2, m3, m4⟩, m5, m6, m7⟩ := id K2
          go_wp2
          refine bodyPost_ret (resSR (K2.setAll (.bool false) (.slice none 0 0) (.slice none 0 0)) rfl rfl) rfl (FIN.out _ _ (ResR.no hno.out) (below_set (below_set (below_set hB (Nat.le_refl _) _) (Nat.le_refl _) _) (Nat.le_refl _) _))
        have hok := hd (hyes.out (by rw [hf, hst1.out]; rfl))
        rw [hf] at FO
        clear hf
        obtain ⟨k1, ⟨k2, k3, k4⟩, -⟩ := id K3
        go_wp2_with fail
        refine FO.out.mono ?_
        rintro e v3 ⟨rfl, hc3⟩
        replace K2 := K2.old hc3
        replace hB := old_trans hB hc3
        replace O1 := O1.later hc3
        replace O2 := O2.later hc3
        replace K3 := K3.old hc3
        clear k1 k2 k3 k4
        obtain ⟨k1, ⟨k2, k3, k4⟩, -⟩ := id K3
        obtain ⟨m1, ⟨m2, m3, m4⟩, m5, m6, m7⟩ := id K2
        have sp : Sep avT avU := fun p q e1 e2 => by have h1 := z1 p e1; have h2 := O2.ge q e2; omega
        go_wp2
        refine bodyPost_ret (resSR (K2.setAll (.bool true) (.slice avT (natL V).length cvT) (.slice avU (natL U).length cvU)) rfl rfl) rfl (FIN.out _ _ (ResR.yes hV'.out hU'.out hok.out ((oi_set3 O1 y0).mono (Nat.le_of_lt y0)) ((oi_set3 O2 y1).mono (Nat.le_of_lt y1)) sp) (below_set (below_set (below_set hB (Nat.le_refl _) _) (Nat.le_refl _) _) (Nat.le_refl _) _))
end Go.Proofs.YtlfaiekcmflgnaaGreatDoor
