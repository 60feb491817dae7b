/- The text of a term, by the specification: calls. Nothing that was there is written. -/
import Derived.Test.YtknibhdnbkmkiaaDoorPK11
namespace Go.Proofs.YtknibhdnbkmkiaaDoor
open Go.RowKit
set_option linter.unusedVariables false
set_option maxRecDepth 100000

set_option maxRecDepth 100000 in
set_option maxHeartbeats 4000000 in
theorem sShow_9 {xs : List Tn} (hok : okT xs = true) (a : Option Addr) (len cap e : Nat) (w : World) (hR : InN w a len cap xs) (he : e < len) (n : Int) (s : ByteArray) (hx : xs.getD e tn0 = ⟨9, n, s⟩) (lv : Int) (hge : ¬ (5 < lv)) (REC : Hid (∀ q, q < e → ∀ (l : Int), 1 ≤ l → l ≤ 5 → ∀ w1, Below w.heap.size w w1 → Calls Tryd.prog 11 #[.agg #[.slice a len cap], .int .i64 (q : Int), .int .i64 l] w1 fun ev w2 => ev = .returned (.string (atT (l - 1) (tr xs q).tx)) ∧ Below w1.heap.size w1 w2)) :
    Calls Tryd.prog 11 #[.agg #[.slice a len cap], .int .i64 (e : Int), .int .i64 lv] w fun ev w' => ev = .returned (.string (tr xs e).txt) ∧ Below w.heap.size w w' := by
  have hlv : decide (5 < lv) = false := decide_eq_false hge
  have hsz := tr_size hok (e := e) (by have := hR.1; omega)
  have hpl := prts_len hok (e := e) (by have := hR.1; omega)
  have hac := ac_cnt (x := xs.getD e tn0) (by omega)
  rw [hx] at hpl hac
  rw [txt_e, hx] at hsz ⊢
  have hlt := hd (fun i h => prts_lt (xs := xs) (k := e) (i := i) h)
  have hmx : (prts xs e).length ≤ 6 := by have := hac.2.1 (by simp); omega
  rw [tx_own (wd := ⟨#[115, 113, 114, 116]⟩) rfl] at hsz ⊢
  have hll : (((prts xs e).map (tr xs)).map Tr.tx).length = (prts xs e).length := by simp
  rw [hll] at hsz ⊢
  have hfe := fun i (h : i < (prts xs e).length) => show atT 0 ((((prts xs e).map (tr xs)).map Tr.tx).getD i tx0) = atT 0 (tr xs ((prts xs e).getD i 0)).tx by rw [tx_at h]
  generalize hf0 : (fun i => atT 0 ((((prts xs e).map (tr xs)).map Tr.tx).getD i tx0)) = f at *
  have hfe' : Hid (∀ i, i < (prts xs e).length → f i = atT 0 (tr xs ((prts xs e).getD i 0)).tx) := fun i h => by rw [← hf0]; exact hfe i h
  have R0 := hd (fun i (h : i < (prts xs e).length) => REC.out _ (hlt.out i h) 1 (by decide) (by decide))
  rw [show (1 : Int) - 1 = 0 from rfl] at R0
  rw [ByteArray.size_append, ByteArray.size_append, ByteArray.size_append] at hsz
  have e1 : (⟨#[40]⟩ : ByteArray).size = 1 := rfl
  have e2 : (⟨#[41]⟩ : ByteArray).size = 1 := rfl
  have e3 : (⟨#[44, 32]⟩ : ByteArray).size = 2 := rfl
  obtain ⟨G, hG⟩ : ∃ G : ByteArray, G = (⟨#[115, 113, 114, 116]⟩ : ByteArray) ++ ⟨#[40]⟩ := ⟨_, rfl⟩
  have hGz : G.size + (accJ f (prts xs e).length).size ≤ 10000 := by rw [hG, ByteArray.size_append]; omega
  have y0 : ∀ W : World, (Op.stringOp .add ⟨#[115, 113, 114, 116]⟩ ⟨#[40]⟩).run Tryd.prog W = .ok (.string G) W := fun W => by rw [hG]; exact run_string_add_sum W _ _ (by omega)
  rw [← hG]
  clear hG hf0 hfe hge hac hpl hlt REC hsz
  have hFle := hd (fun i (h : i ≤ (prts xs e).length) => acc_up f h)
  have hfle := hd (fun i (h : i < (prts xs e).length) => acc_ge f h)
  have hF : ∃ F : Nat → ByteArray, ∀ i, F i = G ++ accJ f i := ⟨_, fun _ => rfl⟩
  obtain ⟨F, hF⟩ := hF
  have hFz : Hid (∀ i, i ≤ (prts xs e).length → (F i).size ≤ 10000) := fun i h => by rw [hF, ByteArray.size_append]; have := hFle.out i h; omega
  have hfz : Hid (∀ i, i < (prts xs e).length → (f i).size ≤ 10000) := fun i h => by have := hfle.out i h; omega
  have hF0 : Hid (F 0 = G) := by show _ = _; rw [hF]; exact app_nil G
  have hF1 : Hid (F 1 = F 0 ++ f 0) := by show _ = _; rw [hF, hF]; show G ++ f 0 = G ++ ⟨#[]⟩ ++ f 0; rw [app_nil]
  have hFs : Hid (∀ i, 0 < i → F (i + 1) = F i ++ ⟨#[44, 32]⟩ ++ f i) := fun i h => by rw [hF, hF, acc_succ f h, app_four]
  have hFm : Hid (G ++ accJ f (prts xs e).length = F (prts xs e).length) := by show _ = _; rw [hF]
  rw [hFm.out]
  obtain ⟨res, hres⟩ : ∃ res, F (prts xs e).length ++ ⟨#[41]⟩ = res := ⟨_, rfl⟩
  rw [hres]
  replace hres := hd hres
  clear hF hFm hFle hfle hGz
  have K0 := CS.made w _ rfl #[.slice a len cap] 29
  have hBB : Below w.heap.size w (w.alloc (.cells #[.slice a len cap] 29)) := old_alloc (Below.refl _ _) _
  have PT := hd (fun w' (h : Below w.heap.size w w') => sParts a len cap xs e w' (hR.old h) hok he)
  have hp := hR.1
  have hl := (okT_in hok).1
  have LV := hd (sLv_9 n s)
  obtain ⟨b, off, x0, y0, s0, rfl, hbl, hx', hf, c0, c1, c2⟩ := (hR.old hBB).at he
  rw [hx] at hx'
  injection hx' with q1 q2 q3
  subst q1 q2 q3
  have K1 := CS.made (w.alloc (.cells #[.slice (some ⟨b, off, none⟩) len cap] 29)) (w.heap.size + 1) (by simp) #[.int .i64 9, .int .i64 n, .string s] 48
  have hB1 := old_alloc hBB (.cells #[.int .i64 9, .int .i64 n, .string s] 48)
  have m0 := K0.cell 0 _ rfl
  replace K0 := K0.alloc (.cells #[.int .i64 9, .int .i64 n, .string s] 48)
  have heI : (0 : Int) ≤ (e : Int) := by omega
  have heJ : (e : Int) < (len : Int) := by omega
  clear hR hok hx hf hbl hp hl he
  go_enter Tryd.func11, Tryd.ntmps11
  go_wp2_with fail
  generalize (w.alloc (.cells #[.slice (some ⟨b, off, none⟩) len cap] 29)).alloc (.cells #[.int .i64 9, .int .i64 n, .string s] 48) = W1 at *
  clear m0 c0 c1 c2
  refine (LV.out _).mono ?_
  rintro ev w2 ⟨rfl, hb2⟩
  replace K0 := K0.later hb2
  replace K1 := K1.later hb2
  have hB2 := old_trans hB1 hb2
  have m0 := K0.cell 0 _ rfl
  have n0 := K1.cell 0 _ rfl
  have n1 := K1.cell 1 _ rfl
  have n2 := K1.cell 2 _ rfl
  clear LV hb2 hB1 hBB
  go_wp2_with fail
  refine (PT.out _ (by with_reducible first | exact hB2 | exact hB2.drew)).mono ?_
  rintro ev w3 ⟨⟨av, cv, rfl, hO⟩, hb3⟩
  clear m0 n0 n1 n2 PT
  replace K0 := (by with_reducible first | exact K0.later hb3 | exact K0.drew.later hb3 : CS w3 _ _)
  replace K1 := (by with_reducible first | exact K1.later hb3 | exact K1.drew.later hb3 : CS w3 _ _)
  have hB3 := (by with_reducible first | exact old_trans hB2 hb3 | exact old_trans hB2.drew hb3 : Below w.heap.size w w3)
  clear hb3 hB2
  have m0 := K0.cell 0 _ rfl
  have n0 := K1.cell 0 _ rfl
  have n1 := K1.cell 1 _ rfl
  have n2 := K1.cell 2 _ rfl
  have hPO := hd (fun i (h : i < (prts xs e).length) => (OI.inI hO).at (k := i) (by rw [iz_len]; exact h))
  have hPI := hd (fun i (h : i < (prts xs e).length) => iz_getD (prts xs e) i h)
  clear hO
  generalize hPL : (prts xs e).length = PL at *
  go_wp2_with fail
  go_loopw [10, 11] (fun o i wr => ∃ (j : Nat), j ≤ PL ∧ i = .int .i64 j ∧ o = .string (F j) ∧ Below w3.heap.size w3 wr) (fun _ i _ => PL - (intOf i).toNat)
  case atStart => exact ⟨0, by omega, rfl, by rw [hF0.out], Below.refl _ _⟩
  case round =>
    obtain ⟨j, hj, rfl, rfl, hc⟩ := hrel
    have m0 := (K0.later hc).cell 0 _ rfl
    by_cases hlt : j < PL
    · obtain ⟨bq, oq, Q, rfl, hbq, hQ, -, dQ⟩ := hPO.out j hlt
      rw [hPI.out j hlt] at hQ
      subst hQ
      have RJ := hd (R0.out j hlt)
      have hfj := hfe'.out j hlt
      rw [← hfj] at RJ
      have hzj := hFz.out j hj
      have hzf := hfz.out j hlt
      have cQ := (hc.cell (p := ⟨bq, oq + j, none⟩) hbq).trans dQ
      generalize (prts xs e).getD j 0 = p0 at *
      have hjI : (j : Int) < (PL : Int) := by omega
      have hjI0 : (0 : Int) ≤ (j : Int) := by omega
      by_cases hj0 : j = 0
      · subst hj0
        have d0 : decide ((0 : Int) < ((0 : Nat) : Int)) = false := by decide
        have hnx := hd hF1.out
        have y1 : ∀ W : World, (Op.stringOp .add (F 0) (f 0)).run Tryd.prog W = .ok (.string (F 0 ++ f 0)) W := fun W => run_string_add_sum W _ _ (by omega)
        rw [Nat.add_zero] at cQ dQ
        clear hfj hzj hzf hF0 hF1 hFs hFz hfz hfe' R0 hPO hPI
        generalize F 0 = F0 at *
        generalize f 0 = f0 at *
        go_upto_region 37 with fail
        go_region_held3 (fun w'' => w''.cell? ⟨w.heap.size, 0, none⟩ = some (.slice (some ⟨b, off, none⟩) len cap) ∧ w''.cell? ⟨bq, oq, none⟩ = some (.int .i64 (p0 : Int))) (go_keep) (first | (go_at_call 11; refine (RJ.out _ (old_trans hB3 (by with_reducible first | exact hc | exact Below.drew hc | exact old_alloc hc _ | exact old_alloc (Below.drew hc) _ | exact Below.drew (old_alloc hc _)))).mono ?_; rintro ev wx ⟨rfl, hbx⟩; have hc := (by with_reducible first | exact old_trans hc hbx | exact old_trans (Below.drew hc) hbx : Below w3.heap.size w3 wx); have m0 := (K0.later hc).cell 0 _ rfl; have cQ := (hc.cell (p := ⟨bq, oq, none⟩) hbq).trans dQ))
        all_goals
          go_wp2
          go_roundw
          case rel => exact ⟨1, by omega, by go_num, by rw [hnx.out], (by with_reducible first | exact hc | exact Below.drew hc | exact old_alloc hc _ | exact old_alloc (Below.drew hc) _ | exact Below.drew (old_alloc hc _))⟩
          case measure => simp [intOf]; omega
      · have d0 : decide ((0 : Int) < (j : Int)) = true := decide_eq_true (by omega)
        have hnx := hd (hFs.out j (by omega))
        have z1 : (F j ++ ⟨#[44, 32]⟩ : ByteArray).size = (F j).size + 2 := by rw [ByteArray.size_append]; rfl
        have y1 : ∀ W : World, (Op.stringOp .add (F j) ⟨#[44, 32]⟩).run Tryd.prog W = .ok (.string (F j ++ ⟨#[44, 32]⟩)) W := fun W => run_string_add_sum W _ _ (by omega)
        have y2 : ∀ W : World, (Op.stringOp .add (F j ++ ⟨#[44, 32]⟩) (f j)).run Tryd.prog W = .ok (.string (F j ++ ⟨#[44, 32]⟩ ++ f j)) W := fun W => run_string_add_sum W _ _ (by omega)
        clear hfj hzj hzf hF0 hF1 hFs hFz hfz hfe' R0 hPO hPI z1
        generalize F j = F0 at *
        generalize f j = f0 at *
        go_upto_region 37 with fail
        go_region_held3 (fun w'' => w''.cell? ⟨w.heap.size, 0, none⟩ = some (.slice (some ⟨b, off, none⟩) len cap) ∧ w''.cell? ⟨bq, oq + j, none⟩ = some (.int .i64 (p0 : Int))) (go_keep) (first | (go_at_call 11; refine (RJ.out _ (old_trans hB3 (by with_reducible first | exact hc | exact Below.drew hc | exact old_alloc hc _ | exact old_alloc (Below.drew hc) _ | exact Below.drew (old_alloc hc _)))).mono ?_; rintro ev wx ⟨rfl, hbx⟩; have hc := (by with_reducible first | exact old_trans hc hbx | exact old_trans (Below.drew hc) hbx : Below w3.heap.size w3 wx); have m0 := (K0.later hc).cell 0 _ rfl; have cQ := (hc.cell (p := ⟨bq, oq + j, none⟩) hbq).trans dQ))
        all_goals
          go_wp2
          go_roundw
          case rel => exact ⟨j + 1, by omega, by go_num, by rw [hnx.out], (by with_reducible first | exact hc | exact Below.drew hc | exact old_alloc hc _ | exact old_alloc (Below.drew hc) _ | exact Below.drew (old_alloc hc _))⟩
          case measure => simp [intOf]; omega
    · obtain rfl : j = PL := by omega
      have hni : ¬ ((j : Int) < (j : Int)) := by omega
      have hzj := hFz.out j hj
      have y1 : ∀ W : World, (Op.stringOp .add (F j) ⟨#[41]⟩).run Tryd.prog W = .ok (.string (F j ++ ⟨#[41]⟩)) W := fun W => run_string_add_sum W _ _ (by omega)
      clear hzj hF0 hF1 hFs hFz hfz hfe' R0 hPO hPI
      generalize F j = F0 at *
      go_wp2
      go_ret
      exact ⟨congrArg (fun x => Ending.returned (.string x)) hres.out, old_trans hB3 hc⟩
set_option maxRecDepth 100000 in
set_option maxHeartbeats 4000000 in
theorem sShow_10 {xs : List Tn} (hok : okT xs = true) (a : Option Addr) (len cap e : Nat) (w : World) (hR : InN w a len cap xs) (he : e < len) (n : Int) (s : ByteArray) (hx : xs.getD e tn0 = ⟨10, n, s⟩) (lv : Int) (hge : ¬ (5 < lv)) (REC : Hid (∀ q, q < e → ∀ (l : Int), 1 ≤ l → l ≤ 5 → ∀ w1, Below w.heap.size w w1 → Calls Tryd.prog 11 #[.agg #[.slice a len cap], .int .i64 (q : Int), .int .i64 l] w1 fun ev w2 => ev = .returned (.string (atT (l - 1) (tr xs q).tx)) ∧ Below w1.heap.size w1 w2)) :
    Calls Tryd.prog 11 #[.agg #[.slice a len cap], .int .i64 (e : Int), .int .i64 lv] w fun ev w' => ev = .returned (.string (tr xs e).txt) ∧ Below w.heap.size w w' := by
  have hlv : decide (5 < lv) = false := decide_eq_false hge
  have hsz := tr_size hok (e := e) (by have := hR.1; omega)
  have hpl := prts_len hok (e := e) (by have := hR.1; omega)
  have hac := ac_cnt (x := xs.getD e tn0) (by omega)
  rw [hx] at hpl hac
  rw [txt_e, hx] at hsz ⊢
  have hlt := hd (fun i h => prts_lt (xs := xs) (k := e) (i := i) h)
  have hmx : (prts xs e).length ≤ 6 := by have := hac.2.1 (by simp); omega
  rw [tx_own (wd := ⟨#[97, 98, 115]⟩) rfl] at hsz ⊢
  have hll : (((prts xs e).map (tr xs)).map Tr.tx).length = (prts xs e).length := by simp
  rw [hll] at hsz ⊢
  have hfe := fun i (h : i < (prts xs e).length) => show atT 0 ((((prts xs e).map (tr xs)).map Tr.tx).getD i tx0) = atT 0 (tr xs ((prts xs e).getD i 0)).tx by rw [tx_at h]
  generalize hf0 : (fun i => atT 0 ((((prts xs e).map (tr xs)).map Tr.tx).getD i tx0)) = f at *
  have hfe' : Hid (∀ i, i < (prts xs e).length → f i = atT 0 (tr xs ((prts xs e).getD i 0)).tx) := fun i h => by rw [← hf0]; exact hfe i h
  have R0 := hd (fun i (h : i < (prts xs e).length) => REC.out _ (hlt.out i h) 1 (by decide) (by decide))
  rw [show (1 : Int) - 1 = 0 from rfl] at R0
  rw [ByteArray.size_append, ByteArray.size_append, ByteArray.size_append] at hsz
  have e1 : (⟨#[40]⟩ : ByteArray).size = 1 := rfl
  have e2 : (⟨#[41]⟩ : ByteArray).size = 1 := rfl
  have e3 : (⟨#[44, 32]⟩ : ByteArray).size = 2 := rfl
  obtain ⟨G, hG⟩ : ∃ G : ByteArray, G = (⟨#[97, 98, 115]⟩ : ByteArray) ++ ⟨#[40]⟩ := ⟨_, rfl⟩
  have hGz : G.size + (accJ f (prts xs e).length).size ≤ 10000 := by rw [hG, ByteArray.size_append]; omega
  have y0 : ∀ W : World, (Op.stringOp .add ⟨#[97, 98, 115]⟩ ⟨#[40]⟩).run Tryd.prog W = .ok (.string G) W := fun W => by rw [hG]; exact run_string_add_sum W _ _ (by omega)
  rw [← hG]
  clear hG hf0 hfe hge hac hpl hlt REC hsz
  have hFle := hd (fun i (h : i ≤ (prts xs e).length) => acc_up f h)
  have hfle := hd (fun i (h : i < (prts xs e).length) => acc_ge f h)
  have hF : ∃ F : Nat → ByteArray, ∀ i, F i = G ++ accJ f i := ⟨_, fun _ => rfl⟩
  obtain ⟨F, hF⟩ := hF
  have hFz : Hid (∀ i, i ≤ (prts xs e).length → (F i).size ≤ 10000) := fun i h => by rw [hF, ByteArray.size_append]; have := hFle.out i h; omega
  have hfz : Hid (∀ i, i < (prts xs e).length → (f i).size ≤ 10000) := fun i h => by have := hfle.out i h; omega
  have hF0 : Hid (F 0 = G) := by show _ = _; rw [hF]; exact app_nil G
  have hF1 : Hid (F 1 = F 0 ++ f 0) := by show _ = _; rw [hF, hF]; show G ++ f 0 = G ++ ⟨#[]⟩ ++ f 0; rw [app_nil]
  have hFs : Hid (∀ i, 0 < i → F (i + 1) = F i ++ ⟨#[44, 32]⟩ ++ f i) := fun i h => by rw [hF, hF, acc_succ f h, app_four]
  have hFm : Hid (G ++ accJ f (prts xs e).length = F (prts xs e).length) := by show _ = _; rw [hF]
  rw [hFm.out]
  obtain ⟨res, hres⟩ : ∃ res, F (prts xs e).length ++ ⟨#[41]⟩ = res := ⟨_, rfl⟩
  rw [hres]
  replace hres := hd hres
  clear hF hFm hFle hfle hGz
  have K0 := CS.made w _ rfl #[.slice a len cap] 29
  have hBB : Below w.heap.size w (w.alloc (.cells #[.slice a len cap] 29)) := old_alloc (Below.refl _ _) _
  have PT := hd (fun w' (h : Below w.heap.size w w') => sParts a len cap xs e w' (hR.old h) hok he)
  have hp := hR.1
  have hl := (okT_in hok).1
  have LV := hd (sLv_10 n s)
  obtain ⟨b, off, x0, y0, s0, rfl, hbl, hx', hf, c0, c1, c2⟩ := (hR.old hBB).at he
  rw [hx] at hx'
  injection hx' with q1 q2 q3
  subst q1 q2 q3
  have K1 := CS.made (w.alloc (.cells #[.slice (some ⟨b, off, none⟩) len cap] 29)) (w.heap.size + 1) (by simp) #[.int .i64 10, .int .i64 n, .string s] 48
  have hB1 := old_alloc hBB (.cells #[.int .i64 10, .int .i64 n, .string s] 48)
  have m0 := K0.cell 0 _ rfl
  replace K0 := K0.alloc (.cells #[.int .i64 10, .int .i64 n, .string s] 48)
  have heI : (0 : Int) ≤ (e : Int) := by omega
  have heJ : (e : Int) < (len : Int) := by omega
  clear hR hok hx hf hbl hp hl he
  go_enter Tryd.func11, Tryd.ntmps11
  go_wp2_with fail
  generalize (w.alloc (.cells #[.slice (some ⟨b, off, none⟩) len cap] 29)).alloc (.cells #[.int .i64 10, .int .i64 n, .string s] 48) = W1 at *
  clear m0 c0 c1 c2
  refine (LV.out _).mono ?_
  rintro ev w2 ⟨rfl, hb2⟩
  replace K0 := K0.later hb2
  replace K1 := K1.later hb2
  have hB2 := old_trans hB1 hb2
  have m0 := K0.cell 0 _ rfl
  have n0 := K1.cell 0 _ rfl
  have n1 := K1.cell 1 _ rfl
  have n2 := K1.cell 2 _ rfl
  clear LV hb2 hB1 hBB
  go_wp2_with fail
  refine (PT.out _ (by with_reducible first | exact hB2 | exact hB2.drew)).mono ?_
  rintro ev w3 ⟨⟨av, cv, rfl, hO⟩, hb3⟩
  clear m0 n0 n1 n2 PT
  replace K0 := (by with_reducible first | exact K0.later hb3 | exact K0.drew.later hb3 : CS w3 _ _)
  replace K1 := (by with_reducible first | exact K1.later hb3 | exact K1.drew.later hb3 : CS w3 _ _)
  have hB3 := (by with_reducible first | exact old_trans hB2 hb3 | exact old_trans hB2.drew hb3 : Below w.heap.size w w3)
  clear hb3 hB2
  have m0 := K0.cell 0 _ rfl
  have n0 := K1.cell 0 _ rfl
  have n1 := K1.cell 1 _ rfl
  have n2 := K1.cell 2 _ rfl
  have hPO := hd (fun i (h : i < (prts xs e).length) => (OI.inI hO).at (k := i) (by rw [iz_len]; exact h))
  have hPI := hd (fun i (h : i < (prts xs e).length) => iz_getD (prts xs e) i h)
  clear hO
  generalize hPL : (prts xs e).length = PL at *
  go_wp2_with fail
  go_loopw [10, 11] (fun o i wr => ∃ (j : Nat), j ≤ PL ∧ i = .int .i64 j ∧ o = .string (F j) ∧ Below w3.heap.size w3 wr) (fun _ i _ => PL - (intOf i).toNat)
  case atStart => exact ⟨0, by omega, rfl, by rw [hF0.out], Below.refl _ _⟩
  case round =>
    obtain ⟨j, hj, rfl, rfl, hc⟩ := hrel
    have m0 := (K0.later hc).cell 0 _ rfl
    by_cases hlt : j < PL
    · obtain ⟨bq, oq, Q, rfl, hbq, hQ, -, dQ⟩ := hPO.out j hlt
      rw [hPI.out j hlt] at hQ
      subst hQ
      have RJ := hd (R0.out j hlt)
      have hfj := hfe'.out j hlt
      rw [← hfj] at RJ
      have hzj := hFz.out j hj
      have hzf := hfz.out j hlt
      have cQ := (hc.cell (p := ⟨bq, oq + j, none⟩) hbq).trans dQ
      generalize (prts xs e).getD j 0 = p0 at *
      have hjI : (j : Int) < (PL : Int) := by omega
      have hjI0 : (0 : Int) ≤ (j : Int) := by omega
      by_cases hj0 : j = 0
      · subst hj0
        have d0 : decide ((0 : Int) < ((0 : Nat) : Int)) = false := by decide
        have hnx := hd hF1.out
        have y1 : ∀ W : World, (Op.stringOp .add (F 0) (f 0)).run Tryd.prog W = .ok (.string (F 0 ++ f 0)) W := fun W => run_string_add_sum W _ _ (by omega)
        rw [Nat.add_zero] at cQ dQ
        clear hfj hzj hzf hF0 hF1 hFs hFz hfz hfe' R0 hPO hPI
        generalize F 0 = F0 at *
        generalize f 0 = f0 at *
        go_upto_region 37 with fail
        go_region_held3 (fun w'' => w''.cell? ⟨w.heap.size, 0, none⟩ = some (.slice (some ⟨b, off, none⟩) len cap) ∧ w''.cell? ⟨bq, oq, none⟩ = some (.int .i64 (p0 : Int))) (go_keep) (first | (go_at_call 11; refine (RJ.out _ (old_trans hB3 (by with_reducible first | exact hc | exact Below.drew hc | exact old_alloc hc _ | exact old_alloc (Below.drew hc) _ | exact Below.drew (old_alloc hc _)))).mono ?_; rintro ev wx ⟨rfl, hbx⟩; have hc := (by with_reducible first | exact old_trans hc hbx | exact old_trans (Below.drew hc) hbx : Below w3.heap.size w3 wx); have m0 := (K0.later hc).cell 0 _ rfl; have cQ := (hc.cell (p := ⟨bq, oq, none⟩) hbq).trans dQ))
        all_goals
          go_wp2
          go_roundw
          case rel => exact ⟨1, by omega, by go_num, by rw [hnx.out], (by with_reducible first | exact hc | exact Below.drew hc | exact old_alloc hc _ | exact old_alloc (Below.drew hc) _ | exact Below.drew (old_alloc hc _))⟩
          case measure => simp [intOf]; omega
      · have d0 : decide ((0 : Int) < (j : Int)) = true := decide_eq_true (by omega)
        have hnx := hd (hFs.out j (by omega))
        have z1 : (F j ++ ⟨#[44, 32]⟩ : ByteArray).size = (F j).size + 2 := by rw [ByteArray.size_append]; rfl
        have y1 : ∀ W : World, (Op.stringOp .add (F j) ⟨#[44, 32]⟩).run Tryd.prog W = .ok (.string (F j ++ ⟨#[44, 32]⟩)) W := fun W => run_string_add_sum W _ _ (by omega)
        have y2 : ∀ W : World, (Op.stringOp .add (F j ++ ⟨#[44, 32]⟩) (f j)).run Tryd.prog W = .ok (.string (F j ++ ⟨#[44, 32]⟩ ++ f j)) W := fun W => run_string_add_sum W _ _ (by omega)
        clear hfj hzj hzf hF0 hF1 hFs hFz hfz hfe' R0 hPO hPI z1
        generalize F j = F0 at *
        generalize f j = f0 at *
        go_upto_region 37 with fail
        go_region_held3 (fun w'' => w''.cell? ⟨w.heap.size, 0, none⟩ = some (.slice (some ⟨b, off, none⟩) len cap) ∧ w''.cell? ⟨bq, oq + j, none⟩ = some (.int .i64 (p0 : Int))) (go_keep) (first | (go_at_call 11; refine (RJ.out _ (old_trans hB3 (by with_reducible first | exact hc | exact Below.drew hc | exact old_alloc hc _ | exact old_alloc (Below.drew hc) _ | exact Below.drew (old_alloc hc _)))).mono ?_; rintro ev wx ⟨rfl, hbx⟩; have hc := (by with_reducible first | exact old_trans hc hbx | exact old_trans (Below.drew hc) hbx : Below w3.heap.size w3 wx); have m0 := (K0.later hc).cell 0 _ rfl; have cQ := (hc.cell (p := ⟨bq, oq + j, none⟩) hbq).trans dQ))
        all_goals
          go_wp2
          go_roundw
          case rel => exact ⟨j + 1, by omega, by go_num, by rw [hnx.out], (by with_reducible first | exact hc | exact Below.drew hc | exact old_alloc hc _ | exact old_alloc (Below.drew hc) _ | exact Below.drew (old_alloc hc _))⟩
          case measure => simp [intOf]; omega
    · obtain rfl : j = PL := by omega
      have hni : ¬ ((j : Int) < (j : Int)) := by omega
      have hzj := hFz.out j hj
      have y1 : ∀ W : World, (Op.stringOp .add (F j) ⟨#[41]⟩).run Tryd.prog W = .ok (.string (F j ++ ⟨#[41]⟩)) W := fun W => run_string_add_sum W _ _ (by omega)
      clear hzj hF0 hF1 hFs hFz hfz hfe' R0 hPO hPI
      generalize F j = F0 at *
      go_wp2
      go_ret
      exact ⟨congrArg (fun x => Ending.returned (.string x)) hres.out, old_trans hB3 hc⟩
set_option maxRecDepth 100000 in
set_option maxHeartbeats 4000000 in
theorem sShow_11 {xs : List Tn} (hok : okT xs = true) (a : Option Addr) (len cap e : Nat) (w : World) (hR : InN w a len cap xs) (he : e < len) (n : Int) (s : ByteArray) (hx : xs.getD e tn0 = ⟨11, n, s⟩) (lv : Int) (hge : ¬ (5 < lv)) (REC : Hid (∀ q, q < e → ∀ (l : Int), 1 ≤ l → l ≤ 5 → ∀ w1, Below w.heap.size w w1 → Calls Tryd.prog 11 #[.agg #[.slice a len cap], .int .i64 (q : Int), .int .i64 l] w1 fun ev w2 => ev = .returned (.string (atT (l - 1) (tr xs q).tx)) ∧ Below w1.heap.size w1 w2)) :
    Calls Tryd.prog 11 #[.agg #[.slice a len cap], .int .i64 (e : Int), .int .i64 lv] w fun ev w' => ev = .returned (.string (tr xs e).txt) ∧ Below w.heap.size w w' := by
  have hlv : decide (5 < lv) = false := decide_eq_false hge
  have hsz := tr_size hok (e := e) (by have := hR.1; omega)
  have hpl := prts_len hok (e := e) (by have := hR.1; omega)
  have hac := ac_cnt (x := xs.getD e tn0) (by omega)
  rw [hx] at hpl hac
  rw [txt_e, hx] at hsz ⊢
  have hlt := hd (fun i h => prts_lt (xs := xs) (k := e) (i := i) h)
  have hmx : (prts xs e).length ≤ 6 := by have := hac.2.2.1 (by simp); omega
  rw [tx_own (wd := ⟨#[109, 105, 110]⟩) rfl] at hsz ⊢
  have hll : (((prts xs e).map (tr xs)).map Tr.tx).length = (prts xs e).length := by simp
  rw [hll] at hsz ⊢
  have hfe := fun i (h : i < (prts xs e).length) => show atT 0 ((((prts xs e).map (tr xs)).map Tr.tx).getD i tx0) = atT 0 (tr xs ((prts xs e).getD i 0)).tx by rw [tx_at h]
  generalize hf0 : (fun i => atT 0 ((((prts xs e).map (tr xs)).map Tr.tx).getD i tx0)) = f at *
  have hfe' : Hid (∀ i, i < (prts xs e).length → f i = atT 0 (tr xs ((prts xs e).getD i 0)).tx) := fun i h => by rw [← hf0]; exact hfe i h
  have R0 := hd (fun i (h : i < (prts xs e).length) => REC.out _ (hlt.out i h) 1 (by decide) (by decide))
  rw [show (1 : Int) - 1 = 0 from rfl] at R0
  rw [ByteArray.size_append, ByteArray.size_append, ByteArray.size_append] at hsz
  have e1 : (⟨#[40]⟩ : ByteArray).size = 1 := rfl
  have e2 : (⟨#[41]⟩ : ByteArray).size = 1 := rfl
  have e3 : (⟨#[44, 32]⟩ : ByteArray).size = 2 := rfl
  obtain ⟨G, hG⟩ : ∃ G : ByteArray, G = (⟨#[109, 105, 110]⟩ : ByteArray) ++ ⟨#[40]⟩ := ⟨_, rfl⟩
  have hGz : G.size + (accJ f (prts xs e).length).size ≤ 10000 := by rw [hG, ByteArray.size_append]; omega
  have y0 : ∀ W : World, (Op.stringOp .add ⟨#[109, 105, 110]⟩ ⟨#[40]⟩).run Tryd.prog W = .ok (.string G) W := fun W => by rw [hG]; exact run_string_add_sum W _ _ (by omega)
  rw [← hG]
  clear hG hf0 hfe hge hac hpl hlt REC hsz
  have hFle := hd (fun i (h : i ≤ (prts xs e).length) => acc_up f h)
  have hfle := hd (fun i (h : i < (prts xs e).length) => acc_ge f h)
  have hF : ∃ F : Nat → ByteArray, ∀ i, F i = G ++ accJ f i := ⟨_, fun _ => rfl⟩
  obtain ⟨F, hF⟩ := hF
  have hFz : Hid (∀ i, i ≤ (prts xs e).length → (F i).size ≤ 10000) := fun i h => by rw [hF, ByteArray.size_append]; have := hFle.out i h; omega
  have hfz : Hid (∀ i, i < (prts xs e).length → (f i).size ≤ 10000) := fun i h => by have := hfle.out i h; omega
  have hF0 : Hid (F 0 = G) := by show _ = _; rw [hF]; exact app_nil G
  have hF1 : Hid (F 1 = F 0 ++ f 0) := by show _ = _; rw [hF, hF]; show G ++ f 0 = G ++ ⟨#[]⟩ ++ f 0; rw [app_nil]
  have hFs : Hid (∀ i, 0 < i → F (i + 1) = F i ++ ⟨#[44, 32]⟩ ++ f i) := fun i h => by rw [hF, hF, acc_succ f h, app_four]
  have hFm : Hid (G ++ accJ f (prts xs e).length = F (prts xs e).length) := by show _ = _; rw [hF]
  rw [hFm.out]
  obtain ⟨res, hres⟩ : ∃ res, F (prts xs e).length ++ ⟨#[41]⟩ = res := ⟨_, rfl⟩
  rw [hres]
  replace hres := hd hres
  clear hF hFm hFle hfle hGz
  have K0 := CS.made w _ rfl #[.slice a len cap] 29
  have hBB : Below w.heap.size w (w.alloc (.cells #[.slice a len cap] 29)) := old_alloc (Below.refl _ _) _
  have PT := hd (fun w' (h : Below w.heap.size w w') => sParts a len cap xs e w' (hR.old h) hok he)
  have hp := hR.1
  have hl := (okT_in hok).1
  have LV := hd (sLv_11 n s)
  obtain ⟨b, off, x0, y0, s0, rfl, hbl, hx', hf, c0, c1, c2⟩ := (hR.old hBB).at he
  rw [hx] at hx'
  injection hx' with q1 q2 q3
  subst q1 q2 q3
  have K1 := CS.made (w.alloc (.cells #[.slice (some ⟨b, off, none⟩) len cap] 29)) (w.heap.size + 1) (by simp) #[.int .i64 11, .int .i64 n, .string s] 48
  have hB1 := old_alloc hBB (.cells #[.int .i64 11, .int .i64 n, .string s] 48)
  have m0 := K0.cell 0 _ rfl
  replace K0 := K0.alloc (.cells #[.int .i64 11, .int .i64 n, .string s] 48)
  have heI : (0 : Int) ≤ (e : Int) := by omega
  have heJ : (e : Int) < (len : Int) := by omega
  clear hR hok hx hf hbl hp hl he
  go_enter Tryd.func11, Tryd.ntmps11
  go_wp2_with fail
  generalize (w.alloc (.cells #[.slice (some ⟨b, off, none⟩) len cap] 29)).alloc (.cells #[.int .i64 11, .int .i64 n, .string s] 48) = W1 at *
  clear m0 c0 c1 c2
  refine (LV.out _).mono ?_
  rintro ev w2 ⟨rfl, hb2⟩
  replace K0 := K0.later hb2
  replace K1 := K1.later hb2
  have hB2 := old_trans hB1 hb2
  have m0 := K0.cell 0 _ rfl
  have n0 := K1.cell 0 _ rfl
  have n1 := K1.cell 1 _ rfl
  have n2 := K1.cell 2 _ rfl
  clear LV hb2 hB1 hBB
  go_wp2_with fail
  refine (PT.out _ (by with_reducible first | exact hB2 | exact hB2.drew)).mono ?_
  rintro ev w3 ⟨⟨av, cv, rfl, hO⟩, hb3⟩
  clear m0 n0 n1 n2 PT
  replace K0 := (by with_reducible first | exact K0.later hb3 | exact K0.drew.later hb3 : CS w3 _ _)
  replace K1 := (by with_reducible first | exact K1.later hb3 | exact K1.drew.later hb3 : CS w3 _ _)
  have hB3 := (by with_reducible first | exact old_trans hB2 hb3 | exact old_trans hB2.drew hb3 : Below w.heap.size w w3)
  clear hb3 hB2
  have m0 := K0.cell 0 _ rfl
  have n0 := K1.cell 0 _ rfl
  have n1 := K1.cell 1 _ rfl
  have n2 := K1.cell 2 _ rfl
  have hPO := hd (fun i (h : i < (prts xs e).length) => (OI.inI hO).at (k := i) (by rw [iz_len]; exact h))
  have hPI := hd (fun i (h : i < (prts xs e).length) => iz_getD (prts xs e) i h)
  clear hO
  generalize hPL : (prts xs e).length = PL at *
  go_wp2_with fail
  go_loopw [10, 11] (fun o i wr => ∃ (j : Nat), j ≤ PL ∧ i = .int .i64 j ∧ o = .string (F j) ∧ Below w3.heap.size w3 wr) (fun _ i _ => PL - (intOf i).toNat)
  case atStart => exact ⟨0, by omega, rfl, by rw [hF0.out], Below.refl _ _⟩
  case round =>
    obtain ⟨j, hj, rfl, rfl, hc⟩ := hrel
    have m0 := (K0.later hc).cell 0 _ rfl
    by_cases hlt : j < PL
    · obtain ⟨bq, oq, Q, rfl, hbq, hQ, -, dQ⟩ := hPO.out j hlt
      rw [hPI.out j hlt] at hQ
      subst hQ
      have RJ := hd (R0.out j hlt)
      have hfj := hfe'.out j hlt
      rw [← hfj] at RJ
      have hzj := hFz.out j hj
      have hzf := hfz.out j hlt
      have cQ := (hc.cell (p := ⟨bq, oq + j, none⟩) hbq).trans dQ
      generalize (prts xs e).getD j 0 = p0 at *
      have hjI : (j : Int) < (PL : Int) := by omega
      have hjI0 : (0 : Int) ≤ (j : Int) := by omega
      by_cases hj0 : j = 0
      · subst hj0
        have d0 : decide ((0 : Int) < ((0 : Nat) : Int)) = false := by decide
        have hnx := hd hF1.out
        have y1 : ∀ W : World, (Op.stringOp .add (F 0) (f 0)).run Tryd.prog W = .ok (.string (F 0 ++ f 0)) W := fun W => run_string_add_sum W _ _ (by omega)
        rw [Nat.add_zero] at cQ dQ
        clear hfj hzj hzf hF0 hF1 hFs hFz hfz hfe' R0 hPO hPI
        generalize F 0 = F0 at *
        generalize f 0 = f0 at *
        go_upto_region 37 with fail
        go_region_held3 (fun w'' => w''.cell? ⟨w.heap.size, 0, none⟩ = some (.slice (some ⟨b, off, none⟩) len cap) ∧ w''.cell? ⟨bq, oq, none⟩ = some (.int .i64 (p0 : Int))) (go_keep) (first | (go_at_call 11; refine (RJ.out _ (old_trans hB3 (by with_reducible first | exact hc | exact Below.drew hc | exact old_alloc hc _ | exact old_alloc (Below.drew hc) _ | exact Below.drew (old_alloc hc _)))).mono ?_; rintro ev wx ⟨rfl, hbx⟩; have hc := (by with_reducible first | exact old_trans hc hbx | exact old_trans (Below.drew hc) hbx : Below w3.heap.size w3 wx); have m0 := (K0.later hc).cell 0 _ rfl; have cQ := (hc.cell (p := ⟨bq, oq, none⟩) hbq).trans dQ))
        all_goals
          go_wp2
          go_roundw
          case rel => exact ⟨1, by omega, by go_num, by rw [hnx.out], (by with_reducible first | exact hc | exact Below.drew hc | exact old_alloc hc _ | exact old_alloc (Below.drew hc) _ | exact Below.drew (old_alloc hc _))⟩
          case measure => simp [intOf]; omega
      · have d0 : decide ((0 : Int) < (j : Int)) = true := decide_eq_true (by omega)
        have hnx := hd (hFs.out j (by omega))
        have z1 : (F j ++ ⟨#[44, 32]⟩ : ByteArray).size = (F j).size + 2 := by rw [ByteArray.size_append]; rfl
        have y1 : ∀ W : World, (Op.stringOp .add (F j) ⟨#[44, 32]⟩).run Tryd.prog W = .ok (.string (F j ++ ⟨#[44, 32]⟩)) W := fun W => run_string_add_sum W _ _ (by omega)
        have y2 : ∀ W : World, (Op.stringOp .add (F j ++ ⟨#[44, 32]⟩) (f j)).run Tryd.prog W = .ok (.string (F j ++ ⟨#[44, 32]⟩ ++ f j)) W := fun W => run_string_add_sum W _ _ (by omega)
        clear hfj hzj hzf hF0 hF1 hFs hFz hfz hfe' R0 hPO hPI z1
        generalize F j = F0 at *
        generalize f j = f0 at *
        go_upto_region 37 with fail
        go_region_held3 (fun w'' => w''.cell? ⟨w.heap.size, 0, none⟩ = some (.slice (some ⟨b, off, none⟩) len cap) ∧ w''.cell? ⟨bq, oq + j, none⟩ = some (.int .i64 (p0 : Int))) (go_keep) (first | (go_at_call 11; refine (RJ.out _ (old_trans hB3 (by with_reducible first | exact hc | exact Below.drew hc | exact old_alloc hc _ | exact old_alloc (Below.drew hc) _ | exact Below.drew (old_alloc hc _)))).mono ?_; rintro ev wx ⟨rfl, hbx⟩; have hc := (by with_reducible first | exact old_trans hc hbx | exact old_trans (Below.drew hc) hbx : Below w3.heap.size w3 wx); have m0 := (K0.later hc).cell 0 _ rfl; have cQ := (hc.cell (p := ⟨bq, oq + j, none⟩) hbq).trans dQ))
        all_goals
          go_wp2
          go_roundw
          case rel => exact ⟨j + 1, by omega, by go_num, by rw [hnx.out], (by with_reducible first | exact hc | exact Below.drew hc | exact old_alloc hc _ | exact old_alloc (Below.drew hc) _ | exact Below.drew (old_alloc hc _))⟩
          case measure => simp [intOf]; omega
    · obtain rfl : j = PL := by omega
      have hni : ¬ ((j : Int) < (j : Int)) := by omega
      have hzj := hFz.out j hj
      have y1 : ∀ W : World, (Op.stringOp .add (F j) ⟨#[41]⟩).run Tryd.prog W = .ok (.string (F j ++ ⟨#[41]⟩)) W := fun W => run_string_add_sum W _ _ (by omega)
      clear hzj hF0 hF1 hFs hFz hfz hfe' R0 hPO hPI
      generalize F j = F0 at *
      go_wp2
      go_ret
      exact ⟨congrArg (fun x => Ending.returned (.string x)) hres.out, old_trans hB3 hc⟩
set_option maxRecDepth 100000 in
set_option maxHeartbeats 4000000 in
theorem sShow_12 {xs : List Tn} (hok : okT xs = true) (a : Option Addr) (len cap e : Nat) (w : World) (hR : InN w a len cap xs) (he : e < len) (n : Int) (s : ByteArray) (hx : xs.getD e tn0 = ⟨12, n, s⟩) (lv : Int) (hge : ¬ (5 < lv)) (REC : Hid (∀ q, q < e → ∀ (l : Int), 1 ≤ l → l ≤ 5 → ∀ w1, Below w.heap.size w w1 → Calls Tryd.prog 11 #[.agg #[.slice a len cap], .int .i64 (q : Int), .int .i64 l] w1 fun ev w2 => ev = .returned (.string (atT (l - 1) (tr xs q).tx)) ∧ Below w1.heap.size w1 w2)) :
    Calls Tryd.prog 11 #[.agg #[.slice a len cap], .int .i64 (e : Int), .int .i64 lv] w fun ev w' => ev = .returned (.string (tr xs e).txt) ∧ Below w.heap.size w w' := by
  have hlv : decide (5 < lv) = false := decide_eq_false hge
  have hsz := tr_size hok (e := e) (by have := hR.1; omega)
  have hpl := prts_len hok (e := e) (by have := hR.1; omega)
  have hac := ac_cnt (x := xs.getD e tn0) (by omega)
  rw [hx] at hpl hac
  rw [txt_e, hx] at hsz ⊢
  have hlt := hd (fun i h => prts_lt (xs := xs) (k := e) (i := i) h)
  have hmx : (prts xs e).length ≤ 6 := by have := hac.2.2.1 (by simp); omega
  rw [tx_own (wd := ⟨#[109, 97, 120]⟩) rfl] at hsz ⊢
  have hll : (((prts xs e).map (tr xs)).map Tr.tx).length = (prts xs e).length := by simp
  rw [hll] at hsz ⊢
  have hfe := fun i (h : i < (prts xs e).length) => show atT 0 ((((prts xs e).map (tr xs)).map Tr.tx).getD i tx0) = atT 0 (tr xs ((prts xs e).getD i 0)).tx by rw [tx_at h]
  generalize hf0 : (fun i => atT 0 ((((prts xs e).map (tr xs)).map Tr.tx).getD i tx0)) = f at *
  have hfe' : Hid (∀ i, i < (prts xs e).length → f i = atT 0 (tr xs ((prts xs e).getD i 0)).tx) := fun i h => by rw [← hf0]; exact hfe i h
  have R0 := hd (fun i (h : i < (prts xs e).length) => REC.out _ (hlt.out i h) 1 (by decide) (by decide))
  rw [show (1 : Int) - 1 = 0 from rfl] at R0
  rw [ByteArray.size_append, ByteArray.size_append, ByteArray.size_append] at hsz
  have e1 : (⟨#[40]⟩ : ByteArray).size = 1 := rfl
  have e2 : (⟨#[41]⟩ : ByteArray).size = 1 := rfl
  have e3 : (⟨#[44, 32]⟩ : ByteArray).size = 2 := rfl
  obtain ⟨G, hG⟩ : ∃ G : ByteArray, G = (⟨#[109, 97, 120]⟩ : ByteArray) ++ ⟨#[40]⟩ := ⟨_, rfl⟩
  have hGz : G.size + (accJ f (prts xs e).length).size ≤ 10000 := by rw [hG, ByteArray.size_append]; omega
  have y0 : ∀ W : World, (Op.stringOp .add ⟨#[109, 97, 120]⟩ ⟨#[40]⟩).run Tryd.prog W = .ok (.string G) W := fun W => by rw [hG]; exact run_string_add_sum W _ _ (by omega)
  rw [← hG]
  clear hG hf0 hfe hge hac hpl hlt REC hsz
  have hFle := hd (fun i (h : i ≤ (prts xs e).length) => acc_up f h)
  have hfle := hd (fun i (h : i < (prts xs e).length) => acc_ge f h)
  have hF : ∃ F : Nat → ByteArray, ∀ i, F i = G ++ accJ f i := ⟨_, fun _ => rfl⟩
  obtain ⟨F, hF⟩ := hF
  have hFz : Hid (∀ i, i ≤ (prts xs e).length → (F i).size ≤ 10000) := fun i h => by rw [hF, ByteArray.size_append]; have := hFle.out i h; omega
  have hfz : Hid (∀ i, i < (prts xs e).length → (f i).size ≤ 10000) := fun i h => by have := hfle.out i h; omega
  have hF0 : Hid (F 0 = G) := by show _ = _; rw [hF]; exact app_nil G
  have hF1 : Hid (F 1 = F 0 ++ f 0) := by show _ = _; rw [hF, hF]; show G ++ f 0 = G ++ ⟨#[]⟩ ++ f 0; rw [app_nil]
  have hFs : Hid (∀ i, 0 < i → F (i + 1) = F i ++ ⟨#[44, 32]⟩ ++ f i) := fun i h => by rw [hF, hF, acc_succ f h, app_four]
  have hFm : Hid (G ++ accJ f (prts xs e).length = F (prts xs e).length) := by show _ = _; rw [hF]
  rw [hFm.out]
  obtain ⟨res, hres⟩ : ∃ res, F (prts xs e).length ++ ⟨#[41]⟩ = res := ⟨_, rfl⟩
  rw [hres]
  replace hres := hd hres
  clear hF hFm hFle hfle hGz
  have K0 := CS.made w _ rfl #[.slice a len cap] 29
  have hBB : Below w.heap.size w (w.alloc (.cells #[.slice a len cap] 29)) := old_alloc (Below.refl _ _) _
  have PT := hd (fun w' (h : Below w.heap.size w w') => sParts a len cap xs e w' (hR.old h) hok he)
  have hp := hR.1
  have hl := (okT_in hok).1
  have LV := hd (sLv_12 n s)
  obtain ⟨b, off, x0, y0, s0, rfl, hbl, hx', hf, c0, c1, c2⟩ := (hR.old hBB).at he
  rw [hx] at hx'
  injection hx' with q1 q2 q3
  subst q1 q2 q3
  have K1 := CS.made (w.alloc (.cells #[.slice (some ⟨b, off, none⟩) len cap] 29)) (w.heap.size + 1) (by simp) #[.int .i64 12, .int .i64 n, .string s] 48
  have hB1 := old_alloc hBB (.cells #[.int .i64 12, .int .i64 n, .string s] 48)
  have m0 := K0.cell 0 _ rfl
  replace K0 := K0.alloc (.cells #[.int .i64 12, .int .i64 n, .string s] 48)
  have heI : (0 : Int) ≤ (e : Int) := by omega
  have heJ : (e : Int) < (len : Int) := by omega
  clear hR hok hx hf hbl hp hl he
  go_enter Tryd.func11, Tryd.ntmps11
  go_wp2_with fail
  generalize (w.alloc (.cells #[.slice (some ⟨b, off, none⟩) len cap] 29)).alloc (.cells #[.int .i64 12, .int .i64 n, .string s] 48) = W1 at *
  clear m0 c0 c1 c2
  refine (LV.out _).mono ?_
  rintro ev w2 ⟨rfl, hb2⟩
  replace K0 := K0.later hb2
  replace K1 := K1.later hb2
  have hB2 := old_trans hB1 hb2
  have m0 := K0.cell 0 _ rfl
  have n0 := K1.cell 0 _ rfl
  have n1 := K1.cell 1 _ rfl
  have n2 := K1.cell 2 _ rfl
  clear LV hb2 hB1 hBB
  go_wp2_with fail
  refine (PT.out _ (by with_reducible first | exact hB2 | exact hB2.drew)).mono ?_
  rintro ev w3 ⟨⟨av, cv, rfl, hO⟩, hb3⟩
  clear m0 n0 n1 n2 PT
  replace K0 := (by with_reducible first | exact K0.later hb3 | exact K0.drew.later hb3 : CS w3 _ _)
  replace K1 := (by with_reducible first | exact K1.later hb3 | exact K1.drew.later hb3 : CS w3 _ _)
  have hB3 := (by with_reducible first | exact old_trans hB2 hb3 | exact old_trans hB2.drew hb3 : Below w.heap.size w w3)
  clear hb3 hB2
  have m0 := K0.cell 0 _ rfl
  have n0 := K1.cell 0 _ rfl
  have n1 := K1.cell 1 _ rfl
  have n2 := K1.cell 2 _ rfl
  have hPO := hd (fun i (h : i < (prts xs e).length) => (OI.inI hO).at (k := i) (by rw [iz_len]; exact h))
  have hPI := hd (fun i (h : i < (prts xs e).length) => iz_getD (prts xs e) i h)
  clear hO
  generalize hPL : (prts xs e).length = PL at *
  go_wp2_with fail
  go_loopw [10, 11] (fun o i wr => ∃ (j : Nat), j ≤ PL ∧ i = .int .i64 j ∧ o = .string (F j) ∧ Below w3.heap.size w3 wr) (fun _ i _ => PL - (intOf i).toNat)
  case atStart => exact ⟨0, by omega, rfl, by rw [hF0.out], Below.refl _ _⟩
  case round =>
    obtain ⟨j, hj, rfl, rfl, hc⟩ := hrel
    have m0 := (K0.later hc).cell 0 _ rfl
    by_cases hlt : j < PL
    · obtain ⟨bq, oq, Q, rfl, hbq, hQ, -, dQ⟩ := hPO.out j hlt
      rw [hPI.out j hlt] at hQ
      subst hQ
      have RJ := hd (R0.out j hlt)
      have hfj := hfe'.out j hlt
      rw [← hfj] at RJ
      have hzj := hFz.out j hj
      have hzf := hfz.out j hlt
      have cQ := (hc.cell (p := ⟨bq, oq + j, none⟩) hbq).trans dQ
      generalize (prts xs e).getD j 0 = p0 at *
      have hjI : (j : Int) < (PL : Int) := by omega
      have hjI0 : (0 : Int) ≤ (j : Int) := by omega
      by_cases hj0 : j = 0
      · subst hj0
        have d0 : decide ((0 : Int) < ((0 : Nat) : Int)) = false := by decide
        have hnx := hd hF1.out
        have y1 : ∀ W : World, (Op.stringOp .add (F 0) (f 0)).run Tryd.prog W = .ok (.string (F 0 ++ f 0)) W := fun W => run_string_add_sum W _ _ (by omega)
        rw [Nat.add_zero] at cQ dQ
        clear hfj hzj hzf hF0 hF1 hFs hFz hfz hfe' R0 hPO hPI
        generalize F 0 = F0 at *
        generalize f 0 = f0 at *
        go_upto_region 37 with fail
        go_region_held3 (fun w'' => w''.cell? ⟨w.heap.size, 0, none⟩ = some (.slice (some ⟨b, off, none⟩) len cap) ∧ w''.cell? ⟨bq, oq, none⟩ = some (.int .i64 (p0 : Int))) (go_keep) (first | (go_at_call 11; refine (RJ.out _ (old_trans hB3 (by with_reducible first | exact hc | exact Below.drew hc | exact old_alloc hc _ | exact old_alloc (Below.drew hc) _ | exact Below.drew (old_alloc hc _)))).mono ?_; rintro ev wx ⟨rfl, hbx⟩; have hc := (by with_reducible first | exact old_trans hc hbx | exact old_trans (Below.drew hc) hbx : Below w3.heap.size w3 wx); have m0 := (K0.later hc).cell 0 _ rfl; have cQ := (hc.cell (p := ⟨bq, oq, none⟩) hbq).trans dQ))
        all_goals
          go_wp2
          go_roundw
          case rel => exact ⟨1, by omega, by go_num, by rw [hnx.out], (by with_reducible first | exact hc | exact Below.drew hc | exact old_alloc hc _ | exact old_alloc (Below.drew hc) _ | exact Below.drew (old_alloc hc _))⟩
          case measure => simp [intOf]; omega
      · have d0 : decide ((0 : Int) < (j : Int)) = true := decide_eq_true (by omega)
        have hnx := hd (hFs.out j (by omega))
        have z1 : (F j ++ ⟨#[44, 32]⟩ : ByteArray).size = (F j).size + 2 := by rw [ByteArray.size_append]; rfl
        have y1 : ∀ W : World, (Op.stringOp .add (F j) ⟨#[44, 32]⟩).run Tryd.prog W = .ok (.string (F j ++ ⟨#[44, 32]⟩)) W := fun W => run_string_add_sum W _ _ (by omega)
        have y2 : ∀ W : World, (Op.stringOp .add (F j ++ ⟨#[44, 32]⟩) (f j)).run Tryd.prog W = .ok (.string (F j ++ ⟨#[44, 32]⟩ ++ f j)) W := fun W => run_string_add_sum W _ _ (by omega)
        clear hfj hzj hzf hF0 hF1 hFs hFz hfz hfe' R0 hPO hPI z1
        generalize F j = F0 at *
        generalize f j = f0 at *
        go_upto_region 37 with fail
        go_region_held3 (fun w'' => w''.cell? ⟨w.heap.size, 0, none⟩ = some (.slice (some ⟨b, off, none⟩) len cap) ∧ w''.cell? ⟨bq, oq + j, none⟩ = some (.int .i64 (p0 : Int))) (go_keep) (first | (go_at_call 11; refine (RJ.out _ (old_trans hB3 (by with_reducible first | exact hc | exact Below.drew hc | exact old_alloc hc _ | exact old_alloc (Below.drew hc) _ | exact Below.drew (old_alloc hc _)))).mono ?_; rintro ev wx ⟨rfl, hbx⟩; have hc := (by with_reducible first | exact old_trans hc hbx | exact old_trans (Below.drew hc) hbx : Below w3.heap.size w3 wx); have m0 := (K0.later hc).cell 0 _ rfl; have cQ := (hc.cell (p := ⟨bq, oq + j, none⟩) hbq).trans dQ))
        all_goals
          go_wp2
          go_roundw
          case rel => exact ⟨j + 1, by omega, by go_num, by rw [hnx.out], (by with_reducible first | exact hc | exact Below.drew hc | exact old_alloc hc _ | exact old_alloc (Below.drew hc) _ | exact Below.drew (old_alloc hc _))⟩
          case measure => simp [intOf]; omega
    · obtain rfl : j = PL := by omega
      have hni : ¬ ((j : Int) < (j : Int)) := by omega
      have hzj := hFz.out j hj
      have y1 : ∀ W : World, (Op.stringOp .add (F j) ⟨#[41]⟩).run Tryd.prog W = .ok (.string (F j ++ ⟨#[41]⟩)) W := fun W => run_string_add_sum W _ _ (by omega)
      clear hzj hF0 hF1 hFs hFz hfz hfe' R0 hPO hPI
      generalize F j = F0 at *
      go_wp2
      go_ret
      exact ⟨congrArg (fun x => Ending.returned (.string x)) hres.out, old_trans hB3 hc⟩
set_option maxRecDepth 100000 in
set_option maxHeartbeats 4000000 in
theorem sShow_13 {xs : List Tn} (hok : okT xs = true) (a : Option Addr) (len cap e : Nat) (w : World) (hR : InN w a len cap xs) (he : e < len) (n : Int) (s : ByteArray) (hx : xs.getD e tn0 = ⟨13, n, s⟩) (lv : Int) (hge : ¬ (5 < lv)) (REC : Hid (∀ q, q < e → ∀ (l : Int), 1 ≤ l → l ≤ 5 → ∀ w1, Below w.heap.size w w1 → Calls Tryd.prog 11 #[.agg #[.slice a len cap], .int .i64 (q : Int), .int .i64 l] w1 fun ev w2 => ev = .returned (.string (atT (l - 1) (tr xs q).tx)) ∧ Below w1.heap.size w1 w2)) :
    Calls Tryd.prog 11 #[.agg #[.slice a len cap], .int .i64 (e : Int), .int .i64 lv] w fun ev w' => ev = .returned (.string (tr xs e).txt) ∧ Below w.heap.size w w' := by
  have hlv : decide (5 < lv) = false := decide_eq_false hge
  have hsz := tr_size hok (e := e) (by have := hR.1; omega)
  have hpl := prts_len hok (e := e) (by have := hR.1; omega)
  have hac := ac_cnt (x := xs.getD e tn0) (by omega)
  rw [hx] at hpl hac
  rw [txt_e, hx] at hsz ⊢
  have hlt := hd (fun i h => prts_lt (xs := xs) (k := e) (i := i) h)
  have hmx : (prts xs e).length ≤ 6 := by have h := hac.2.2.2 rfl; simp only at h; omega
  rw [tx_named rfl] at hsz ⊢
  rw [show (Tn.mk 13 n s).s = s from rfl] at hsz ⊢
  have hll : (((prts xs e).map (tr xs)).map Tr.tx).length = (prts xs e).length := by simp
  rw [hll] at hsz ⊢
  have hfe := fun i (h : i < (prts xs e).length) => show atT 0 ((((prts xs e).map (tr xs)).map Tr.tx).getD i tx0) = atT 0 (tr xs ((prts xs e).getD i 0)).tx by rw [tx_at h]
  generalize hf0 : (fun i => atT 0 ((((prts xs e).map (tr xs)).map Tr.tx).getD i tx0)) = f at *
  have hfe' : Hid (∀ i, i < (prts xs e).length → f i = atT 0 (tr xs ((prts xs e).getD i 0)).tx) := fun i h => by rw [← hf0]; exact hfe i h
  have R0 := hd (fun i (h : i < (prts xs e).length) => REC.out _ (hlt.out i h) 1 (by decide) (by decide))
  rw [show (1 : Int) - 1 = 0 from rfl] at R0
  rw [ByteArray.size_append, ByteArray.size_append, ByteArray.size_append] at hsz
  have e1 : (⟨#[40]⟩ : ByteArray).size = 1 := rfl
  have e2 : (⟨#[41]⟩ : ByteArray).size = 1 := rfl
  have e3 : (⟨#[44, 32]⟩ : ByteArray).size = 2 := rfl
  obtain ⟨G, hG⟩ : ∃ G : ByteArray, G = (s : ByteArray) ++ ⟨#[40]⟩ := ⟨_, rfl⟩
  have hGz : G.size + (accJ f (prts xs e).length).size ≤ 10000 := by rw [hG, ByteArray.size_append]; omega
  have y0 : ∀ W : World, (Op.stringOp .add s ⟨#[40]⟩).run Tryd.prog W = .ok (.string G) W := fun W => by rw [hG]; exact run_string_add_sum W _ _ (by omega)
  rw [← hG]
  clear hG hf0 hfe hge hac hpl hlt REC hsz
  have hFle := hd (fun i (h : i ≤ (prts xs e).length) => acc_up f h)
  have hfle := hd (fun i (h : i < (prts xs e).length) => acc_ge f h)
  have hF : ∃ F : Nat → ByteArray, ∀ i, F i = G ++ accJ f i := ⟨_, fun _ => rfl⟩
  obtain ⟨F, hF⟩ := hF
  have hFz : Hid (∀ i, i ≤ (prts xs e).length → (F i).size ≤ 10000) := fun i h => by rw [hF, ByteArray.size_append]; have := hFle.out i h; omega
  have hfz : Hid (∀ i, i < (prts xs e).length → (f i).size ≤ 10000) := fun i h => by have := hfle.out i h; omega
  have hF0 : Hid (F 0 = G) := by show _ = _; rw [hF]; exact app_nil G
  have hF1 : Hid (F 1 = F 0 ++ f 0) := by show _ = _; rw [hF, hF]; show G ++ f 0 = G ++ ⟨#[]⟩ ++ f 0; rw [app_nil]
  have hFs : Hid (∀ i, 0 < i → F (i + 1) = F i ++ ⟨#[44, 32]⟩ ++ f i) := fun i h => by rw [hF, hF, acc_succ f h, app_four]
  have hFm : Hid (G ++ accJ f (prts xs e).length = F (prts xs e).length) := by show _ = _; rw [hF]
  rw [hFm.out]
  obtain ⟨res, hres⟩ : ∃ res, F (prts xs e).length ++ ⟨#[41]⟩ = res := ⟨_, rfl⟩
  rw [hres]
  replace hres := hd hres
  clear hF hFm hFle hfle hGz
  have K0 := CS.made w _ rfl #[.slice a len cap] 29
  have hBB : Below w.heap.size w (w.alloc (.cells #[.slice a len cap] 29)) := old_alloc (Below.refl _ _) _
  have PT := hd (fun w' (h : Below w.heap.size w w') => sParts a len cap xs e w' (hR.old h) hok he)
  have hp := hR.1
  have hl := (okT_in hok).1
  have LV := hd (sLv_13 n s)
  obtain ⟨b, off, x0, y0, s0, rfl, hbl, hx', hf, c0, c1, c2⟩ := (hR.old hBB).at he
  rw [hx] at hx'
  injection hx' with q1 q2 q3
  subst q1 q2 q3
  have K1 := CS.made (w.alloc (.cells #[.slice (some ⟨b, off, none⟩) len cap] 29)) (w.heap.size + 1) (by simp) #[.int .i64 13, .int .i64 n, .string s] 48
  have hB1 := old_alloc hBB (.cells #[.int .i64 13, .int .i64 n, .string s] 48)
  have m0 := K0.cell 0 _ rfl
  replace K0 := K0.alloc (.cells #[.int .i64 13, .int .i64 n, .string s] 48)
  have heI : (0 : Int) ≤ (e : Int) := by omega
  have heJ : (e : Int) < (len : Int) := by omega
  clear hR hok hx hf hbl hp hl he
  go_enter Tryd.func11, Tryd.ntmps11
  go_wp2_with fail
  generalize (w.alloc (.cells #[.slice (some ⟨b, off, none⟩) len cap] 29)).alloc (.cells #[.int .i64 13, .int .i64 n, .string s] 48) = W1 at *
  clear m0 c0 c1 c2
  refine (LV.out _).mono ?_
  rintro ev w2 ⟨rfl, hb2⟩
  replace K0 := K0.later hb2
  replace K1 := K1.later hb2
  have hB2 := old_trans hB1 hb2
  have m0 := K0.cell 0 _ rfl
  have n0 := K1.cell 0 _ rfl
  have n1 := K1.cell 1 _ rfl
  have n2 := K1.cell 2 _ rfl
  clear LV hb2 hB1 hBB
  go_wp2_with fail
  refine (PT.out _ (by with_reducible first | exact hB2 | exact hB2.drew)).mono ?_
  rintro ev w3 ⟨⟨av, cv, rfl, hO⟩, hb3⟩
  clear m0 n0 n1 n2 PT
  replace K0 := (by with_reducible first | exact K0.later hb3 | exact K0.drew.later hb3 : CS w3 _ _)
  replace K1 := (by with_reducible first | exact K1.later hb3 | exact K1.drew.later hb3 : CS w3 _ _)
  have hB3 := (by with_reducible first | exact old_trans hB2 hb3 | exact old_trans hB2.drew hb3 : Below w.heap.size w w3)
  clear hb3 hB2
  have m0 := K0.cell 0 _ rfl
  have n0 := K1.cell 0 _ rfl
  have n1 := K1.cell 1 _ rfl
  have n2 := K1.cell 2 _ rfl
  have hPO := hd (fun i (h : i < (prts xs e).length) => (OI.inI hO).at (k := i) (by rw [iz_len]; exact h))
  have hPI := hd (fun i (h : i < (prts xs e).length) => iz_getD (prts xs e) i h)
  clear hO
  generalize hPL : (prts xs e).length = PL at *
  go_wp2_with fail
  go_loopw [10, 11] (fun o i wr => ∃ (j : Nat), j ≤ PL ∧ i = .int .i64 j ∧ o = .string (F j) ∧ Below w3.heap.size w3 wr) (fun _ i _ => PL - (intOf i).toNat)
  case atStart => exact ⟨0, by omega, rfl, by rw [hF0.out], Below.refl _ _⟩
  case round =>
    obtain ⟨j, hj, rfl, rfl, hc⟩ := hrel
    have m0 := (K0.later hc).cell 0 _ rfl
    by_cases hlt : j < PL
    · obtain ⟨bq, oq, Q, rfl, hbq, hQ, -, dQ⟩ := hPO.out j hlt
      rw [hPI.out j hlt] at hQ
      subst hQ
      have RJ := hd (R0.out j hlt)
      have hfj := hfe'.out j hlt
      rw [← hfj] at RJ
      have hzj := hFz.out j hj
      have hzf := hfz.out j hlt
      have cQ := (hc.cell (p := ⟨bq, oq + j, none⟩) hbq).trans dQ
      generalize (prts xs e).getD j 0 = p0 at *
      have hjI : (j : Int) < (PL : Int) := by omega
      have hjI0 : (0 : Int) ≤ (j : Int) := by omega
      by_cases hj0 : j = 0
      · subst hj0
        have d0 : decide ((0 : Int) < ((0 : Nat) : Int)) = false := by decide
        have hnx := hd hF1.out
        have y1 : ∀ W : World, (Op.stringOp .add (F 0) (f 0)).run Tryd.prog W = .ok (.string (F 0 ++ f 0)) W := fun W => run_string_add_sum W _ _ (by omega)
        rw [Nat.add_zero] at cQ dQ
        clear hfj hzj hzf hF0 hF1 hFs hFz hfz hfe' R0 hPO hPI
        generalize F 0 = F0 at *
        generalize f 0 = f0 at *
        go_upto_region 37 with fail
        go_region_held3 (fun w'' => w''.cell? ⟨w.heap.size, 0, none⟩ = some (.slice (some ⟨b, off, none⟩) len cap) ∧ w''.cell? ⟨bq, oq, none⟩ = some (.int .i64 (p0 : Int))) (go_keep) (first | (go_at_call 11; refine (RJ.out _ (old_trans hB3 (by with_reducible first | exact hc | exact Below.drew hc | exact old_alloc hc _ | exact old_alloc (Below.drew hc) _ | exact Below.drew (old_alloc hc _)))).mono ?_; rintro ev wx ⟨rfl, hbx⟩; have hc := (by with_reducible first | exact old_trans hc hbx | exact old_trans (Below.drew hc) hbx : Below w3.heap.size w3 wx); have m0 := (K0.later hc).cell 0 _ rfl; have cQ := (hc.cell (p := ⟨bq, oq, none⟩) hbq).trans dQ))
        all_goals
          go_wp2
          go_roundw
          case rel => exact ⟨1, by omega, by go_num, by rw [hnx.out], (by with_reducible first | exact hc | exact Below.drew hc | exact old_alloc hc _ | exact old_alloc (Below.drew hc) _ | exact Below.drew (old_alloc hc _))⟩
          case measure => simp [intOf]; omega
      · have d0 : decide ((0 : Int) < (j : Int)) = true := decide_eq_true (by omega)
        have hnx := hd (hFs.out j (by omega))
        have z1 : (F j ++ ⟨#[44, 32]⟩ : ByteArray).size = (F j).size + 2 := by rw [ByteArray.size_append]; rfl
        have y1 : ∀ W : World, (Op.stringOp .add (F j) ⟨#[44, 32]⟩).run Tryd.prog W = .ok (.string (F j ++ ⟨#[44, 32]⟩)) W := fun W => run_string_add_sum W _ _ (by omega)
        have y2 : ∀ W : World, (Op.stringOp .add (F j ++ ⟨#[44, 32]⟩) (f j)).run Tryd.prog W = .ok (.string (F j ++ ⟨#[44, 32]⟩ ++ f j)) W := fun W => run_string_add_sum W _ _ (by omega)
        clear hfj hzj hzf hF0 hF1 hFs hFz hfz hfe' R0 hPO hPI z1
        generalize F j = F0 at *
        generalize f j = f0 at *
        go_upto_region 37 with fail
        go_region_held3 (fun w'' => w''.cell? ⟨w.heap.size, 0, none⟩ = some (.slice (some ⟨b, off, none⟩) len cap) ∧ w''.cell? ⟨bq, oq + j, none⟩ = some (.int .i64 (p0 : Int))) (go_keep) (first | (go_at_call 11; refine (RJ.out _ (old_trans hB3 (by with_reducible first | exact hc | exact Below.drew hc | exact old_alloc hc _ | exact old_alloc (Below.drew hc) _ | exact Below.drew (old_alloc hc _)))).mono ?_; rintro ev wx ⟨rfl, hbx⟩; have hc := (by with_reducible first | exact old_trans hc hbx | exact old_trans (Below.drew hc) hbx : Below w3.heap.size w3 wx); have m0 := (K0.later hc).cell 0 _ rfl; have cQ := (hc.cell (p := ⟨bq, oq + j, none⟩) hbq).trans dQ))
        all_goals
          go_wp2
          go_roundw
          case rel => exact ⟨j + 1, by omega, by go_num, by rw [hnx.out], (by with_reducible first | exact hc | exact Below.drew hc | exact old_alloc hc _ | exact old_alloc (Below.drew hc) _ | exact Below.drew (old_alloc hc _))⟩
          case measure => simp [intOf]; omega
    · obtain rfl : j = PL := by omega
      have hni : ¬ ((j : Int) < (j : Int)) := by omega
      have hzj := hFz.out j hj
      have y1 : ∀ W : World, (Op.stringOp .add (F j) ⟨#[41]⟩).run Tryd.prog W = .ok (.string (F j ++ ⟨#[41]⟩)) W := fun W => run_string_add_sum W _ _ (by omega)
      clear hzj hF0 hF1 hFs hFz hfz hfe' R0 hPO hPI
      generalize F j = F0 at *
      go_wp2
      go_ret
      exact ⟨congrArg (fun x => Ending.returned (.string x)) hres.out, old_trans hB3 hc⟩
end Go.Proofs.YtknibhdnbkmkiaaDoor
