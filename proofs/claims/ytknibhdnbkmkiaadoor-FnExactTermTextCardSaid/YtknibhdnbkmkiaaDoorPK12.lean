/- The text of a term, by the specification: numbers, names and what has a sign. Nothing that was there is written. -/
import Derived.Test.YtknibhdnbkmkiaaDoorPK11
namespace Go.Proofs.YtknibhdnbkmkiaaDoor
open Go.RowKit
set_option linter.unusedVariables false
set_option maxRecDepth 100000

set_option maxRecDepth 100000 in
set_option maxHeartbeats 4000000 in
theorem sShow_1 {xs : List Tn} (hok : okT xs = true) (a : Option Addr) (len cap e : Nat) (w : World) (hR : InN w a len cap xs) (he : e < len) (n : Int) (s : ByteArray) (hx : xs.getD e tn0 = ⟨1, n, s⟩) (lv : Int) (hge : ¬ (5 < lv)) (REC : Hid (∀ q, q < e → ∀ (l : Int), 1 ≤ l → l ≤ 5 → ∀ w1, Below w.heap.size w w1 → Calls Tryd.prog 11 #[.agg #[.slice a len cap], .int .i64 (q : Int), .int .i64 l] w1 fun ev w2 => ev = .returned (.string (atT (l - 1) (tr xs q).tx)) ∧ Below w1.heap.size w1 w2)) :
    Calls Tryd.prog 11 #[.agg #[.slice a len cap], .int .i64 (e : Int), .int .i64 lv] w fun ev w' => ev = .returned (.string (tr xs e).txt) ∧ Below w.heap.size w w' := by
  have hlv : decide (5 < lv) = false := decide_eq_false hge
  have hsz := tr_size hok (e := e) (by have := hR.1; omega)
  have hpl := prts_len hok (e := e) (by have := hR.1; omega)
  have hac := ac_cnt (x := xs.getD e tn0) (by omega)
  rw [hx] at hpl hac
  rw [txt_e, hx] at hsz ⊢
  have hlt := hd (fun i h => prts_lt (xs := xs) (k := e) (i := i) h)
  rw [tx_leaf (by simp)] at hsz ⊢
  clear hge hac hpl hlt REC
  have K0 := CS.made w _ rfl #[.slice a len cap] 29
  have hBB : Below w.heap.size w (w.alloc (.cells #[.slice a len cap] 29)) := old_alloc (Below.refl _ _) _
  have PT := hd (fun w' (h : Below w.heap.size w w') => sParts a len cap xs e w' (hR.old h) hok he)
  have hp := hR.1
  have hl := (okT_in hok).1
  have LV := hd (sLv_1 n s)
  obtain ⟨b, off, x0, y0, s0, rfl, hbl, hx', hf, c0, c1, c2⟩ := (hR.old hBB).at he
  rw [hx] at hx'
  injection hx' with q1 q2 q3
  subst q1 q2 q3
  have K1 := CS.made (w.alloc (.cells #[.slice (some ⟨b, off, none⟩) len cap] 29)) (w.heap.size + 1) (by simp) #[.int .i64 1, .int .i64 n, .string s] 48
  have hB1 := old_alloc hBB (.cells #[.int .i64 1, .int .i64 n, .string s] 48)
  have m0 := K0.cell 0 _ rfl
  replace K0 := K0.alloc (.cells #[.int .i64 1, .int .i64 n, .string s] 48)
  have heI : (0 : Int) ≤ (e : Int) := by omega
  have heJ : (e : Int) < (len : Int) := by omega
  clear hR hok hx hf hbl hp hl he
  go_enter Tryd.func11, Tryd.ntmps11
  go_wp2_with fail
  generalize (w.alloc (.cells #[.slice (some ⟨b, off, none⟩) len cap] 29)).alloc (.cells #[.int .i64 1, .int .i64 n, .string s] 48) = W1 at *
  clear m0 c0 c1 c2
  refine (LV.out _).mono ?_
  rintro ev w2 ⟨rfl, hb2⟩
  replace K0 := K0.later hb2
  replace K1 := K1.later hb2
  have hB2 := old_trans hB1 hb2
  have m0 := K0.cell 0 _ rfl
  have n0 := K1.cell 0 _ rfl
  have n1 := K1.cell 1 _ rfl
  have n2 := K1.cell 2 _ rfl
  clear LV hb2 hB1 hBB
  go_wp2_with fail
  refine (PT.out _ (by with_reducible first | exact hB2 | exact hB2.drew)).mono ?_
  rintro ev w3 ⟨⟨av, cv, rfl, hO⟩, hb3⟩
  clear m0 n0 n1 n2 PT
  replace K0 := (by with_reducible first | exact K0.later hb3 | exact K0.drew.later hb3 : CS w3 _ _)
  replace K1 := (by with_reducible first | exact K1.later hb3 | exact K1.drew.later hb3 : CS w3 _ _)
  have hB3 := (by with_reducible first | exact old_trans hB2 hb3 | exact old_trans hB2.drew hb3 : Below w.heap.size w w3)
  clear hb3 hB2
  have m0 := K0.cell 0 _ rfl
  have n0 := K1.cell 0 _ rfl
  have n1 := K1.cell 1 _ rfl
  have n2 := K1.cell 2 _ rfl
  go_wp2
  go_ret
  exact ⟨rfl, hB3⟩
set_option maxRecDepth 100000 in
set_option maxHeartbeats 4000000 in
theorem sShow_2 {xs : List Tn} (hok : okT xs = true) (a : Option Addr) (len cap e : Nat) (w : World) (hR : InN w a len cap xs) (he : e < len) (n : Int) (s : ByteArray) (hx : xs.getD e tn0 = ⟨2, n, s⟩) (lv : Int) (hge : ¬ (5 < lv)) (REC : Hid (∀ q, q < e → ∀ (l : Int), 1 ≤ l → l ≤ 5 → ∀ w1, Below w.heap.size w w1 → Calls Tryd.prog 11 #[.agg #[.slice a len cap], .int .i64 (q : Int), .int .i64 l] w1 fun ev w2 => ev = .returned (.string (atT (l - 1) (tr xs q).tx)) ∧ Below w1.heap.size w1 w2)) :
    Calls Tryd.prog 11 #[.agg #[.slice a len cap], .int .i64 (e : Int), .int .i64 lv] w fun ev w' => ev = .returned (.string (tr xs e).txt) ∧ Below w.heap.size w w' := by
  have hlv : decide (5 < lv) = false := decide_eq_false hge
  have hsz := tr_size hok (e := e) (by have := hR.1; omega)
  have hpl := prts_len hok (e := e) (by have := hR.1; omega)
  have hac := ac_cnt (x := xs.getD e tn0) (by omega)
  rw [hx] at hpl hac
  rw [txt_e, hx] at hsz ⊢
  have hlt := hd (fun i h => prts_lt (xs := xs) (k := e) (i := i) h)
  rw [tx_leaf (by simp)] at hsz ⊢
  clear hge hac hpl hlt REC
  have K0 := CS.made w _ rfl #[.slice a len cap] 29
  have hBB : Below w.heap.size w (w.alloc (.cells #[.slice a len cap] 29)) := old_alloc (Below.refl _ _) _
  have PT := hd (fun w' (h : Below w.heap.size w w') => sParts a len cap xs e w' (hR.old h) hok he)
  have hp := hR.1
  have hl := (okT_in hok).1
  have LV := hd (sLv_2 n s)
  obtain ⟨b, off, x0, y0, s0, rfl, hbl, hx', hf, c0, c1, c2⟩ := (hR.old hBB).at he
  rw [hx] at hx'
  injection hx' with q1 q2 q3
  subst q1 q2 q3
  have K1 := CS.made (w.alloc (.cells #[.slice (some ⟨b, off, none⟩) len cap] 29)) (w.heap.size + 1) (by simp) #[.int .i64 2, .int .i64 n, .string s] 48
  have hB1 := old_alloc hBB (.cells #[.int .i64 2, .int .i64 n, .string s] 48)
  have m0 := K0.cell 0 _ rfl
  replace K0 := K0.alloc (.cells #[.int .i64 2, .int .i64 n, .string s] 48)
  have heI : (0 : Int) ≤ (e : Int) := by omega
  have heJ : (e : Int) < (len : Int) := by omega
  clear hR hok hx hf hbl hp hl he
  go_enter Tryd.func11, Tryd.ntmps11
  go_wp2_with fail
  generalize (w.alloc (.cells #[.slice (some ⟨b, off, none⟩) len cap] 29)).alloc (.cells #[.int .i64 2, .int .i64 n, .string s] 48) = W1 at *
  clear m0 c0 c1 c2
  refine (LV.out _).mono ?_
  rintro ev w2 ⟨rfl, hb2⟩
  replace K0 := K0.later hb2
  replace K1 := K1.later hb2
  have hB2 := old_trans hB1 hb2
  have m0 := K0.cell 0 _ rfl
  have n0 := K1.cell 0 _ rfl
  have n1 := K1.cell 1 _ rfl
  have n2 := K1.cell 2 _ rfl
  clear LV hb2 hB1 hBB
  go_wp2_with fail
  refine (PT.out _ (by with_reducible first | exact hB2 | exact hB2.drew)).mono ?_
  rintro ev w3 ⟨⟨av, cv, rfl, hO⟩, hb3⟩
  clear m0 n0 n1 n2 PT
  replace K0 := (by with_reducible first | exact K0.later hb3 | exact K0.drew.later hb3 : CS w3 _ _)
  replace K1 := (by with_reducible first | exact K1.later hb3 | exact K1.drew.later hb3 : CS w3 _ _)
  have hB3 := (by with_reducible first | exact old_trans hB2 hb3 | exact old_trans hB2.drew hb3 : Below w.heap.size w w3)
  clear hb3 hB2
  have m0 := K0.cell 0 _ rfl
  have n0 := K1.cell 0 _ rfl
  have n1 := K1.cell 1 _ rfl
  have n2 := K1.cell 2 _ rfl
  go_wp2
  go_ret
  exact ⟨rfl, hB3⟩
set_option maxRecDepth 100000 in
set_option maxHeartbeats 4000000 in
theorem sShow_3 {xs : List Tn} (hok : okT xs = true) (a : Option Addr) (len cap e : Nat) (w : World) (hR : InN w a len cap xs) (he : e < len) (n : Int) (s : ByteArray) (hx : xs.getD e tn0 = ⟨3, n, s⟩) (lv : Int) (hge : ¬ (3 < lv)) (REC : Hid (∀ q, q < e → ∀ (l : Int), 1 ≤ l → l ≤ 5 → ∀ w1, Below w.heap.size w w1 → Calls Tryd.prog 11 #[.agg #[.slice a len cap], .int .i64 (q : Int), .int .i64 l] w1 fun ev w2 => ev = .returned (.string (atT (l - 1) (tr xs q).tx)) ∧ Below w1.heap.size w1 w2)) :
    Calls Tryd.prog 11 #[.agg #[.slice a len cap], .int .i64 (e : Int), .int .i64 lv] w fun ev w' => ev = .returned (.string (tr xs e).txt) ∧ Below w.heap.size w w' := by
  have hlv : decide (3 < lv) = false := decide_eq_false hge
  have hsz := tr_size hok (e := e) (by have := hR.1; omega)
  have hpl := prts_len hok (e := e) (by have := hR.1; omega)
  have hac := ac_cnt (x := xs.getD e tn0) (by omega)
  rw [hx] at hpl hac
  rw [txt_e, hx] at hsz ⊢
  have hlt := hd (fun i h => prts_lt (xs := xs) (k := e) (i := i) h)
  have hone : (prts xs e).length = 1 := by have := hac.2.1 (by simp); omega
  rw [tx_minus rfl, tx_at (by omega)] at hsz ⊢
  have hq := hlt.out 0 (by omega)
  have R0 := hd (REC.out _ hq 3 (by decide) (by decide))
  rw [show (3 : Int) - 1 = 2 from rfl] at R0
  rw [ByteArray.size_append] at hsz
  have e1 : (⟨#[45]⟩ : ByteArray).size = 1 := rfl
  generalize atT 2 (tr xs ((prts xs e).getD 0 0)).tx = s1 at *
  have y1 : ∀ W : World, (Op.stringOp .add ⟨#[45]⟩ s1).run Tryd.prog W = .ok (.string (⟨#[45]⟩ ++ s1)) W := fun W => run_string_add_sum W _ _ (by omega)
  clear hge hac hpl hlt REC hsz e1
  have K0 := CS.made w _ rfl #[.slice a len cap] 29
  have hBB : Below w.heap.size w (w.alloc (.cells #[.slice a len cap] 29)) := old_alloc (Below.refl _ _) _
  have PT := hd (fun w' (h : Below w.heap.size w w') => sParts a len cap xs e w' (hR.old h) hok he)
  have hp := hR.1
  have hl := (okT_in hok).1
  have LV := hd (sLv_3 n s)
  obtain ⟨b, off, x0, y0, s0, rfl, hbl, hx', hf, c0, c1, c2⟩ := (hR.old hBB).at he
  rw [hx] at hx'
  injection hx' with q1 q2 q3
  subst q1 q2 q3
  have K1 := CS.made (w.alloc (.cells #[.slice (some ⟨b, off, none⟩) len cap] 29)) (w.heap.size + 1) (by simp) #[.int .i64 3, .int .i64 n, .string s] 48
  have hB1 := old_alloc hBB (.cells #[.int .i64 3, .int .i64 n, .string s] 48)
  have m0 := K0.cell 0 _ rfl
  replace K0 := K0.alloc (.cells #[.int .i64 3, .int .i64 n, .string s] 48)
  have heI : (0 : Int) ≤ (e : Int) := by omega
  have heJ : (e : Int) < (len : Int) := by omega
  clear hR hok hx hf hbl hp hl he
  go_enter Tryd.func11, Tryd.ntmps11
  go_wp2_with fail
  generalize (w.alloc (.cells #[.slice (some ⟨b, off, none⟩) len cap] 29)).alloc (.cells #[.int .i64 3, .int .i64 n, .string s] 48) = W1 at *
  clear m0 c0 c1 c2
  refine (LV.out _).mono ?_
  rintro ev w2 ⟨rfl, hb2⟩
  replace K0 := K0.later hb2
  replace K1 := K1.later hb2
  have hB2 := old_trans hB1 hb2
  have m0 := K0.cell 0 _ rfl
  have n0 := K1.cell 0 _ rfl
  have n1 := K1.cell 1 _ rfl
  have n2 := K1.cell 2 _ rfl
  clear LV hb2 hB1 hBB
  go_wp2_with fail
  refine (PT.out _ (by with_reducible first | exact hB2 | exact hB2.drew)).mono ?_
  rintro ev w3 ⟨⟨av, cv, rfl, hO⟩, hb3⟩
  clear m0 n0 n1 n2 PT
  replace K0 := (by with_reducible first | exact K0.later hb3 | exact K0.drew.later hb3 : CS w3 _ _)
  replace K1 := (by with_reducible first | exact K1.later hb3 | exact K1.drew.later hb3 : CS w3 _ _)
  have hB3 := (by with_reducible first | exact old_trans hB2 hb3 | exact old_trans hB2.drew hb3 : Below w.heap.size w w3)
  clear hb3 hB2
  have m0 := K0.cell 0 _ rfl
  have n0 := K1.cell 0 _ rfl
  have n1 := K1.cell 1 _ rfl
  have n2 := K1.cell 2 _ rfl
  obtain ⟨bq, oq, Q, rfl, hbq, hQ, -, dQ0⟩ := (OI.inI hO).at (k := 0) (by rw [iz_len]; omega)
  rw [iz_getD _ _ (by omega)] at hQ
  subst hQ
  rw [Nat.add_zero] at dQ0
  generalize (prts xs e).getD 0 0 = p0 at *
  rw [hone]
  clear hO hone
  have cQ0 := dQ0
  go_upto_region 10 with fail
  have hc : Below w3.heap.size w3 w3 := Below.refl _ _
  go_region_held3 (fun w'' => w''.cell? ⟨w.heap.size, 0, none⟩ = some (.slice (some ⟨b, off, none⟩) len cap) ∧ w''.cell? ⟨bq, oq, none⟩ = some (.int .i64 (p0 : Int))) (go_keep) (first | (go_at_call 11; refine (R0.out _ (old_trans hB3 (by with_reducible first | exact hc | exact Below.drew hc | exact old_alloc hc _ | exact old_alloc (Below.drew hc) _ | exact Below.drew (old_alloc hc _)))).mono ?_; rintro ev wx ⟨rfl, hbx⟩; have hc := (by with_reducible first | exact old_trans hc hbx | exact old_trans (Below.drew hc) hbx | exact old_trans (old_alloc hc _) hbx | exact old_trans (old_alloc (Below.drew hc) _) hbx | exact old_trans (Below.drew (old_alloc hc _)) hbx : Below w3.heap.size w3 wx); have m0 := (K0.later hc).cell 0 _ rfl; have cQ0 := (hc.cell (p := ⟨bq, oq, none⟩) hbq).trans dQ0))
  all_goals
    go_wp2
    go_ret
    exact ⟨rfl, old_trans hB3 (by with_reducible first | exact hc | exact Below.drew hc | exact old_alloc hc _ | exact old_alloc (Below.drew hc) _ | exact Below.drew (old_alloc hc _))⟩
end Go.Proofs.YtknibhdnbkmkiaaDoor

/- The text of a term, by the specification: sums and products. Nothing that was there is written. -/
namespace Go.Proofs.YtknibhdnbkmkiaaDoor
open Go.RowKit
set_option linter.unusedVariables false
set_option maxRecDepth 100000

set_option maxRecDepth 100000 in
set_option maxHeartbeats 4000000 in
theorem sShow_4 {xs : List Tn} (hok : okT xs = true) (a : Option Addr) (len cap e : Nat) (w : World) (hR : InN w a len cap xs) (he : e < len) (n : Int) (s : ByteArray) (hx : xs.getD e tn0 = ⟨4, n, s⟩) (lv : Int) (hge : ¬ (1 < lv)) (REC : Hid (∀ q, q < e → ∀ (l : Int), 1 ≤ l → l ≤ 5 → ∀ w1, Below w.heap.size w w1 → Calls Tryd.prog 11 #[.agg #[.slice a len cap], .int .i64 (q : Int), .int .i64 l] w1 fun ev w2 => ev = .returned (.string (atT (l - 1) (tr xs q).tx)) ∧ Below w1.heap.size w1 w2)) :
    Calls Tryd.prog 11 #[.agg #[.slice a len cap], .int .i64 (e : Int), .int .i64 lv] w fun ev w' => ev = .returned (.string (tr xs e).txt) ∧ Below w.heap.size w w' := by
  have hlv : decide (1 < lv) = false := decide_eq_false hge
  have hsz := tr_size hok (e := e) (by have := hR.1; omega)
  have hpl := prts_len hok (e := e) (by have := hR.1; omega)
  have hac := ac_cnt (x := xs.getD e tn0) (by omega)
  rw [hx] at hpl hac
  rw [txt_e, hx] at hsz ⊢
  have hlt := hd (fun i h => prts_lt (xs := xs) (k := e) (i := i) h)
  have htwo : (prts xs e).length = 2 := by have := hac.2.2.1 (by simp); omega
  rw [tx_joint (sg := ⟨#[43]⟩) (lv := 0) rfl, tx_at (by omega), tx_at (by omega)] at hsz ⊢
  have hq := hlt.out 0 (by omega)
  have hq' := hlt.out 1 (by omega)
  have R0 := hd (REC.out _ hq 1 (by decide) (by decide))
  have R1 := hd (REC.out _ hq' 2 (by decide) (by decide))
  rw [show (1 : Int) - 1 = 0 from rfl] at R0
  rw [show (2 : Int) - 1 = 0 + 1 from rfl] at R1
  rw [← app_three] at hsz ⊢
  rw [ByteArray.size_append, ByteArray.size_append] at hsz
  have e1 : (⟨#[32, 43, 32]⟩ : ByteArray).size = 3 := rfl
  generalize atT 0 (tr xs ((prts xs e).getD 0 0)).tx = s1 at *
  generalize atT (0 + 1) (tr xs ((prts xs e).getD 1 0)).tx = s2 at *
  have z1 : (s1 ++ ⟨#[32, 43, 32]⟩ : ByteArray).size = s1.size + 3 := by rw [ByteArray.size_append]; rfl
  have y1 : ∀ W : World, (Op.stringOp .add s1 ⟨#[32, 43, 32]⟩).run Tryd.prog W = .ok (.string (s1 ++ ⟨#[32, 43, 32]⟩)) W := fun W => run_string_add_sum W _ _ (by omega)
  have y2 : ∀ W : World, (Op.stringOp .add (s1 ++ ⟨#[32, 43, 32]⟩) s2).run Tryd.prog W = .ok (.string (s1 ++ ⟨#[32, 43, 32]⟩ ++ s2)) W := fun W => run_string_add_sum W _ _ (by omega)
  clear hge hac hpl hlt REC hsz e1 z1
  have K0 := CS.made w _ rfl #[.slice a len cap] 29
  have hBB : Below w.heap.size w (w.alloc (.cells #[.slice a len cap] 29)) := old_alloc (Below.refl _ _) _
  have PT := hd (fun w' (h : Below w.heap.size w w') => sParts a len cap xs e w' (hR.old h) hok he)
  have hp := hR.1
  have hl := (okT_in hok).1
  have LV := hd (sLv_4 n s)
  obtain ⟨b, off, x0, y0, s0, rfl, hbl, hx', hf, c0, c1, c2⟩ := (hR.old hBB).at he
  rw [hx] at hx'
  injection hx' with q1 q2 q3
  subst q1 q2 q3
  have K1 := CS.made (w.alloc (.cells #[.slice (some ⟨b, off, none⟩) len cap] 29)) (w.heap.size + 1) (by simp) #[.int .i64 4, .int .i64 n, .string s] 48
  have hB1 := old_alloc hBB (.cells #[.int .i64 4, .int .i64 n, .string s] 48)
  have m0 := K0.cell 0 _ rfl
  replace K0 := K0.alloc (.cells #[.int .i64 4, .int .i64 n, .string s] 48)
  have heI : (0 : Int) ≤ (e : Int) := by omega
  have heJ : (e : Int) < (len : Int) := by omega
  clear hR hok hx hf hbl hp hl he
  go_enter Tryd.func11, Tryd.ntmps11
  go_wp2_with fail
  generalize (w.alloc (.cells #[.slice (some ⟨b, off, none⟩) len cap] 29)).alloc (.cells #[.int .i64 4, .int .i64 n, .string s] 48) = W1 at *
  clear m0 c0 c1 c2
  refine (LV.out _).mono ?_
  rintro ev w2 ⟨rfl, hb2⟩
  replace K0 := K0.later hb2
  replace K1 := K1.later hb2
  have hB2 := old_trans hB1 hb2
  have m0 := K0.cell 0 _ rfl
  have n0 := K1.cell 0 _ rfl
  have n1 := K1.cell 1 _ rfl
  have n2 := K1.cell 2 _ rfl
  clear LV hb2 hB1 hBB
  go_wp2_with fail
  refine (PT.out _ (by with_reducible first | exact hB2 | exact hB2.drew)).mono ?_
  rintro ev w3 ⟨⟨av, cv, rfl, hO⟩, hb3⟩
  clear m0 n0 n1 n2 PT
  replace K0 := (by with_reducible first | exact K0.later hb3 | exact K0.drew.later hb3 : CS w3 _ _)
  replace K1 := (by with_reducible first | exact K1.later hb3 | exact K1.drew.later hb3 : CS w3 _ _)
  have hB3 := (by with_reducible first | exact old_trans hB2 hb3 | exact old_trans hB2.drew hb3 : Below w.heap.size w w3)
  clear hb3 hB2
  have m0 := K0.cell 0 _ rfl
  have n0 := K1.cell 0 _ rfl
  have n1 := K1.cell 1 _ rfl
  have n2 := K1.cell 2 _ rfl
  obtain ⟨bq, oq, Q, rfl, hbq, hQ, -, dQ0⟩ := (OI.inI hO).at (k := 0) (by rw [iz_len]; omega)
  obtain ⟨bq', oq', Q', hav, -, hQ', -, dQ1⟩ := (OI.inI hO).at (k := 1) (by rw [iz_len]; omega)
  injection hav with hav
  injection hav with h1 h2
  subst h1 h2
  rw [iz_getD _ _ (by omega)] at hQ hQ'
  subst hQ hQ'
  rw [Nat.add_zero] at dQ0
  generalize (prts xs e).getD 0 0 = p0 at *
  generalize (prts xs e).getD 1 0 = p1 at *
  rw [htwo]
  clear hO htwo
  have cQ0 := dQ0
  have cQ1 := dQ1
  go_upto_region 12 with fail
  have hc : Below w3.heap.size w3 w3 := Below.refl _ _
  go_region_held3 (fun w'' => w''.cell? ⟨w.heap.size, 0, none⟩ = some (.slice (some ⟨b, off, none⟩) len cap) ∧ w''.cell? ⟨bq, oq, none⟩ = some (.int .i64 (p0 : Int)) ∧ w''.cell? ⟨bq, oq + 1, none⟩ = some (.int .i64 (p1 : Int))) (go_keep) (first | (go_at_call_of 11 (Value.int .i64 1); refine (R0.out _ (old_trans hB3 (by with_reducible first | exact hc | exact Below.drew hc | exact old_alloc hc _ | exact old_alloc (Below.drew hc) _ | exact Below.drew (old_alloc hc _)))).mono ?_; rintro ev wx ⟨rfl, hbx⟩; have hc := (by with_reducible first | exact old_trans hc hbx | exact old_trans (Below.drew hc) hbx | exact old_trans (old_alloc hc _) hbx | exact old_trans (old_alloc (Below.drew hc) _) hbx | exact old_trans (Below.drew (old_alloc hc _)) hbx : Below w3.heap.size w3 wx); have m0 := (K0.later hc).cell 0 _ rfl; have cQ0 := (hc.cell (p := ⟨bq, oq, none⟩) hbq).trans dQ0; have cQ1 := (hc.cell (p := ⟨bq, oq + 1, none⟩) hbq).trans dQ1) | (go_at_call_of 11 (Value.int .i64 2); refine (R1.out _ (old_trans hB3 (by with_reducible first | exact hc | exact Below.drew hc | exact old_alloc hc _ | exact old_alloc (Below.drew hc) _ | exact Below.drew (old_alloc hc _)))).mono ?_; rintro ev wx ⟨rfl, hbx⟩; have hc := (by with_reducible first | exact old_trans hc hbx | exact old_trans (Below.drew hc) hbx | exact old_trans (old_alloc hc _) hbx | exact old_trans (old_alloc (Below.drew hc) _) hbx | exact old_trans (Below.drew (old_alloc hc _)) hbx : Below w3.heap.size w3 wx); have m0 := (K0.later hc).cell 0 _ rfl; have cQ0 := (hc.cell (p := ⟨bq, oq, none⟩) hbq).trans dQ0; have cQ1 := (hc.cell (p := ⟨bq, oq + 1, none⟩) hbq).trans dQ1))
  all_goals
    go_wp2
    go_ret
    exact ⟨rfl, old_trans hB3 (by with_reducible first | exact hc | exact Below.drew hc | exact old_alloc hc _ | exact old_alloc (Below.drew hc) _ | exact Below.drew (old_alloc hc _))⟩
set_option maxRecDepth 100000 in
set_option maxHeartbeats 4000000 in
theorem sShow_5 {xs : List Tn} (hok : okT xs = true) (a : Option Addr) (len cap e : Nat) (w : World) (hR : InN w a len cap xs) (he : e < len) (n : Int) (s : ByteArray) (hx : xs.getD e tn0 = ⟨5, n, s⟩) (lv : Int) (hge : ¬ (1 < lv)) (REC : Hid (∀ q, q < e → ∀ (l : Int), 1 ≤ l → l ≤ 5 → ∀ w1, Below w.heap.size w w1 → Calls Tryd.prog 11 #[.agg #[.slice a len cap], .int .i64 (q : Int), .int .i64 l] w1 fun ev w2 => ev = .returned (.string (atT (l - 1) (tr xs q).tx)) ∧ Below w1.heap.size w1 w2)) :
    Calls Tryd.prog 11 #[.agg #[.slice a len cap], .int .i64 (e : Int), .int .i64 lv] w fun ev w' => ev = .returned (.string (tr xs e).txt) ∧ Below w.heap.size w w' := by
  have hlv : decide (1 < lv) = false := decide_eq_false hge
  have hsz := tr_size hok (e := e) (by have := hR.1; omega)
  have hpl := prts_len hok (e := e) (by have := hR.1; omega)
  have hac := ac_cnt (x := xs.getD e tn0) (by omega)
  rw [hx] at hpl hac
  rw [txt_e, hx] at hsz ⊢
  have hlt := hd (fun i h => prts_lt (xs := xs) (k := e) (i := i) h)
  have htwo : (prts xs e).length = 2 := by have := hac.2.2.1 (by simp); omega
  rw [tx_joint (sg := ⟨#[45]⟩) (lv := 0) rfl, tx_at (by omega), tx_at (by omega)] at hsz ⊢
  have hq := hlt.out 0 (by omega)
  have hq' := hlt.out 1 (by omega)
  have R0 := hd (REC.out _ hq 1 (by decide) (by decide))
  have R1 := hd (REC.out _ hq' 2 (by decide) (by decide))
  rw [show (1 : Int) - 1 = 0 from rfl] at R0
  rw [show (2 : Int) - 1 = 0 + 1 from rfl] at R1
  rw [← app_three] at hsz ⊢
  rw [ByteArray.size_append, ByteArray.size_append] at hsz
  have e1 : (⟨#[32, 45, 32]⟩ : ByteArray).size = 3 := rfl
  generalize atT 0 (tr xs ((prts xs e).getD 0 0)).tx = s1 at *
  generalize atT (0 + 1) (tr xs ((prts xs e).getD 1 0)).tx = s2 at *
  have z1 : (s1 ++ ⟨#[32, 45, 32]⟩ : ByteArray).size = s1.size + 3 := by rw [ByteArray.size_append]; rfl
  have y1 : ∀ W : World, (Op.stringOp .add s1 ⟨#[32, 45, 32]⟩).run Tryd.prog W = .ok (.string (s1 ++ ⟨#[32, 45, 32]⟩)) W := fun W => run_string_add_sum W _ _ (by omega)
  have y2 : ∀ W : World, (Op.stringOp .add (s1 ++ ⟨#[32, 45, 32]⟩) s2).run Tryd.prog W = .ok (.string (s1 ++ ⟨#[32, 45, 32]⟩ ++ s2)) W := fun W => run_string_add_sum W _ _ (by omega)
  clear hge hac hpl hlt REC hsz e1 z1
  have K0 := CS.made w _ rfl #[.slice a len cap] 29
  have hBB : Below w.heap.size w (w.alloc (.cells #[.slice a len cap] 29)) := old_alloc (Below.refl _ _) _
  have PT := hd (fun w' (h : Below w.heap.size w w') => sParts a len cap xs e w' (hR.old h) hok he)
  have hp := hR.1
  have hl := (okT_in hok).1
  have LV := hd (sLv_5 n s)
  obtain ⟨b, off, x0, y0, s0, rfl, hbl, hx', hf, c0, c1, c2⟩ := (hR.old hBB).at he
  rw [hx] at hx'
  injection hx' with q1 q2 q3
  subst q1 q2 q3
  have K1 := CS.made (w.alloc (.cells #[.slice (some ⟨b, off, none⟩) len cap] 29)) (w.heap.size + 1) (by simp) #[.int .i64 5, .int .i64 n, .string s] 48
  have hB1 := old_alloc hBB (.cells #[.int .i64 5, .int .i64 n, .string s] 48)
  have m0 := K0.cell 0 _ rfl
  replace K0 := K0.alloc (.cells #[.int .i64 5, .int .i64 n, .string s] 48)
  have heI : (0 : Int) ≤ (e : Int) := by omega
  have heJ : (e : Int) < (len : Int) := by omega
  clear hR hok hx hf hbl hp hl he
  go_enter Tryd.func11, Tryd.ntmps11
  go_wp2_with fail
  generalize (w.alloc (.cells #[.slice (some ⟨b, off, none⟩) len cap] 29)).alloc (.cells #[.int .i64 5, .int .i64 n, .string s] 48) = W1 at *
  clear m0 c0 c1 c2
  refine (LV.out _).mono ?_
  rintro ev w2 ⟨rfl, hb2⟩
  replace K0 := K0.later hb2
  replace K1 := K1.later hb2
  have hB2 := old_trans hB1 hb2
  have m0 := K0.cell 0 _ rfl
  have n0 := K1.cell 0 _ rfl
  have n1 := K1.cell 1 _ rfl
  have n2 := K1.cell 2 _ rfl
  clear LV hb2 hB1 hBB
  go_wp2_with fail
  refine (PT.out _ (by with_reducible first | exact hB2 | exact hB2.drew)).mono ?_
  rintro ev w3 ⟨⟨av, cv, rfl, hO⟩, hb3⟩
  clear m0 n0 n1 n2 PT
  replace K0 := (by with_reducible first | exact K0.later hb3 | exact K0.drew.later hb3 : CS w3 _ _)
  replace K1 := (by with_reducible first | exact K1.later hb3 | exact K1.drew.later hb3 : CS w3 _ _)
  have hB3 := (by with_reducible first | exact old_trans hB2 hb3 | exact old_trans hB2.drew hb3 : Below w.heap.size w w3)
  clear hb3 hB2
  have m0 := K0.cell 0 _ rfl
  have n0 := K1.cell 0 _ rfl
  have n1 := K1.cell 1 _ rfl
  have n2 := K1.cell 2 _ rfl
  obtain ⟨bq, oq, Q, rfl, hbq, hQ, -, dQ0⟩ := (OI.inI hO).at (k := 0) (by rw [iz_len]; omega)
  obtain ⟨bq', oq', Q', hav, -, hQ', -, dQ1⟩ := (OI.inI hO).at (k := 1) (by rw [iz_len]; omega)
  injection hav with hav
  injection hav with h1 h2
  subst h1 h2
  rw [iz_getD _ _ (by omega)] at hQ hQ'
  subst hQ hQ'
  rw [Nat.add_zero] at dQ0
  generalize (prts xs e).getD 0 0 = p0 at *
  generalize (prts xs e).getD 1 0 = p1 at *
  rw [htwo]
  clear hO htwo
  have cQ0 := dQ0
  have cQ1 := dQ1
  go_upto_region 14 with fail
  have hc : Below w3.heap.size w3 w3 := Below.refl _ _
  go_region_held3 (fun w'' => w''.cell? ⟨w.heap.size, 0, none⟩ = some (.slice (some ⟨b, off, none⟩) len cap) ∧ w''.cell? ⟨bq, oq, none⟩ = some (.int .i64 (p0 : Int)) ∧ w''.cell? ⟨bq, oq + 1, none⟩ = some (.int .i64 (p1 : Int))) (go_keep) (first | (go_at_call_of 11 (Value.int .i64 1); refine (R0.out _ (old_trans hB3 (by with_reducible first | exact hc | exact Below.drew hc | exact old_alloc hc _ | exact old_alloc (Below.drew hc) _ | exact Below.drew (old_alloc hc _)))).mono ?_; rintro ev wx ⟨rfl, hbx⟩; have hc := (by with_reducible first | exact old_trans hc hbx | exact old_trans (Below.drew hc) hbx | exact old_trans (old_alloc hc _) hbx | exact old_trans (old_alloc (Below.drew hc) _) hbx | exact old_trans (Below.drew (old_alloc hc _)) hbx : Below w3.heap.size w3 wx); have m0 := (K0.later hc).cell 0 _ rfl; have cQ0 := (hc.cell (p := ⟨bq, oq, none⟩) hbq).trans dQ0; have cQ1 := (hc.cell (p := ⟨bq, oq + 1, none⟩) hbq).trans dQ1) | (go_at_call_of 11 (Value.int .i64 2); refine (R1.out _ (old_trans hB3 (by with_reducible first | exact hc | exact Below.drew hc | exact old_alloc hc _ | exact old_alloc (Below.drew hc) _ | exact Below.drew (old_alloc hc _)))).mono ?_; rintro ev wx ⟨rfl, hbx⟩; have hc := (by with_reducible first | exact old_trans hc hbx | exact old_trans (Below.drew hc) hbx | exact old_trans (old_alloc hc _) hbx | exact old_trans (old_alloc (Below.drew hc) _) hbx | exact old_trans (Below.drew (old_alloc hc _)) hbx : Below w3.heap.size w3 wx); have m0 := (K0.later hc).cell 0 _ rfl; have cQ0 := (hc.cell (p := ⟨bq, oq, none⟩) hbq).trans dQ0; have cQ1 := (hc.cell (p := ⟨bq, oq + 1, none⟩) hbq).trans dQ1))
  all_goals
    go_wp2
    go_ret
    exact ⟨rfl, old_trans hB3 (by with_reducible first | exact hc | exact Below.drew hc | exact old_alloc hc _ | exact old_alloc (Below.drew hc) _ | exact Below.drew (old_alloc hc _))⟩
set_option maxRecDepth 100000 in
set_option maxHeartbeats 4000000 in
theorem sShow_6 {xs : List Tn} (hok : okT xs = true) (a : Option Addr) (len cap e : Nat) (w : World) (hR : InN w a len cap xs) (he : e < len) (n : Int) (s : ByteArray) (hx : xs.getD e tn0 = ⟨6, n, s⟩) (lv : Int) (hge : ¬ (2 < lv)) (REC : Hid (∀ q, q < e → ∀ (l : Int), 1 ≤ l → l ≤ 5 → ∀ w1, Below w.heap.size w w1 → Calls Tryd.prog 11 #[.agg #[.slice a len cap], .int .i64 (q : Int), .int .i64 l] w1 fun ev w2 => ev = .returned (.string (atT (l - 1) (tr xs q).tx)) ∧ Below w1.heap.size w1 w2)) :
    Calls Tryd.prog 11 #[.agg #[.slice a len cap], .int .i64 (e : Int), .int .i64 lv] w fun ev w' => ev = .returned (.string (tr xs e).txt) ∧ Below w.heap.size w w' := by
  have hlv : decide (2 < lv) = false := decide_eq_false hge
  have hsz := tr_size hok (e := e) (by have := hR.1; omega)
  have hpl := prts_len hok (e := e) (by have := hR.1; omega)
  have hac := ac_cnt (x := xs.getD e tn0) (by omega)
  rw [hx] at hpl hac
  rw [txt_e, hx] at hsz ⊢
  have hlt := hd (fun i h => prts_lt (xs := xs) (k := e) (i := i) h)
  have htwo : (prts xs e).length = 2 := by have := hac.2.2.1 (by simp); omega
  rw [tx_joint (sg := ⟨#[42]⟩) (lv := 1) rfl, tx_at (by omega), tx_at (by omega)] at hsz ⊢
  have hq := hlt.out 0 (by omega)
  have hq' := hlt.out 1 (by omega)
  have R0 := hd (REC.out _ hq 2 (by decide) (by decide))
  have R1 := hd (REC.out _ hq' 3 (by decide) (by decide))
  rw [show (2 : Int) - 1 = 1 from rfl] at R0
  rw [show (3 : Int) - 1 = 1 + 1 from rfl] at R1
  rw [← app_three] at hsz ⊢
  rw [ByteArray.size_append, ByteArray.size_append] at hsz
  have e1 : (⟨#[32, 42, 32]⟩ : ByteArray).size = 3 := rfl
  generalize atT 1 (tr xs ((prts xs e).getD 0 0)).tx = s1 at *
  generalize atT (1 + 1) (tr xs ((prts xs e).getD 1 0)).tx = s2 at *
  have z1 : (s1 ++ ⟨#[32, 42, 32]⟩ : ByteArray).size = s1.size + 3 := by rw [ByteArray.size_append]; rfl
  have y1 : ∀ W : World, (Op.stringOp .add s1 ⟨#[32, 42, 32]⟩).run Tryd.prog W = .ok (.string (s1 ++ ⟨#[32, 42, 32]⟩)) W := fun W => run_string_add_sum W _ _ (by omega)
  have y2 : ∀ W : World, (Op.stringOp .add (s1 ++ ⟨#[32, 42, 32]⟩) s2).run Tryd.prog W = .ok (.string (s1 ++ ⟨#[32, 42, 32]⟩ ++ s2)) W := fun W => run_string_add_sum W _ _ (by omega)
  clear hge hac hpl hlt REC hsz e1 z1
  have K0 := CS.made w _ rfl #[.slice a len cap] 29
  have hBB : Below w.heap.size w (w.alloc (.cells #[.slice a len cap] 29)) := old_alloc (Below.refl _ _) _
  have PT := hd (fun w' (h : Below w.heap.size w w') => sParts a len cap xs e w' (hR.old h) hok he)
  have hp := hR.1
  have hl := (okT_in hok).1
  have LV := hd (sLv_6 n s)
  obtain ⟨b, off, x0, y0, s0, rfl, hbl, hx', hf, c0, c1, c2⟩ := (hR.old hBB).at he
  rw [hx] at hx'
  injection hx' with q1 q2 q3
  subst q1 q2 q3
  have K1 := CS.made (w.alloc (.cells #[.slice (some ⟨b, off, none⟩) len cap] 29)) (w.heap.size + 1) (by simp) #[.int .i64 6, .int .i64 n, .string s] 48
  have hB1 := old_alloc hBB (.cells #[.int .i64 6, .int .i64 n, .string s] 48)
  have m0 := K0.cell 0 _ rfl
  replace K0 := K0.alloc (.cells #[.int .i64 6, .int .i64 n, .string s] 48)
  have heI : (0 : Int) ≤ (e : Int) := by omega
  have heJ : (e : Int) < (len : Int) := by omega
  clear hR hok hx hf hbl hp hl he
  go_enter Tryd.func11, Tryd.ntmps11
  go_wp2_with fail
  generalize (w.alloc (.cells #[.slice (some ⟨b, off, none⟩) len cap] 29)).alloc (.cells #[.int .i64 6, .int .i64 n, .string s] 48) = W1 at *
  clear m0 c0 c1 c2
  refine (LV.out _).mono ?_
  rintro ev w2 ⟨rfl, hb2⟩
  replace K0 := K0.later hb2
  replace K1 := K1.later hb2
  have hB2 := old_trans hB1 hb2
  have m0 := K0.cell 0 _ rfl
  have n0 := K1.cell 0 _ rfl
  have n1 := K1.cell 1 _ rfl
  have n2 := K1.cell 2 _ rfl
  clear LV hb2 hB1 hBB
  go_wp2_with fail
  refine (PT.out _ (by with_reducible first | exact hB2 | exact hB2.drew)).mono ?_
  rintro ev w3 ⟨⟨av, cv, rfl, hO⟩, hb3⟩
  clear m0 n0 n1 n2 PT
  replace K0 := (by with_reducible first | exact K0.later hb3 | exact K0.drew.later hb3 : CS w3 _ _)
  replace K1 := (by with_reducible first | exact K1.later hb3 | exact K1.drew.later hb3 : CS w3 _ _)
  have hB3 := (by with_reducible first | exact old_trans hB2 hb3 | exact old_trans hB2.drew hb3 : Below w.heap.size w w3)
  clear hb3 hB2
  have m0 := K0.cell 0 _ rfl
  have n0 := K1.cell 0 _ rfl
  have n1 := K1.cell 1 _ rfl
  have n2 := K1.cell 2 _ rfl
  obtain ⟨bq, oq, Q, rfl, hbq, hQ, -, dQ0⟩ := (OI.inI hO).at (k := 0) (by rw [iz_len]; omega)
  obtain ⟨bq', oq', Q', hav, -, hQ', -, dQ1⟩ := (OI.inI hO).at (k := 1) (by rw [iz_len]; omega)
  injection hav with hav
  injection hav with h1 h2
  subst h1 h2
  rw [iz_getD _ _ (by omega)] at hQ hQ'
  subst hQ hQ'
  rw [Nat.add_zero] at dQ0
  generalize (prts xs e).getD 0 0 = p0 at *
  generalize (prts xs e).getD 1 0 = p1 at *
  rw [htwo]
  clear hO htwo
  have cQ0 := dQ0
  have cQ1 := dQ1
  go_upto_region 16 with fail
  have hc : Below w3.heap.size w3 w3 := Below.refl _ _
  go_region_held3 (fun w'' => w''.cell? ⟨w.heap.size, 0, none⟩ = some (.slice (some ⟨b, off, none⟩) len cap) ∧ w''.cell? ⟨bq, oq, none⟩ = some (.int .i64 (p0 : Int)) ∧ w''.cell? ⟨bq, oq + 1, none⟩ = some (.int .i64 (p1 : Int))) (go_keep) (first | (go_at_call_of 11 (Value.int .i64 2); refine (R0.out _ (old_trans hB3 (by with_reducible first | exact hc | exact Below.drew hc | exact old_alloc hc _ | exact old_alloc (Below.drew hc) _ | exact Below.drew (old_alloc hc _)))).mono ?_; rintro ev wx ⟨rfl, hbx⟩; have hc := (by with_reducible first | exact old_trans hc hbx | exact old_trans (Below.drew hc) hbx | exact old_trans (old_alloc hc _) hbx | exact old_trans (old_alloc (Below.drew hc) _) hbx | exact old_trans (Below.drew (old_alloc hc _)) hbx : Below w3.heap.size w3 wx); have m0 := (K0.later hc).cell 0 _ rfl; have cQ0 := (hc.cell (p := ⟨bq, oq, none⟩) hbq).trans dQ0; have cQ1 := (hc.cell (p := ⟨bq, oq + 1, none⟩) hbq).trans dQ1) | (go_at_call_of 11 (Value.int .i64 3); refine (R1.out _ (old_trans hB3 (by with_reducible first | exact hc | exact Below.drew hc | exact old_alloc hc _ | exact old_alloc (Below.drew hc) _ | exact Below.drew (old_alloc hc _)))).mono ?_; rintro ev wx ⟨rfl, hbx⟩; have hc := (by with_reducible first | exact old_trans hc hbx | exact old_trans (Below.drew hc) hbx | exact old_trans (old_alloc hc _) hbx | exact old_trans (old_alloc (Below.drew hc) _) hbx | exact old_trans (Below.drew (old_alloc hc _)) hbx : Below w3.heap.size w3 wx); have m0 := (K0.later hc).cell 0 _ rfl; have cQ0 := (hc.cell (p := ⟨bq, oq, none⟩) hbq).trans dQ0; have cQ1 := (hc.cell (p := ⟨bq, oq + 1, none⟩) hbq).trans dQ1))
  all_goals
    go_wp2
    go_ret
    exact ⟨rfl, old_trans hB3 (by with_reducible first | exact hc | exact Below.drew hc | exact old_alloc hc _ | exact old_alloc (Below.drew hc) _ | exact Below.drew (old_alloc hc _))⟩
set_option maxRecDepth 100000 in
set_option maxHeartbeats 4000000 in
theorem sShow_7 {xs : List Tn} (hok : okT xs = true) (a : Option Addr) (len cap e : Nat) (w : World) (hR : InN w a len cap xs) (he : e < len) (n : Int) (s : ByteArray) (hx : xs.getD e tn0 = ⟨7, n, s⟩) (lv : Int) (hge : ¬ (2 < lv)) (REC : Hid (∀ q, q < e → ∀ (l : Int), 1 ≤ l → l ≤ 5 → ∀ w1, Below w.heap.size w w1 → Calls Tryd.prog 11 #[.agg #[.slice a len cap], .int .i64 (q : Int), .int .i64 l] w1 fun ev w2 => ev = .returned (.string (atT (l - 1) (tr xs q).tx)) ∧ Below w1.heap.size w1 w2)) :
    Calls Tryd.prog 11 #[.agg #[.slice a len cap], .int .i64 (e : Int), .int .i64 lv] w fun ev w' => ev = .returned (.string (tr xs e).txt) ∧ Below w.heap.size w w' := by
  have hlv : decide (2 < lv) = false := decide_eq_false hge
  have hsz := tr_size hok (e := e) (by have := hR.1; omega)
  have hpl := prts_len hok (e := e) (by have := hR.1; omega)
  have hac := ac_cnt (x := xs.getD e tn0) (by omega)
  rw [hx] at hpl hac
  rw [txt_e, hx] at hsz ⊢
  have hlt := hd (fun i h => prts_lt (xs := xs) (k := e) (i := i) h)
  have htwo : (prts xs e).length = 2 := by have := hac.2.2.1 (by simp); omega
  rw [tx_joint (sg := ⟨#[47]⟩) (lv := 1) rfl, tx_at (by omega), tx_at (by omega)] at hsz ⊢
  have hq := hlt.out 0 (by omega)
  have hq' := hlt.out 1 (by omega)
  have R0 := hd (REC.out _ hq 2 (by decide) (by decide))
  have R1 := hd (REC.out _ hq' 3 (by decide) (by decide))
  rw [show (2 : Int) - 1 = 1 from rfl] at R0
  rw [show (3 : Int) - 1 = 1 + 1 from rfl] at R1
  rw [← app_three] at hsz ⊢
  rw [ByteArray.size_append, ByteArray.size_append] at hsz
  have e1 : (⟨#[32, 47, 32]⟩ : ByteArray).size = 3 := rfl
  generalize atT 1 (tr xs ((prts xs e).getD 0 0)).tx = s1 at *
  generalize atT (1 + 1) (tr xs ((prts xs e).getD 1 0)).tx = s2 at *
  have z1 : (s1 ++ ⟨#[32, 47, 32]⟩ : ByteArray).size = s1.size + 3 := by rw [ByteArray.size_append]; rfl
  have y1 : ∀ W : World, (Op.stringOp .add s1 ⟨#[32, 47, 32]⟩).run Tryd.prog W = .ok (.string (s1 ++ ⟨#[32, 47, 32]⟩)) W := fun W => run_string_add_sum W _ _ (by omega)
  have y2 : ∀ W : World, (Op.stringOp .add (s1 ++ ⟨#[32, 47, 32]⟩) s2).run Tryd.prog W = .ok (.string (s1 ++ ⟨#[32, 47, 32]⟩ ++ s2)) W := fun W => run_string_add_sum W _ _ (by omega)
  clear hge hac hpl hlt REC hsz e1 z1
  have K0 := CS.made w _ rfl #[.slice a len cap] 29
  have hBB : Below w.heap.size w (w.alloc (.cells #[.slice a len cap] 29)) := old_alloc (Below.refl _ _) _
  have PT := hd (fun w' (h : Below w.heap.size w w') => sParts a len cap xs e w' (hR.old h) hok he)
  have hp := hR.1
  have hl := (okT_in hok).1
  have LV := hd (sLv_7 n s)
  obtain ⟨b, off, x0, y0, s0, rfl, hbl, hx', hf, c0, c1, c2⟩ := (hR.old hBB).at he
  rw [hx] at hx'
  injection hx' with q1 q2 q3
  subst q1 q2 q3
  have K1 := CS.made (w.alloc (.cells #[.slice (some ⟨b, off, none⟩) len cap] 29)) (w.heap.size + 1) (by simp) #[.int .i64 7, .int .i64 n, .string s] 48
  have hB1 := old_alloc hBB (.cells #[.int .i64 7, .int .i64 n, .string s] 48)
  have m0 := K0.cell 0 _ rfl
  replace K0 := K0.alloc (.cells #[.int .i64 7, .int .i64 n, .string s] 48)
  have heI : (0 : Int) ≤ (e : Int) := by omega
  have heJ : (e : Int) < (len : Int) := by omega
  clear hR hok hx hf hbl hp hl he
  go_enter Tryd.func11, Tryd.ntmps11
  go_wp2_with fail
  generalize (w.alloc (.cells #[.slice (some ⟨b, off, none⟩) len cap] 29)).alloc (.cells #[.int .i64 7, .int .i64 n, .string s] 48) = W1 at *
  clear m0 c0 c1 c2
  refine (LV.out _).mono ?_
  rintro ev w2 ⟨rfl, hb2⟩
  replace K0 := K0.later hb2
  replace K1 := K1.later hb2
  have hB2 := old_trans hB1 hb2
  have m0 := K0.cell 0 _ rfl
  have n0 := K1.cell 0 _ rfl
  have n1 := K1.cell 1 _ rfl
  have n2 := K1.cell 2 _ rfl
  clear LV hb2 hB1 hBB
  go_wp2_with fail
  refine (PT.out _ (by with_reducible first | exact hB2 | exact hB2.drew)).mono ?_
  rintro ev w3 ⟨⟨av, cv, rfl, hO⟩, hb3⟩
  clear m0 n0 n1 n2 PT
  replace K0 := (by with_reducible first | exact K0.later hb3 | exact K0.drew.later hb3 : CS w3 _ _)
  replace K1 := (by with_reducible first | exact K1.later hb3 | exact K1.drew.later hb3 : CS w3 _ _)
  have hB3 := (by with_reducible first | exact old_trans hB2 hb3 | exact old_trans hB2.drew hb3 : Below w.heap.size w w3)
  clear hb3 hB2
  have m0 := K0.cell 0 _ rfl
  have n0 := K1.cell 0 _ rfl
  have n1 := K1.cell 1 _ rfl
  have n2 := K1.cell 2 _ rfl
  obtain ⟨bq, oq, Q, rfl, hbq, hQ, -, dQ0⟩ := (OI.inI hO).at (k := 0) (by rw [iz_len]; omega)
  obtain ⟨bq', oq', Q', hav, -, hQ', -, dQ1⟩ := (OI.inI hO).at (k := 1) (by rw [iz_len]; omega)
  injection hav with hav
  injection hav with h1 h2
  subst h1 h2
  rw [iz_getD _ _ (by omega)] at hQ hQ'
  subst hQ hQ'
  rw [Nat.add_zero] at dQ0
  generalize (prts xs e).getD 0 0 = p0 at *
  generalize (prts xs e).getD 1 0 = p1 at *
  rw [htwo]
  clear hO htwo
  have cQ0 := dQ0
  have cQ1 := dQ1
  go_upto_region 18 with fail
  have hc : Below w3.heap.size w3 w3 := Below.refl _ _
  go_region_held3 (fun w'' => w''.cell? ⟨w.heap.size, 0, none⟩ = some (.slice (some ⟨b, off, none⟩) len cap) ∧ w''.cell? ⟨bq, oq, none⟩ = some (.int .i64 (p0 : Int)) ∧ w''.cell? ⟨bq, oq + 1, none⟩ = some (.int .i64 (p1 : Int))) (go_keep) (first | (go_at_call_of 11 (Value.int .i64 2); refine (R0.out _ (old_trans hB3 (by with_reducible first | exact hc | exact Below.drew hc | exact old_alloc hc _ | exact old_alloc (Below.drew hc) _ | exact Below.drew (old_alloc hc _)))).mono ?_; rintro ev wx ⟨rfl, hbx⟩; have hc := (by with_reducible first | exact old_trans hc hbx | exact old_trans (Below.drew hc) hbx | exact old_trans (old_alloc hc _) hbx | exact old_trans (old_alloc (Below.drew hc) _) hbx | exact old_trans (Below.drew (old_alloc hc _)) hbx : Below w3.heap.size w3 wx); have m0 := (K0.later hc).cell 0 _ rfl; have cQ0 := (hc.cell (p := ⟨bq, oq, none⟩) hbq).trans dQ0; have cQ1 := (hc.cell (p := ⟨bq, oq + 1, none⟩) hbq).trans dQ1) | (go_at_call_of 11 (Value.int .i64 3); refine (R1.out _ (old_trans hB3 (by with_reducible first | exact hc | exact Below.drew hc | exact old_alloc hc _ | exact old_alloc (Below.drew hc) _ | exact Below.drew (old_alloc hc _)))).mono ?_; rintro ev wx ⟨rfl, hbx⟩; have hc := (by with_reducible first | exact old_trans hc hbx | exact old_trans (Below.drew hc) hbx | exact old_trans (old_alloc hc _) hbx | exact old_trans (old_alloc (Below.drew hc) _) hbx | exact old_trans (Below.drew (old_alloc hc _)) hbx : Below w3.heap.size w3 wx); have m0 := (K0.later hc).cell 0 _ rfl; have cQ0 := (hc.cell (p := ⟨bq, oq, none⟩) hbq).trans dQ0; have cQ1 := (hc.cell (p := ⟨bq, oq + 1, none⟩) hbq).trans dQ1))
  all_goals
    go_wp2
    go_ret
    exact ⟨rfl, old_trans hB3 (by with_reducible first | exact hc | exact Below.drew hc | exact old_alloc hc _ | exact old_alloc (Below.drew hc) _ | exact Below.drew (old_alloc hc _))⟩
end Go.Proofs.YtknibhdnbkmkiaaDoor

/- The text of a term, by the specification: powers. Nothing that was there is written. -/
namespace Go.Proofs.YtknibhdnbkmkiaaDoor
open Go.RowKit
set_option linter.unusedVariables false
set_option maxRecDepth 100000

set_option maxRecDepth 100000 in
set_option maxHeartbeats 4000000 in
theorem sShow_8 {xs : List Tn} (hok : okT xs = true) (a : Option Addr) (len cap e : Nat) (w : World) (hR : InN w a len cap xs) (he : e < len) (n : Int) (s : ByteArray) (hx : xs.getD e tn0 = ⟨8, n, s⟩) (lv : Int) (hge : ¬ (4 < lv)) (REC : Hid (∀ q, q < e → ∀ (l : Int), 1 ≤ l → l ≤ 5 → ∀ w1, Below w.heap.size w w1 → Calls Tryd.prog 11 #[.agg #[.slice a len cap], .int .i64 (q : Int), .int .i64 l] w1 fun ev w2 => ev = .returned (.string (atT (l - 1) (tr xs q).tx)) ∧ Below w1.heap.size w1 w2)) :
    Calls Tryd.prog 11 #[.agg #[.slice a len cap], .int .i64 (e : Int), .int .i64 lv] w fun ev w' => ev = .returned (.string (tr xs e).txt) ∧ Below w.heap.size w w' := by
  have hlv : decide (4 < lv) = false := decide_eq_false hge
  have hsz := tr_size hok (e := e) (by have := hR.1; omega)
  have hpl := prts_len hok (e := e) (by have := hR.1; omega)
  have hac := ac_cnt (x := xs.getD e tn0) (by omega)
  rw [hx] at hpl hac
  rw [txt_e, hx] at hsz ⊢
  have hlt := hd (fun i h => prts_lt (xs := xs) (k := e) (i := i) h)
  have hone : (prts xs e).length = 1 := by have := hac.2.1 (by simp); omega
  rw [tx_pow rfl, tx_at (by omega)] at hsz ⊢
  have hpw : 0 ≤ n ∧ n ≤ 8 := by
    have h0 : 0 ≤ ac ⟨8, n, s⟩ := by omega
    unfold ac at h0
    rw [if_neg (by simp), if_neg (by simp), if_neg (by simp), if_neg (by simp), if_pos rfl] at h0
    by_cases d : 0 ≤ n ∧ n ≤ 8 ∧ s.size = 0
    · exact ⟨d.1, d.2.1⟩
    · rw [if_neg d] at h0; omega
  obtain ⟨m, rfl⟩ : ∃ m : Nat, n = (m : Int) := ⟨n.toNat, by omega⟩
  have hq := hlt.out 0 (by omega)
  have R0 := hd (REC.out _ hq 5 (by decide) (by decide))
  rw [show (5 : Int) - 1 = 4 from rfl] at R0
  rw [ByteArray.size_append, ByteArray.size_append, dg_size] at hsz
  have e1 : (⟨#[94]⟩ : ByteArray).size = 1 := rfl
  generalize atT 4 (tr xs ((prts xs e).getD 0 0)).tx = s1 at *
  have cvD := hd (fun g W c => cvDigAt m (by omega) g W c)
  have v1 : IntKind.i64.wrap (48 + (m : Int)) = 48 + (m : Int) := by rw [IntKind.wrap_i64]; omega
  have v2 : IntKind.u8.wrap (48 + (m : Int)) = 48 + (m : Int) := by rw [IntKind.wrap_u8]; omega
  have z1 : (s1 ++ ⟨#[94]⟩ : ByteArray).size = s1.size + 1 := by rw [ByteArray.size_append]; rfl
  have hdz : (dgB (m : Int)).size = 1 := rfl
  show Calls _ _ _ _ (fun ev w' => ev = .returned (.string ((s1 ++ ⟨#[94]⟩) ++ dgB (m : Int))) ∧ _)
  generalize dgB (m : Int) = d at *
  have y1 : ∀ W : World, (Op.stringOp .add s1 ⟨#[94]⟩).run Tryd.prog W = .ok (.string (s1 ++ ⟨#[94]⟩)) W := fun W => run_string_add_sum W _ _ (by omega)
  have y2 : ∀ W : World, (Op.stringOp .add (s1 ++ ⟨#[94]⟩) d).run Tryd.prog W = .ok (.string (s1 ++ ⟨#[94]⟩ ++ d)) W := fun W => run_string_add_sum W _ _ (by omega)
  have hm0 : (0 : Int) ≤ (m : Int) := by omega
  have hm8 : (m : Int) ≤ 8 := by omega
  clear hge hac hpl hlt REC hsz e1 z1 hdz hpw
  have K0 := CS.made w _ rfl #[.slice a len cap] 29
  have hBB : Below w.heap.size w (w.alloc (.cells #[.slice a len cap] 29)) := old_alloc (Below.refl _ _) _
  have PT := hd (fun w' (h : Below w.heap.size w w') => sParts a len cap xs e w' (hR.old h) hok he)
  have hp := hR.1
  have hl := (okT_in hok).1
  have LV := hd (sLv_8 (m : Int) s)
  obtain ⟨b, off, x0, y0, s0, rfl, hbl, hx', hf, c0, c1, c2⟩ := (hR.old hBB).at he
  rw [hx] at hx'
  injection hx' with q1 q2 q3
  subst q1 q2 q3
  have K1 := CS.made (w.alloc (.cells #[.slice (some ⟨b, off, none⟩) len cap] 29)) (w.heap.size + 1) (by simp) #[.int .i64 8, .int .i64 (m : Int), .string s] 48
  have hB1 := old_alloc hBB (.cells #[.int .i64 8, .int .i64 (m : Int), .string s] 48)
  have m0 := K0.cell 0 _ rfl
  replace K0 := K0.alloc (.cells #[.int .i64 8, .int .i64 (m : Int), .string s] 48)
  have heI : (0 : Int) ≤ (e : Int) := by omega
  have heJ : (e : Int) < (len : Int) := by omega
  clear hR hok hx hf hbl hp hl he
  go_enter Tryd.func11, Tryd.ntmps11
  go_wp2_with fail
  generalize (w.alloc (.cells #[.slice (some ⟨b, off, none⟩) len cap] 29)).alloc (.cells #[.int .i64 8, .int .i64 (m : Int), .string s] 48) = W1 at *
  clear m0 c0 c1 c2
  refine (LV.out _).mono ?_
  rintro ev w2 ⟨rfl, hb2⟩
  replace K0 := K0.later hb2
  replace K1 := K1.later hb2
  have hB2 := old_trans hB1 hb2
  have m0 := K0.cell 0 _ rfl
  have n0 := K1.cell 0 _ rfl
  have n1 := K1.cell 1 _ rfl
  have n2 := K1.cell 2 _ rfl
  clear LV hb2 hB1 hBB
  go_wp2_with fail
  refine (PT.out _ (by with_reducible first | exact hB2 | exact hB2.drew)).mono ?_
  rintro ev w3 ⟨⟨av, cv, rfl, hO⟩, hb3⟩
  clear m0 n0 n1 n2 PT
  replace K0 := (by with_reducible first | exact K0.later hb3 | exact K0.drew.later hb3 : CS w3 _ _)
  replace K1 := (by with_reducible first | exact K1.later hb3 | exact K1.drew.later hb3 : CS w3 _ _)
  have hB3 := (by with_reducible first | exact old_trans hB2 hb3 | exact old_trans hB2.drew hb3 : Below w.heap.size w w3)
  clear hb3 hB2
  have m0 := K0.cell 0 _ rfl
  have n0 := K1.cell 0 _ rfl
  have n1 := K1.cell 1 _ rfl
  have n2 := K1.cell 2 _ rfl
  obtain ⟨bq, oq, Q, rfl, hbq, hQ, -, dQ0⟩ := (OI.inI hO).at (k := 0) (by rw [iz_len]; omega)
  rw [iz_getD _ _ (by omega)] at hQ
  subst hQ
  rw [Nat.add_zero] at dQ0
  generalize (prts xs e).getD 0 0 = p0 at *
  rw [hone]
  clear hO hone
  have cQ0 := dQ0
  have hk1 : w.heap.size < w3.heap.size := K0.lt
  have hk2 : w.heap.size + 1 < w3.heap.size := K1.lt
  go_upto_region 20 with fail
  have hc : Below w3.heap.size w3 w3 := Below.refl _ _
  refine wp_region_held_drew (S := fun w'' => w''.cell? ⟨w.heap.size, 0, none⟩ = some (.slice (some ⟨b, off, none⟩) len cap) ∧ w''.cell? ⟨bq, oq, none⟩ = some (.int .i64 (p0 : Int)) ∧ w''.cell? ⟨w.heap.size + 1, 1, none⟩ = some (.int .i64 (m : Int))) rfl ⟨m0, cQ0, n1⟩ ?_
  intro hS
  have hB4 : Below w.heap.size w w3.drew := hB3.drew
  clear hB3 m0 n0 n1 n2 cQ0 dQ0 K0 K1 hc
  generalize w3.drew = w4 at *
  refine wpAnyH_take (i := 0) (v := ?_) rfl (by kernel_rfl) (by kernel_rfl) (by kernel_rfl) (fun _ _ _ h => h) (Or.inl ⟨by kernel_rfl, ?_⟩) hS ?_
  rotate_left
  · intro w' hS'; obtain ⟨s0, s1, s2⟩ := hS'; go_simp <;> with_reducible rfl
  refine wpAnyH_take (i := 1) (v := ?_) rfl (by kernel_rfl) (by kernel_rfl) (by kernel_rfl) (fun _ _ _ h => h) (Or.inl ⟨by kernel_rfl, ?_⟩) hS ?_
  rotate_left
  · intro w' hS'; obtain ⟨s0, s1, s2⟩ := hS'; go_simp <;> with_reducible rfl
  refine wpAnyH_take (i := 2) (v := ?_) rfl (by kernel_rfl) (by kernel_rfl) (by kernel_rfl) (fun _ _ _ h => h) (Or.inl ⟨by kernel_rfl, ?_⟩) hS ?_
  rotate_left
  · intro w' hS'; obtain ⟨s0, s1, s2⟩ := hS'; go_simp <;> with_reducible rfl
  refine wpAnyH_take (i := 3) (v := ?_) rfl (by kernel_rfl) (by kernel_rfl) (by kernel_rfl) (fun _ _ _ h => h) (Or.inl ⟨by kernel_rfl, ?_⟩) hS ?_
  rotate_left
  · intro w' hS'; obtain ⟨s0, s1, s2⟩ := hS'; go_simp <;> with_reducible rfl
  refine wpAnyH_take (i := 6) (v := ?_) rfl (by kernel_rfl) (by kernel_rfl) (by kernel_rfl) (fun _ _ _ h => h) (Or.inl ⟨by kernel_rfl, ?_⟩) hS ?_
  rotate_left
  · intro w' hS'; obtain ⟨s0, s1, s2⟩ := hS'; go_simp <;> with_reducible rfl
  refine wpAnyH_take (i := 7) (v := ?_) rfl (by kernel_rfl) (by kernel_rfl) (by kernel_rfl) (fun _ _ _ h => h) (Or.inl ⟨by kernel_rfl, ?_⟩) hS ?_
  rotate_left
  · intro w' hS'; obtain ⟨s0, s1, s2⟩ := hS'; go_simp <;> with_reducible rfl
  refine wpAnyH_take (i := 8) (v := ?_) rfl (by kernel_rfl) (by kernel_rfl) (by kernel_rfl) (fun _ _ _ h => h) (Or.inl ⟨by kernel_rfl, ?_⟩) hS ?_
  rotate_left
  · intro w' hS'; obtain ⟨s0, s1, s2⟩ := hS'; go_simp <;> with_reducible rfl
  refine wpAnyH_take (i := 9) (v := ?_) rfl (by kernel_rfl) (by kernel_rfl) (by kernel_rfl) (fun _ _ _ h => h) (Or.inl ⟨by kernel_rfl, ?_⟩) hS ?_
  rotate_left
  · intro w' hS'; obtain ⟨s0, s1, s2⟩ := hS'; go_simp <;> with_reducible rfl
  refine wpAnyH_ready (rs := [4, 10]) (by kernel_rfl) (by simp) ?_
  refine AllReadyH.cons rfl (fun K hK => ?_) (AllReadyH.cons rfl (fun K hK => ?_) AllReadyH.nil)
  · go_simp
    refine (R0.out _ hB4).mono ?_
    rintro ev w5 ⟨rfl, hb5⟩
    refine hK.out _ _ (three_oldT hS hb5) ?_
    intro hS5
    clear hK K
    refine wpAnyH_take (i := 5) (v := ?_) rfl (by kernel_rfl) (by kernel_rfl) (by kernel_rfl) (fun _ _ _ h => h) (Or.inl ⟨by kernel_rfl, ?_⟩) hS5 ?_
    rotate_left
    · intro w' hS'; obtain ⟨s0, s1, s2⟩ := hS'; go_simp <;> with_reducible rfl
    refine wpAnyH_ready (rs := [10]) (by kernel_rfl) (by simp) ?_
    refine AllReadyH.cons rfl (fun K hK => ?_) AllReadyH.nil
    go_simp
    refine hK.out _ _ (three_oldT hS5 (old_alloc (Below.refl _ _) _)) ?_
    intro hS6
    clear hK K
    have cz := cvD.out w5.heap.size (w5.alloc (.cells #[.int .u8 (48 + (m : Int))] 5)) (by simp)
    have hB6 := old_alloc (old_trans hB4 hb5) (.cells #[.int .u8 (48 + (m : Int))] 5)
    generalize w5.alloc (.cells #[.int .u8 (48 + (m : Int))] 5) = w6 at *
    refine wpAnyH_ready (rs := [11]) (by kernel_rfl) (by simp) ?_
    refine AllReadyH.cons rfl (fun K hK => ?_) AllReadyH.nil
    go_simp
    refine hK.out _ _ hS6 ?_
    intro hS7
    clear hK K
    refine wpAnyH_take (i := 12) (v := ?_) rfl (by kernel_rfl) (by kernel_rfl) (by kernel_rfl) (fun _ _ _ h => h) (Or.inl ⟨by kernel_rfl, ?_⟩) hS7 ?_
    rotate_left
    · intro w' hS'; obtain ⟨s0, s1, s2⟩ := hS'; go_simp <;> with_reducible rfl
    refine wpAnyH_take (i := 13) (v := ?_) rfl (by kernel_rfl) (by kernel_rfl) (by kernel_rfl) (fun _ _ _ h => h) (Or.inl ⟨by kernel_rfl, ?_⟩) hS7 ?_
    rotate_left
    · intro w' hS'; obtain ⟨s0, s1, s2⟩ := hS'; go_simp <;> with_reducible rfl
    refine wpAnyH_done (by kernel_rfl) ?_ _
    go_wp2
    go_ret
    exact ⟨rfl, hB6⟩
  · go_simp
    refine hK.out _ _ (three_oldT hS (old_alloc (Below.refl _ _) _)) ?_
    intro hS5
    clear hK K
    have c5 : (w4.alloc (.cells #[.int .u8 (48 + (m : Int))] 5)).cell? ⟨w4.heap.size, 0, none⟩ = some (.int .u8 (48 + (m : Int))) := by simp
    have hl5 : w4.heap.size < (w4.alloc (.cells #[.int .u8 (48 + (m : Int))] 5)).heap.size := by simp
    have hB5 := old_alloc hB4 (.cells #[.int .u8 (48 + (m : Int))] 5)
    generalize w4.alloc (.cells #[.int .u8 (48 + (m : Int))] 5) = w5 at *
    refine wpAnyH_ready (rs := [4, 11]) (by kernel_rfl) (by simp) ?_
    refine AllReadyH.cons rfl (fun K hK => ?_) (AllReadyH.cons rfl (fun K hK => ?_) AllReadyH.nil)
    · go_simp
      refine (R0.out _ hB5).mono ?_
      rintro ev w6 ⟨rfl, hb6⟩
      refine hK.out _ _ (three_oldT hS5 hb6) ?_
      intro hS6
      clear hK K
      have cz := cvD.out w4.heap.size w6 ((hb6.cell (p := ⟨w4.heap.size, 0, none⟩) hl5).trans c5)
      refine wpAnyH_take (i := 5) (v := ?_) rfl (by kernel_rfl) (by kernel_rfl) (by kernel_rfl) (fun _ _ _ h => h) (Or.inl ⟨by kernel_rfl, ?_⟩) hS6 ?_
      rotate_left
      · intro w' hS'; obtain ⟨s0, s1, s2⟩ := hS'; go_simp <;> with_reducible rfl
      refine wpAnyH_ready (rs := [11]) (by kernel_rfl) (by simp) ?_
      refine AllReadyH.cons rfl (fun K hK => ?_) AllReadyH.nil
      go_simp
      refine hK.out _ _ hS6 ?_
      intro hS7
      clear hK K
      refine wpAnyH_take (i := 12) (v := ?_) rfl (by kernel_rfl) (by kernel_rfl) (by kernel_rfl) (fun _ _ _ h => h) (Or.inl ⟨by kernel_rfl, ?_⟩) hS7 ?_
      rotate_left
      · intro w' hS'; obtain ⟨s0, s1, s2⟩ := hS'; go_simp <;> with_reducible rfl
      refine wpAnyH_take (i := 13) (v := ?_) rfl (by kernel_rfl) (by kernel_rfl) (by kernel_rfl) (fun _ _ _ h => h) (Or.inl ⟨by kernel_rfl, ?_⟩) hS7 ?_
      rotate_left
      · intro w' hS'; obtain ⟨s0, s1, s2⟩ := hS'; go_simp <;> with_reducible rfl
      refine wpAnyH_done (by kernel_rfl) ?_ _
      go_wp2
      go_ret
      exact ⟨rfl, old_trans hB5 hb6⟩
    · have cz := cvD.out w4.heap.size w5 c5
      go_simp
      refine hK.out _ _ hS5 ?_
      intro hS6
      clear hK K
      refine wpAnyH_ready (rs := [4]) (by kernel_rfl) (by simp) ?_
      refine AllReadyH.cons rfl (fun K hK => ?_) AllReadyH.nil
      go_simp
      refine (R0.out _ hB5).mono ?_
      rintro ev w6 ⟨rfl, hb6⟩
      refine hK.out _ _ (three_oldT hS6 hb6) ?_
      intro hS7
      clear hK K
      refine wpAnyH_take (i := 5) (v := ?_) rfl (by kernel_rfl) (by kernel_rfl) (by kernel_rfl) (fun _ _ _ h => h) (Or.inl ⟨by kernel_rfl, ?_⟩) hS7 ?_
      rotate_left
      · intro w' hS'; obtain ⟨s0, s1, s2⟩ := hS'; go_simp <;> with_reducible rfl
      refine wpAnyH_take (i := 12) (v := ?_) rfl (by kernel_rfl) (by kernel_rfl) (by kernel_rfl) (fun _ _ _ h => h) (Or.inl ⟨by kernel_rfl, ?_⟩) hS7 ?_
      rotate_left
      · intro w' hS'; obtain ⟨s0, s1, s2⟩ := hS'; go_simp <;> with_reducible rfl
      refine wpAnyH_take (i := 13) (v := ?_) rfl (by kernel_rfl) (by kernel_rfl) (by kernel_rfl) (fun _ _ _ h => h) (Or.inl ⟨by kernel_rfl, ?_⟩) hS7 ?_
      rotate_left
      · intro w' hS'; obtain ⟨s0, s1, s2⟩ := hS'; go_simp <;> with_reducible rfl
      refine wpAnyH_done (by kernel_rfl) ?_ _
      go_wp2
      go_ret
      exact ⟨rfl, old_trans hB5 hb6⟩
end Go.Proofs.YtknibhdnbkmkiaaDoor
