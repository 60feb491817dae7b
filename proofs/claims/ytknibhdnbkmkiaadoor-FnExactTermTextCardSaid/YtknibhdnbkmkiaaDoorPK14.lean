/- The text of a term, by the specification. Nothing that was there is written. No condition but that the nodes are there. -/
import Derived.Test.YtknibhdnbkmkiaaDoorPK12
import Derived.Test.YtknibhdnbkmkiaaDoorPK13
import Derived.Test.YtknibhdnbkmkiaaDoorPK11
import Derived.Deep.RegionHeld3
import Derived.Laws.Concat
import Derived.Deep.DeepCutAuto
namespace Go.Proofs.YtknibhdnbkmkiaaDoor
open Go.RowKit
set_option linter.unusedVariables false
set_option maxRecDepth 100000

theorem sLevel (k n : Int) (s : ByteArray) (hk : 1 ≤ k ∧ k ≤ 13) (w : World) : Calls Tryd.prog 18 #[.agg #[.int .i64 k, .int .i64 n, .string s]] w fun e w' => e = .returned (.int .i64 (lvK k + 1)) ∧ Below w.heap.size w w' := by
  rcases k_cases k with rfl | rfl | rfl | rfl | rfl | rfl | rfl | rfl | rfl | rfl | rfl | rfl | rfl | h
  · exact sLv_1 n s w
  · exact sLv_2 n s w
  · exact sLv_3 n s w
  · exact sLv_4 n s w
  · exact sLv_5 n s w
  · exact sLv_6 n s w
  · exact sLv_7 n s w
  · exact sLv_8 n s w
  · exact sLv_9 n s w
  · exact sLv_10 n s w
  · exact sLv_11 n s w
  · exact sLv_12 n s w
  · exact sLv_13 n s w
  · omega
theorem node_in {x : Tn} (h : 0 ≤ ac x) : 1 ≤ x.k ∧ x.k ≤ 13 := by
  rcases node_kind h with c | c | c | c | c | ⟨sg, lv, c⟩ | ⟨wd, c⟩
  · omega
  · omega
  · omega
  · omega
  · omega
  · have := (row_size c).2.2.2; omega
  · have := (word_size c).2.2; omega
theorem sShowPlain {xs : List Tn} (hok : okT xs = true) (a : Option Addr) (len cap e : Nat) (w : World) (hR : InN w a len cap xs) (he : e < len) (lv : Int) (hge : ¬ (lvK (xs.getD e tn0).k + 1 < lv)) (REC : Hid (∀ q, q < e → ∀ (l : Int), 1 ≤ l → l ≤ 5 → ∀ w1, Below w.heap.size w w1 → Calls Tryd.prog 11 #[.agg #[.slice a len cap], .int .i64 (q : Int), .int .i64 l] w1 fun ev w2 => ev = .returned (.string (atT (l - 1) (tr xs q).tx)) ∧ Below w1.heap.size w1 w2)) :
    Calls Tryd.prog 11 #[.agg #[.slice a len cap], .int .i64 (e : Int), .int .i64 lv] w fun ev w' => ev = .returned (.string (tr xs e).txt) ∧ Below w.heap.size w w' := by
  have hp := hR.1
  have ha := okT_at hok (k := e) (by omega)
  have hin := node_in (x := xs.getD e tn0) (by omega)
  obtain ⟨x, hx⟩ : ∃ x, xs.getD e tn0 = x := ⟨_, rfl⟩
  rw [hx] at hin hge
  obtain ⟨k, n, s⟩ := x
  rcases k_cases k with rfl | rfl | rfl | rfl | rfl | rfl | rfl | rfl | rfl | rfl | rfl | rfl | rfl | h
  · exact sShow_1 hok a len cap e w hR he n s hx lv hge REC
  · exact sShow_2 hok a len cap e w hR he n s hx lv hge REC
  · exact sShow_3 hok a len cap e w hR he n s hx lv hge REC
  · exact sShow_4 hok a len cap e w hR he n s hx lv hge REC
  · exact sShow_5 hok a len cap e w hR he n s hx lv hge REC
  · exact sShow_6 hok a len cap e w hR he n s hx lv hge REC
  · exact sShow_7 hok a len cap e w hR he n s hx lv hge REC
  · exact sShow_8 hok a len cap e w hR he n s hx lv hge REC
  · exact sShow_9 hok a len cap e w hR he n s hx lv hge REC
  · exact sShow_10 hok a len cap e w hR he n s hx lv hge REC
  · exact sShow_11 hok a len cap e w hR he n s hx lv hge REC
  · exact sShow_12 hok a len cap e w hR he n s hx lv hge REC
  · exact sShow_13 hok a len cap e w hR he n s hx lv hge REC
  · have h1 := hin.1; have h2 := hin.2; dsimp only at h1 h2; omega
set_option maxRecDepth 100000 in
set_option maxHeartbeats 4000000 in
theorem sShowIn {xs : List Tn} (a : Option Addr) (len cap e : Nat) (w : World) (hR : InN w a len cap xs) (he : e < len) (k n : Int) (s r : ByteArray) (hx : xs.getD e tn0 = ⟨k, n, s⟩) (hk : 1 ≤ k ∧ k ≤ 13) (lv : Int) (hlt : lvK k + 1 < lv) (hr : r.size ≤ 10000) (hl : len ≤ 100)
    (R : Hid (∀ w1, Below w.heap.size w w1 → Calls Tryd.prog 11 #[.agg #[.slice a len cap], .int .i64 (e : Int), .int .i64 1] w1 fun ev w2 => ev = .returned (.string r) ∧ Below w1.heap.size w1 w2)) :
    Calls Tryd.prog 11 #[.agg #[.slice a len cap], .int .i64 (e : Int), .int .i64 lv] w fun ev w' => ev = .returned (.string ((⟨#[40]⟩ ++ r) ++ ⟨#[41]⟩)) ∧ Below w.heap.size w w' := by
  have hlv : decide (lvK k + 1 < lv) = true := decide_eq_true hlt
  have K0 := CS.made w _ rfl #[.slice a len cap] 29
  have hBB : Below w.heap.size w (w.alloc (.cells #[.slice a len cap] 29)) := old_alloc (Below.refl _ _) _
  have LV := hd (sLevel k n s hk)
  obtain ⟨b, off, x0, y0, s0, rfl, hbl, hx', hf, c0, c1, c2⟩ := (hR.old hBB).at he
  rw [hx] at hx'
  injection hx' with q1 q2 q3
  subst q1 q2 q3
  have hB1 := old_alloc hBB (.cells #[.int .i64 k, .int .i64 n, .string s] 48)
  have m0 := K0.cell 0 _ rfl
  replace K0 := K0.alloc (.cells #[.int .i64 k, .int .i64 n, .string s] 48)
  have heI : (0 : Int) ≤ (e : Int) := by omega
  have heJ : (e : Int) < (len : Int) := by omega
  have e1 : (⟨#[40]⟩ : ByteArray).size = 1 := rfl
  have e2 : (⟨#[41]⟩ : ByteArray).size = 1 := rfl
  have z1 : (⟨#[40]⟩ ++ r : ByteArray).size = 1 + r.size := by rw [ByteArray.size_append]; rfl
  have y1 : ∀ W : World, (Op.stringOp .add ⟨#[40]⟩ r).run Tryd.prog W = .ok (.string (⟨#[40]⟩ ++ r)) W := fun W => run_string_add_sum W _ _ (by omega)
  have y2 : ∀ W : World, (Op.stringOp .add (⟨#[40]⟩ ++ r) ⟨#[41]⟩).run Tryd.prog W = .ok (.string (⟨#[40]⟩ ++ r ++ ⟨#[41]⟩)) W := fun W => run_string_add_sum W _ _ (by omega)
  generalize lvK k + 1 = L at *
  clear hR hx hf hbl he hlt e1 e2 z1
  go_enter Tryd.func11, Tryd.ntmps11
  go_wp2_with fail
  generalize (w.alloc (.cells #[.slice (some ⟨b, off, none⟩) len cap] 29)).alloc (.cells #[.int .i64 k, .int .i64 n, .string s] 48) = W1 at *
  clear m0 c0 c1 c2
  refine (LV.out _).mono ?_
  rintro ev w2 ⟨rfl, hb2⟩
  replace K0 := K0.later hb2
  have hB2 := old_trans hB1 hb2
  have m0 := K0.cell 0 _ rfl
  go_wp2_with fail
  refine (R.out _ (by with_reducible first | exact hB2 | exact hB2.drew)).mono ?_
  rintro ev w3 ⟨rfl, hb3⟩
  go_wp2
  go_ret
  exact ⟨rfl, (by with_reducible first | exact old_trans hB2 hb3 | exact old_trans hB2.drew hb3)⟩
theorem at_neg {l lv : Int} {s : ByteArray} (h : ¬ (l + 1 < lv)) : atT (lv - 1) (l, s) = s := if_neg (by show ¬ l < lv - 1; omega)
theorem at_pos {l lv : Int} {s : ByteArray} (h : l + 1 < lv) : atT (lv - 1) (l, s) = (⟨#[40]⟩ ++ s) ++ ⟨#[41]⟩ := if_pos (by show l < lv - 1; omega)
theorem sShowN (xs : List Tn) (hok : okT xs = true) (n : Nat) : ∀ (a : Option Addr) (len cap : Nat) (e : Nat) (w : World), e < n → InN w a len cap xs → e < len → ∀ lv : Int, 1 ≤ lv → lv ≤ 5 →
    Calls Tryd.prog 11 #[.agg #[.slice a len cap], .int .i64 (e : Int), .int .i64 lv] w fun ev w' => ev = .returned (.string (atT (lv - 1) (tr xs e).tx)) ∧ Below w.heap.size w w' := by
  induction n with
  | zero => intro a len cap e w h; omega
  | succ n ih =>
    intro a len cap e w hen hR he lv h1 h5
    have hp := hR.1
    have hl := (okT_in hok).1
    have hsz := tr_size hok (e := e) (by omega)
    have ha := okT_at hok (k := e) (by omega)
    have hin := node_in (x := xs.getD e tn0) (by omega)
    have PL := fun w' (hb : Below w.heap.size w w') (l : Int) (hge : ¬ (lvK (xs.getD e tn0).k + 1 < l)) => sShowPlain hok a len cap e w' (hR.old hb) he l hge (fun q hq l' g1 g2 w1 hb1 => ih a len cap q w1 (by omega) ((hR.old hb).old hb1) (by omega) l' g1 g2)
    rw [show (tr xs e).tx = (lvK (xs.getD e tn0).k, (tr xs e).txt) by rw [← lvK_tr]; rfl]
    by_cases c : lvK (xs.getD e tn0).k + 1 < lv
    · rw [at_pos c]
      obtain ⟨x, hx⟩ : ∃ x, xs.getD e tn0 = x := ⟨_, rfl⟩
      have hnn := lvK_nn (xs.getD e tn0).k
      have P1 := hd (fun w' hb => PL w' hb 1 (by omega))
      rw [hx] at c hin
      obtain ⟨k, m, s⟩ := x
      exact sShowIn a len cap e w hR he k m s _ hx hin lv c hsz (by omega) P1
    · rw [at_neg c]
      exact PL w (Below.refl _ _) lv c
theorem sTermText (a : Option Addr) (len cap : Nat) (xs : List Tn) (w : World) (hR : InN w a len cap xs) :
    Calls Tryd.prog 5 #[.agg #[.slice a len cap]] w fun e w' => e = .returned (.string (txT xs)) ∧ Below w.heap.size w w' := by
  have hp := hR.1
  have hlen : len ≤ maxLen := Nat.le_trans hR.2.1 hR.2.2.1
  unfold maxLen at hlen
  have OK := hd (fun w' (h : Below w.heap.size w w') => sTermOk a len cap xs w' (hR.old h))
  have K0 := CS.made w _ rfl #[.slice a len cap] 29
  have hBB : Below w.heap.size w (w.alloc (.cells #[.slice a len cap] 29)) := old_alloc (Below.refl _ _) _
  have m0 := K0.cell 0 _ rfl
  cases hk : okT xs
  · have e : txT xs = ⟨#[]⟩ := by unfold txT; rw [hk]; rfl
    rw [e]
    rw [hk] at OK
    clear hk e
    go_enter Tryd.func5, Tryd.ntmps5
    generalize hW0 : w.alloc (.cells #[.slice a len cap] 29) = W0 at *
    go_wp2_with fail
    refine (OK.out _ hBB).mono ?_
    rintro ev w1 ⟨rfl, hb1⟩
    go_wp2
    go_ret
    exact ⟨rfl, old_trans hBB hb1⟩
  · have e : txT xs = atT (1 - 1) (tr xs (len - 1)).tx := by rw [show (1 : Int) - 1 = 0 from rfl, at_zeroS]; unfold txT; rw [hk, hp]; rfl
    rw [e]
    have hpos := okT_pos hk
    have DP := hd (fun w' (h : Below w.heap.size w w') => sShowN xs hk (len - 1 + 1) a len cap (len - 1) w' (by omega) (hR.old h) (by omega) 1 (by decide) (by decide))
    have hl1 : (((len - 1 : Nat)) : Int) = (len : Int) - 1 := by omega
    rw [hl1] at DP
    rw [hk] at OK
    have hl2 : (1 : Int) ≤ (len : Int) := by omega
    have hl3 : (len : Int) ≤ 100 := by have := (okT_in hk).1; omega
    clear e hk hl1
    generalize atT (1 - 1) (tr xs (len - 1)).tx = D at *
    go_enter Tryd.func5, Tryd.ntmps5
    generalize hW0 : w.alloc (.cells #[.slice a len cap] 29) = W0 at *
    go_wp2_with fail
    refine (OK.out _ hBB).mono ?_
    rintro ev w1 ⟨rfl, hb1⟩
    have m1 := (K0.later hb1).cell 0 _ rfl
    have hB := old_trans hBB hb1
    go_wp2_with fail
    refine (DP.out _ (by repeat (first | exact hB | exact Below.refl _ _ | refine Below.drew ?_ | refine old_alloc ?_ _ | refine old_trans ?_ (by assumption)))).mono ?_
    rintro ev w2 ⟨rfl, hb2⟩
    go_wp2
    go_ret
    exact ⟨rfl, (by repeat (first | exact hB | exact Below.refl _ _ | refine Below.drew ?_ | refine old_alloc ?_ _ | refine old_trans ?_ (by assumption)))⟩
end Go.Proofs.YtknibhdnbkmkiaaDoor

/- Trees behind the interface termTree: their level and their text where a level is wanted, by the program. Nothing that was there is written. -/
namespace Go.Proofs.YtknibhdnbkmkiaaDoor
open Go.RowKit
set_option linter.unusedVariables false
set_option maxRecDepth 100000

theorem ta_leaf_leaf (v : Value) (w : World) : (Instr.typeAssert (.iface 86 v) 38 86 true).run Tryd.prog w = .ok (.tuple #[v, .bool true]) w := by kernel_rfl
theorem ta_leaf_minus (v : Value) (w : World) : (Instr.typeAssert (.iface 86 v) 38 65 true).run Tryd.prog w = .ok (.tuple #[.agg #[.nilIface], .bool false]) w := by kernel_rfl
theorem ta_leaf_joint (v : Value) (w : World) : (Instr.typeAssert (.iface 86 v) 38 78 true).run Tryd.prog w = .ok (.tuple #[.agg #[.int .i64 0, .string ⟨#[]⟩, .int .i64 0, .nilIface, .nilIface], .bool false]) w := by kernel_rfl
theorem ta_leaf_raised (v : Value) (w : World) : (Instr.typeAssert (.iface 86 v) 38 67 true).run Tryd.prog w = .ok (.tuple #[.agg #[.nilIface, .int .i64 0], .bool false]) w := by kernel_rfl
theorem ta_leaf_ownCall (v : Value) (w : World) : (Instr.typeAssert (.iface 86 v) 38 84 true).run Tryd.prog w = .ok (.tuple #[.agg #[.string ⟨#[]⟩, .slice none 0 0, .int .i64 0], .bool false]) w := by kernel_rfl
theorem ta_leaf_namedCall (v : Value) (w : World) : (Instr.typeAssert (.iface 86 v) 38 72 true).run Tryd.prog w = .ok (.tuple #[.agg #[.string ⟨#[]⟩, .slice none 0 0], .bool false]) w := by kernel_rfl
theorem ta_minus_leaf (v : Value) (w : World) : (Instr.typeAssert (.iface 65 v) 38 86 true).run Tryd.prog w = .ok (.tuple #[.agg #[.int .i64 0, .string ⟨#[]⟩], .bool false]) w := by kernel_rfl
theorem ta_minus_minus (v : Value) (w : World) : (Instr.typeAssert (.iface 65 v) 38 65 true).run Tryd.prog w = .ok (.tuple #[v, .bool true]) w := by kernel_rfl
theorem ta_minus_joint (v : Value) (w : World) : (Instr.typeAssert (.iface 65 v) 38 78 true).run Tryd.prog w = .ok (.tuple #[.agg #[.int .i64 0, .string ⟨#[]⟩, .int .i64 0, .nilIface, .nilIface], .bool false]) w := by kernel_rfl
theorem ta_minus_raised (v : Value) (w : World) : (Instr.typeAssert (.iface 65 v) 38 67 true).run Tryd.prog w = .ok (.tuple #[.agg #[.nilIface, .int .i64 0], .bool false]) w := by kernel_rfl
theorem ta_minus_ownCall (v : Value) (w : World) : (Instr.typeAssert (.iface 65 v) 38 84 true).run Tryd.prog w = .ok (.tuple #[.agg #[.string ⟨#[]⟩, .slice none 0 0, .int .i64 0], .bool false]) w := by kernel_rfl
theorem ta_minus_namedCall (v : Value) (w : World) : (Instr.typeAssert (.iface 65 v) 38 72 true).run Tryd.prog w = .ok (.tuple #[.agg #[.string ⟨#[]⟩, .slice none 0 0], .bool false]) w := by kernel_rfl
theorem ta_joint_leaf (v : Value) (w : World) : (Instr.typeAssert (.iface 78 v) 38 86 true).run Tryd.prog w = .ok (.tuple #[.agg #[.int .i64 0, .string ⟨#[]⟩], .bool false]) w := by kernel_rfl
theorem ta_joint_minus (v : Value) (w : World) : (Instr.typeAssert (.iface 78 v) 38 65 true).run Tryd.prog w = .ok (.tuple #[.agg #[.nilIface], .bool false]) w := by kernel_rfl
theorem ta_joint_joint (v : Value) (w : World) : (Instr.typeAssert (.iface 78 v) 38 78 true).run Tryd.prog w = .ok (.tuple #[v, .bool true]) w := by kernel_rfl
theorem ta_joint_raised (v : Value) (w : World) : (Instr.typeAssert (.iface 78 v) 38 67 true).run Tryd.prog w = .ok (.tuple #[.agg #[.nilIface, .int .i64 0], .bool false]) w := by kernel_rfl
theorem ta_joint_ownCall (v : Value) (w : World) : (Instr.typeAssert (.iface 78 v) 38 84 true).run Tryd.prog w = .ok (.tuple #[.agg #[.string ⟨#[]⟩, .slice none 0 0, .int .i64 0], .bool false]) w := by kernel_rfl
theorem ta_joint_namedCall (v : Value) (w : World) : (Instr.typeAssert (.iface 78 v) 38 72 true).run Tryd.prog w = .ok (.tuple #[.agg #[.string ⟨#[]⟩, .slice none 0 0], .bool false]) w := by kernel_rfl
theorem ta_raised_leaf (v : Value) (w : World) : (Instr.typeAssert (.iface 67 v) 38 86 true).run Tryd.prog w = .ok (.tuple #[.agg #[.int .i64 0, .string ⟨#[]⟩], .bool false]) w := by kernel_rfl
theorem ta_raised_minus (v : Value) (w : World) : (Instr.typeAssert (.iface 67 v) 38 65 true).run Tryd.prog w = .ok (.tuple #[.agg #[.nilIface], .bool false]) w := by kernel_rfl
theorem ta_raised_joint (v : Value) (w : World) : (Instr.typeAssert (.iface 67 v) 38 78 true).run Tryd.prog w = .ok (.tuple #[.agg #[.int .i64 0, .string ⟨#[]⟩, .int .i64 0, .nilIface, .nilIface], .bool false]) w := by kernel_rfl
theorem ta_raised_raised (v : Value) (w : World) : (Instr.typeAssert (.iface 67 v) 38 67 true).run Tryd.prog w = .ok (.tuple #[v, .bool true]) w := by kernel_rfl
theorem ta_raised_ownCall (v : Value) (w : World) : (Instr.typeAssert (.iface 67 v) 38 84 true).run Tryd.prog w = .ok (.tuple #[.agg #[.string ⟨#[]⟩, .slice none 0 0, .int .i64 0], .bool false]) w := by kernel_rfl
theorem ta_raised_namedCall (v : Value) (w : World) : (Instr.typeAssert (.iface 67 v) 38 72 true).run Tryd.prog w = .ok (.tuple #[.agg #[.string ⟨#[]⟩, .slice none 0 0], .bool false]) w := by kernel_rfl
theorem ta_ownCall_leaf (v : Value) (w : World) : (Instr.typeAssert (.iface 84 v) 38 86 true).run Tryd.prog w = .ok (.tuple #[.agg #[.int .i64 0, .string ⟨#[]⟩], .bool false]) w := by kernel_rfl
theorem ta_ownCall_minus (v : Value) (w : World) : (Instr.typeAssert (.iface 84 v) 38 65 true).run Tryd.prog w = .ok (.tuple #[.agg #[.nilIface], .bool false]) w := by kernel_rfl
theorem ta_ownCall_joint (v : Value) (w : World) : (Instr.typeAssert (.iface 84 v) 38 78 true).run Tryd.prog w = .ok (.tuple #[.agg #[.int .i64 0, .string ⟨#[]⟩, .int .i64 0, .nilIface, .nilIface], .bool false]) w := by kernel_rfl
theorem ta_ownCall_raised (v : Value) (w : World) : (Instr.typeAssert (.iface 84 v) 38 67 true).run Tryd.prog w = .ok (.tuple #[.agg #[.nilIface, .int .i64 0], .bool false]) w := by kernel_rfl
theorem ta_ownCall_ownCall (v : Value) (w : World) : (Instr.typeAssert (.iface 84 v) 38 84 true).run Tryd.prog w = .ok (.tuple #[v, .bool true]) w := by kernel_rfl
theorem ta_ownCall_namedCall (v : Value) (w : World) : (Instr.typeAssert (.iface 84 v) 38 72 true).run Tryd.prog w = .ok (.tuple #[.agg #[.string ⟨#[]⟩, .slice none 0 0], .bool false]) w := by kernel_rfl
theorem ta_namedCall_leaf (v : Value) (w : World) : (Instr.typeAssert (.iface 72 v) 38 86 true).run Tryd.prog w = .ok (.tuple #[.agg #[.int .i64 0, .string ⟨#[]⟩], .bool false]) w := by kernel_rfl
theorem ta_namedCall_minus (v : Value) (w : World) : (Instr.typeAssert (.iface 72 v) 38 65 true).run Tryd.prog w = .ok (.tuple #[.agg #[.nilIface], .bool false]) w := by kernel_rfl
theorem ta_namedCall_joint (v : Value) (w : World) : (Instr.typeAssert (.iface 72 v) 38 78 true).run Tryd.prog w = .ok (.tuple #[.agg #[.int .i64 0, .string ⟨#[]⟩, .int .i64 0, .nilIface, .nilIface], .bool false]) w := by kernel_rfl
theorem ta_namedCall_raised (v : Value) (w : World) : (Instr.typeAssert (.iface 72 v) 38 67 true).run Tryd.prog w = .ok (.tuple #[.agg #[.nilIface, .int .i64 0], .bool false]) w := by kernel_rfl
theorem ta_namedCall_ownCall (v : Value) (w : World) : (Instr.typeAssert (.iface 72 v) 38 84 true).run Tryd.prog w = .ok (.tuple #[.agg #[.string ⟨#[]⟩, .slice none 0 0, .int .i64 0], .bool false]) w := by kernel_rfl
theorem ta_namedCall_namedCall (v : Value) (w : World) : (Instr.typeAssert (.iface 72 v) 38 72 true).run Tryd.prog w = .ok (.tuple #[v, .bool true]) w := by kernel_rfl
attribute [local go_sem] ta_leaf_leaf ta_leaf_minus ta_leaf_joint ta_leaf_raised ta_leaf_ownCall ta_leaf_namedCall
attribute [local go_sem] ta_minus_leaf ta_minus_minus ta_minus_joint ta_minus_raised ta_minus_ownCall ta_minus_namedCall
attribute [local go_sem] ta_joint_leaf ta_joint_minus ta_joint_joint ta_joint_raised ta_joint_ownCall ta_joint_namedCall
attribute [local go_sem] ta_raised_leaf ta_raised_minus ta_raised_joint ta_raised_raised ta_raised_ownCall ta_raised_namedCall
attribute [local go_sem] ta_ownCall_leaf ta_ownCall_minus ta_ownCall_joint ta_ownCall_raised ta_ownCall_ownCall ta_ownCall_namedCall
attribute [local go_sem] ta_namedCall_leaf ta_namedCall_minus ta_namedCall_joint ta_namedCall_raised ta_namedCall_ownCall ta_namedCall_namedCall
set_option maxRecDepth 100000 in
theorem iLv_leaf (k m lv : Int) (s : ByteArray) (ty ty' : TypeId) (u u' v v' : Value) (hv : v = .iface ty u) (hv' : v' = .iface ty' u') (a : Option Addr) (n c : Nat) (w : World) :
    Calls Tryd.prog 26 #[(.iface 86 (.agg #[.int .i64 k, .string s]))] w fun e w' => e = .returned (.int .i64 4) ∧ Below w.heap.size w w' := by
  subst hv hv'
  go_enter Tryd.func26, Tryd.ntmps26
  go_wp2
  go_ret
  exact ⟨rfl, (by repeat (first | with_reducible exact Below.refl _ _ | with_reducible refine Below.drew ?_ | ((with_reducible refine Below.setCell ?_ ?_ _); rotate_left; (focus (first | (simp; done) | omega | (simp; omega)))) | with_reducible refine old_alloc ?_ _ | with_reducible refine old_trans ?_ (by with_reducible assumption)))⟩
set_option maxRecDepth 100000 in
theorem iLv_minus (k m lv : Int) (s : ByteArray) (ty ty' : TypeId) (u u' v v' : Value) (hv : v = .iface ty u) (hv' : v' = .iface ty' u') (a : Option Addr) (n c : Nat) (w : World) :
    Calls Tryd.prog 26 #[(.iface 65 (.agg #[v]))] w fun e w' => e = .returned (.int .i64 2) ∧ Below w.heap.size w w' := by
  subst hv hv'
  go_enter Tryd.func26, Tryd.ntmps26
  go_wp2
  go_ret
  exact ⟨rfl, (by repeat (first | with_reducible exact Below.refl _ _ | with_reducible refine Below.drew ?_ | ((with_reducible refine Below.setCell ?_ ?_ _); rotate_left; (focus (first | (simp; done) | omega | (simp; omega)))) | with_reducible refine old_alloc ?_ _ | with_reducible refine old_trans ?_ (by with_reducible assumption)))⟩
set_option maxRecDepth 100000 in
theorem iLv_joint (k m lv : Int) (s : ByteArray) (ty ty' : TypeId) (u u' v v' : Value) (hv : v = .iface ty u) (hv' : v' = .iface ty' u') (a : Option Addr) (n c : Nat) (w : World) :
    Calls Tryd.prog 26 #[(.iface 78 (.agg #[.int .i64 k, .string s, .int .i64 lv, v, v']))] w fun e w' => e = .returned (.int .i64 lv) ∧ Below w.heap.size w w' := by
  subst hv hv'
  go_enter Tryd.func26, Tryd.ntmps26
  go_wp2
  go_ret
  exact ⟨rfl, (by repeat (first | with_reducible exact Below.refl _ _ | with_reducible refine Below.drew ?_ | ((with_reducible refine Below.setCell ?_ ?_ _); rotate_left; (focus (first | (simp; done) | omega | (simp; omega)))) | with_reducible refine old_alloc ?_ _ | with_reducible refine old_trans ?_ (by with_reducible assumption)))⟩
set_option maxRecDepth 100000 in
theorem iLv_raised (k m lv : Int) (s : ByteArray) (ty ty' : TypeId) (u u' v v' : Value) (hv : v = .iface ty u) (hv' : v' = .iface ty' u') (a : Option Addr) (n c : Nat) (w : World) :
    Calls Tryd.prog 26 #[(.iface 67 (.agg #[v, .int .i64 m]))] w fun e w' => e = .returned (.int .i64 3) ∧ Below w.heap.size w w' := by
  subst hv hv'
  go_enter Tryd.func26, Tryd.ntmps26
  go_wp2
  go_ret
  exact ⟨rfl, (by repeat (first | with_reducible exact Below.refl _ _ | with_reducible refine Below.drew ?_ | ((with_reducible refine Below.setCell ?_ ?_ _); rotate_left; (focus (first | (simp; done) | omega | (simp; omega)))) | with_reducible refine old_alloc ?_ _ | with_reducible refine old_trans ?_ (by with_reducible assumption)))⟩
set_option maxRecDepth 100000 in
theorem iLv_ownCall (k m lv : Int) (s : ByteArray) (ty ty' : TypeId) (u u' v v' : Value) (hv : v = .iface ty u) (hv' : v' = .iface ty' u') (a : Option Addr) (n c : Nat) (w : World) :
    Calls Tryd.prog 26 #[(.iface 84 (.agg #[.string s, .slice a n c, .int .i64 k]))] w fun e w' => e = .returned (.int .i64 4) ∧ Below w.heap.size w w' := by
  subst hv hv'
  go_enter Tryd.func26, Tryd.ntmps26
  go_wp2
  go_ret
  exact ⟨rfl, (by repeat (first | with_reducible exact Below.refl _ _ | with_reducible refine Below.drew ?_ | ((with_reducible refine Below.setCell ?_ ?_ _); rotate_left; (focus (first | (simp; done) | omega | (simp; omega)))) | with_reducible refine old_alloc ?_ _ | with_reducible refine old_trans ?_ (by with_reducible assumption)))⟩
set_option maxRecDepth 100000 in
theorem iLv_namedCall (k m lv : Int) (s : ByteArray) (ty ty' : TypeId) (u u' v v' : Value) (hv : v = .iface ty u) (hv' : v' = .iface ty' u') (a : Option Addr) (n c : Nat) (w : World) :
    Calls Tryd.prog 26 #[(.iface 72 (.agg #[.string s, .slice a n c]))] w fun e w' => e = .returned (.int .i64 4) ∧ Below w.heap.size w w' := by
  subst hv hv'
  go_enter Tryd.func26, Tryd.ntmps26
  go_wp2
  go_ret
  exact ⟨rfl, (by repeat (first | with_reducible exact Below.refl _ _ | with_reducible refine Below.drew ?_ | ((with_reducible refine Below.setCell ?_ ?_ _); rotate_left; (focus (first | (simp; done) | omega | (simp; omega)))) | with_reducible refine old_alloc ?_ _ | with_reducible refine old_trans ?_ (by with_reducible assumption)))⟩
theorem lvK_leaf {k : Int} (h : k = 1 ∨ k = 2 ∨ k = 13) : lvK k = 4 := by unfold lvK; rw [if_neg (by omega), if_neg (by omega), if_neg (by omega), if_neg (by omega)]
theorem lvK_minus {k : Int} (h : k = 3) : lvK k = 2 := by unfold lvK; rw [if_neg (by omega), if_neg (by omega), if_pos h]
theorem lvK_pow {k : Int} (h : k = 8) : lvK k = 3 := by unfold lvK; rw [if_neg (by omega), if_neg (by omega), if_neg (by omega), if_pos h]
theorem iLevel {w : World} {g : Option Nat} {t : Tr} {v : Value} (h : TV w g t v) (w' : World) :
    Calls Tryd.prog 26 #[v] w' fun e w'' => e = .returned (.int .i64 (lvK t.nd.k)) ∧ Below w'.heap.size w' w'' := by
  cases h with
  | leaf n hk => rw [show lvK (Tr.nd (.mk n [])).k = 4 from lvK_leaf (by show n.k = 1 ∨ n.k = 2 ∨ n.k = 13; omega)]; exact iLv_leaf n.k 0 0 n.s 0 0 .nilIface .nilIface _ _ rfl rfl none 0 0 w'
  | minus n t v hk h => obtain ⟨ty, u, rfl⟩ := h.iface; rw [show lvK (Tr.nd (.mk n [t])).k = 2 from lvK_minus hk]; exact iLv_minus 0 0 0 ⟨#[]⟩ ty ty u u _ _ rfl rfl none 0 0 w'
  | raised n t v hk h => obtain ⟨ty, u, rfl⟩ := h.iface; rw [show lvK (Tr.nd (.mk n [t])).k = 3 from lvK_pow hk]; exact iLv_raised 0 n.n 0 ⟨#[]⟩ ty ty u u _ _ rfl rfl none 0 0 w'
  | joint n t u v v' sg lv hk h h' => obtain ⟨ty, x, rfl⟩ := h.iface; obtain ⟨ty', x', rfl⟩ := h'.iface; rw [show lvK (Tr.nd (.mk n [t, u])).k = lv from (row_size hk).2.2.1]; exact iLv_joint n.k 0 lv sg ty ty' x x' _ _ rfl rfl none 0 0 w'
  | named n ps b off cap vs hk hm hcap hb hq hc h => rw [show lvK (Tr.nd (.mk n ps)).k = 4 from lvK_leaf (by show n.k = 1 ∨ n.k = 2 ∨ n.k = 13; omega)]; exact iLv_namedCall 0 0 0 n.s 0 0 .nilIface .nilIface _ _ rfl rfl _ _ _ w'
  | own n ps b off cap vs wd hk hm hcap hb hq hc h => rw [show lvK (Tr.nd (.mk n ps)).k = 4 from (word_size hk).2.1]; exact iLv_ownCall n.k 0 0 wd 0 0 .nilIface .nilIface _ _ rfl rfl _ _ _ w'
def BareOk (P : Program) (f : Nat) (w : World) (t : Tr) (v : Value) : Prop := t.txt.size ≤ 20000 → ∀ w', Below w.heap.size w w' → Calls P f #[v] w' fun e w'' => e = .returned (.string t.txt) ∧ Below w'.heap.size w' w''
def AtOk (P : Program) (f : Nat) (w : World) (t : Tr) (v : Value) : Prop := t.txt.size ≤ 20000 → ∀ (lv : Int) w', Below w.heap.size w w' → Calls P f #[.int .i64 lv, v] w' fun e w'' => e = .returned (.string (atT lv t.tx)) ∧ Below w'.heap.size w' w''
theorem at_yes {lv : Int} {p : Int × ByteArray} (h : p.1 < lv) : atT lv p = (⟨#[40]⟩ ++ p.2) ++ ⟨#[41]⟩ := if_pos h
theorem at_no {lv : Int} {p : Int × ByteArray} (h : ¬ p.1 < lv) : atT lv p = p.2 := if_neg h
set_option maxRecDepth 100000 in
theorem iTextAt {w : World} {g : Option Nat} {t : Tr} {v : Value} (h : TV w g t v) (H : BareOk Tryd.prog 25 w t v) : AtOk Tryd.prog 14 w t v := by
  intro hs lv w' hW
  have B := hd (H hs)
  have L := hd (iLevel h)
  obtain ⟨ty, u, rfl⟩ := h.iface
  have hy := at_yes (lv := lv) (p := t.tx)
  have hn := at_no (lv := lv) (p := t.tx)
  rw [show t.tx = (lvK t.nd.k, t.txt) from rfl] at hy hn ⊢
  generalize lvK t.nd.k = l at *
  generalize t.txt = s at *
  dsimp only at hy hn
  have e1 : (⟨#[40]⟩ : ByteArray).size = 1 := rfl
  have e2 : (⟨#[41]⟩ : ByteArray).size = 1 := rfl
  by_cases c : l < lv
  · rw [hy c]
    have c1 : decide (l < lv) = true := decide_eq_true c
    clear hy hn h c
    go_enter Tryd.func14, Tryd.ntmps14
    go_wp2_with fail
    refine (B.out _ hW).mono ?_
    rintro e w1 ⟨rfl, hb1⟩
    go_wp2_with fail
    refine (L.out _).mono ?_
    rintro e w2 ⟨rfl, hb2⟩
    have hz : (⟨#[40]⟩ ++ s : ByteArray).size ≤ 20001 := by rw [ByteArray.size_append]; omega
    go_wp2
    go_ret
    exact ⟨rfl, old_trans hb1 hb2⟩
  · rw [hn c]
    have c1 : decide (l < lv) = false := decide_eq_false c
    clear hy hn h c
    go_enter Tryd.func14, Tryd.ntmps14
    go_wp2_with fail
    refine (B.out _ hW).mono ?_
    rintro e w1 ⟨rfl, hb1⟩
    go_wp2_with fail
    refine (L.out _).mono ?_
    rintro e w2 ⟨rfl, hb2⟩
    go_wp2
    go_ret
    exact ⟨rfl, old_trans hb1 hb2⟩
theorem iBareLeaf {w : World} (n : Tn) (hk : n.k = 1 ∨ n.k = 2) : BareOk Tryd.prog 25 w (.mk n []) (.iface 86 (.agg #[.int .i64 n.k, .string n.s])) := by
  intro hs w' hW
  rw [txt_mk, tx_leaf hk] at hs ⊢
  go_enter Tryd.func25, Tryd.ntmps25
  go_wp2
  go_ret
  exact ⟨rfl, (by repeat (first | with_reducible exact Below.refl _ _ | with_reducible refine Below.drew ?_ | ((with_reducible refine Below.setCell ?_ ?_ _); rotate_left; (focus (first | (simp; done) | omega | (simp; omega)))) | with_reducible refine old_alloc ?_ _ | with_reducible refine old_trans ?_ (by with_reducible assumption)))⟩
theorem iBareMinus {w : World} (n : Tn) (t : Tr) (ty : TypeId) (u : Value) (hk : n.k = 3) (ih : AtOk Tryd.prog 14 w t (.iface ty u)) : BareOk Tryd.prog 25 w (.mk n [t]) (.iface 65 (.agg #[.iface ty u])) := by
  intro hs w' hW
  rw [txt_mk, tx_minus hk] at hs ⊢
  have hsz := at_ge 2 t.tx
  rw [ByteArray.size_append] at hs
  have e1 : (⟨#[45]⟩ : ByteArray).size = 1 := rfl
  have hs' : 1 + (atT 2 t.tx).size ≤ 20000 := by rw [e1] at hs; exact hs
  have R := hd (fun w1 (h : Below w.heap.size w w1) => ih (Nat.le_trans hsz (by omega)) 2 w1 h)
  show Calls _ _ _ _ (fun e w'' => e = .returned (.string (⟨#[45]⟩ ++ atT 2 t.tx)) ∧ _)
  generalize atT 2 t.tx = s at *
  clear hs hsz ih
  go_enter Tryd.func25, Tryd.ntmps25
  go_wp2_with fail
  refine (R.out _ (by repeat (first | with_reducible exact hW | with_reducible refine old_alloc ?_ _))).mono ?_
  rintro e w1 ⟨rfl, hb1⟩
  go_wp2
  go_ret
  exact ⟨rfl, (by repeat (first | with_reducible exact Below.refl _ _ | with_reducible refine Below.drew ?_ | ((with_reducible refine Below.setCell ?_ ?_ _); rotate_left; (focus (first | (simp; done) | omega | (simp; omega)))) | with_reducible refine old_alloc ?_ _ | with_reducible refine old_trans ?_ (by with_reducible assumption)))⟩
set_option maxRecDepth 100000 in
set_option maxHeartbeats 4000000 in
theorem iBareJoint0 {w w' : World} (hW : Below w.heap.size w w') (k : Int) (sg s1 s2 : ByteArray) (ty ty' : TypeId) (x x' : Value) (hsg : sg.size = 1) (hs : s1.size + s2.size + 3 ≤ 20000)
    (R1 : Hid (∀ w1, Below w.heap.size w w1 → Calls Tryd.prog 14 #[.int .i64 0, .iface ty x] w1 fun e w2 => e = .returned (.string s1) ∧ Below w1.heap.size w1 w2))
    (R2 : Hid (∀ w1, Below w.heap.size w w1 → Calls Tryd.prog 14 #[.int .i64 1, .iface ty' x'] w1 fun e w2 => e = .returned (.string s2) ∧ Below w1.heap.size w1 w2)) :
    Calls Tryd.prog 25 #[.iface 78 (.agg #[.int .i64 k, .string sg, .int .i64 0, .iface ty x, .iface ty' x'])] w' fun e w'' => e = .returned (.string ((((s1 ++ ⟨#[32]⟩) ++ sg) ++ ⟨#[32]⟩) ++ s2)) ∧ Below w'.heap.size w' w'' := by
  have K0 := CS.made w' _ rfl #[.int .i64 k, .string sg, .int .i64 0, .iface ty x, .iface ty' x'] 78
  have hB0 : Below w'.heap.size w' (w'.alloc (.cells #[.int .i64 k, .string sg, .int .i64 0, .iface ty x, .iface ty' x'] 78)) := old_alloc (Below.refl _ _) _
  have hBw := old_alloc hW (.cells #[.int .i64 k, .string sg, .int .i64 0, .iface ty x, .iface ty' x'] 78)
  have e1 : (⟨#[32]⟩ : ByteArray).size = 1 := rfl
  have z1 : (s1 ++ ⟨#[32]⟩ : ByteArray).size = s1.size + 1 := by rw [ByteArray.size_append]; rfl
  have z2 : (s1 ++ ⟨#[32]⟩ ++ sg : ByteArray).size = s1.size + 2 := by rw [ByteArray.size_append, z1]; omega
  have z3 : (s1 ++ ⟨#[32]⟩ ++ sg ++ ⟨#[32]⟩ : ByteArray).size = s1.size + 3 := by rw [ByteArray.size_append, z2]; rfl
  have y1 : ∀ W : World, (Op.stringOp .add s1 ⟨#[32]⟩).run Tryd.prog W = .ok (.string (s1 ++ ⟨#[32]⟩)) W := fun W => run_string_add_sum W _ _ (by omega)
  have y2 : ∀ W : World, (Op.stringOp .add (s1 ++ ⟨#[32]⟩) sg).run Tryd.prog W = .ok (.string (s1 ++ ⟨#[32]⟩ ++ sg)) W := fun W => run_string_add_sum W _ _ (by omega)
  have y3 : ∀ W : World, (Op.stringOp .add (s1 ++ ⟨#[32]⟩ ++ sg) ⟨#[32]⟩).run Tryd.prog W = .ok (.string (s1 ++ ⟨#[32]⟩ ++ sg ++ ⟨#[32]⟩)) W := fun W => run_string_add_sum W _ _ (by omega)
  have y4 : ∀ W : World, (Op.stringOp .add (s1 ++ ⟨#[32]⟩ ++ sg ++ ⟨#[32]⟩) s2).run Tryd.prog W = .ok (.string (s1 ++ ⟨#[32]⟩ ++ sg ++ ⟨#[32]⟩ ++ s2)) W := fun W => run_string_add_sum W _ _ (by omega)
  have y5 : IntKind.i64.wrap (0 + 1) = 1 := rfl
  clear z1 z2 z3 e1
  go_enter Tryd.func25, Tryd.ntmps25
  go_upto_region 10 with fail
  generalize hw0 : w'.alloc (.cells #[.int .i64 k, .string sg, .int .i64 0, .iface ty x, .iface ty' x'] 78) = w0 at *
  replace R1 : Hid (∀ w1, Below w0.heap.size w0 w1 → _) := hd (fun w1 h => R1.out w1 (old_trans hBw h))
  replace R2 : Hid (∀ w1, Below w0.heap.size w0 w1 → _) := hd (fun w1 h => R2.out w1 (old_trans hBw h))
  have hc : Below w0.heap.size w0 w0 := Below.refl _ _
  have k0 := K0.cell 0 _ rfl
  have k1 := K0.cell 1 _ rfl
  have k2 := K0.cell 2 _ rfl
  have k3 := K0.cell 3 _ rfl
  have k4 := K0.cell 4 _ rfl
  clear hBw hW hw0
  go_region_held3 (fun w'' => w''.cell? ⟨w'.heap.size, 0, none⟩ = some (.int .i64 k) ∧ w''.cell? ⟨w'.heap.size, 1, none⟩ = some (.string sg) ∧ w''.cell? ⟨w'.heap.size, 2, none⟩ = some (.int .i64 0) ∧ w''.cell? ⟨w'.heap.size, 3, none⟩ = some (.iface ty x) ∧ w''.cell? ⟨w'.heap.size, 4, none⟩ = some (.iface ty' x')) (go_keep) (first | (go_at_call_of 14 (Value.iface ty x); refine (R1.out _ (by with_reducible first | exact hc | exact Below.drew hc)).mono ?_; rintro e wx ⟨rfl, hbx⟩; have hc := (by with_reducible first | exact old_trans hc hbx | exact old_trans (Below.drew hc) hbx : Below w0.heap.size w0 wx); have k0 := (K0.later hc).cell 0 _ rfl; have k1 := (K0.later hc).cell 1 _ rfl; have k2 := (K0.later hc).cell 2 _ rfl; have k3 := (K0.later hc).cell 3 _ rfl; have k4 := (K0.later hc).cell 4 _ rfl) | (go_at_call_of 14 (Value.iface ty' x'); refine (R2.out _ (by with_reducible first | exact hc | exact Below.drew hc)).mono ?_; rintro e wx ⟨rfl, hbx⟩; have hc := (by with_reducible first | exact old_trans hc hbx | exact old_trans (Below.drew hc) hbx : Below w0.heap.size w0 wx); have k0 := (K0.later hc).cell 0 _ rfl; have k1 := (K0.later hc).cell 1 _ rfl; have k2 := (K0.later hc).cell 2 _ rfl; have k3 := (K0.later hc).cell 3 _ rfl; have k4 := (K0.later hc).cell 4 _ rfl))
  all_goals
    go_wp2
    go_ret
    exact ⟨rfl, old_trans hB0 (by with_reducible first | exact hc | exact Below.drew hc)⟩
set_option maxRecDepth 100000 in
set_option maxHeartbeats 4000000 in
theorem iBareJoint1 {w w' : World} (hW : Below w.heap.size w w') (k : Int) (sg s1 s2 : ByteArray) (ty ty' : TypeId) (x x' : Value) (hsg : sg.size = 1) (hs : s1.size + s2.size + 3 ≤ 20000)
    (R1 : Hid (∀ w1, Below w.heap.size w w1 → Calls Tryd.prog 14 #[.int .i64 1, .iface ty x] w1 fun e w2 => e = .returned (.string s1) ∧ Below w1.heap.size w1 w2))
    (R2 : Hid (∀ w1, Below w.heap.size w w1 → Calls Tryd.prog 14 #[.int .i64 2, .iface ty' x'] w1 fun e w2 => e = .returned (.string s2) ∧ Below w1.heap.size w1 w2)) :
    Calls Tryd.prog 25 #[.iface 78 (.agg #[.int .i64 k, .string sg, .int .i64 1, .iface ty x, .iface ty' x'])] w' fun e w'' => e = .returned (.string ((((s1 ++ ⟨#[32]⟩) ++ sg) ++ ⟨#[32]⟩) ++ s2)) ∧ Below w'.heap.size w' w'' := by
  have K0 := CS.made w' _ rfl #[.int .i64 k, .string sg, .int .i64 1, .iface ty x, .iface ty' x'] 78
  have hB0 : Below w'.heap.size w' (w'.alloc (.cells #[.int .i64 k, .string sg, .int .i64 1, .iface ty x, .iface ty' x'] 78)) := old_alloc (Below.refl _ _) _
  have hBw := old_alloc hW (.cells #[.int .i64 k, .string sg, .int .i64 1, .iface ty x, .iface ty' x'] 78)
  have e1 : (⟨#[32]⟩ : ByteArray).size = 1 := rfl
  have z1 : (s1 ++ ⟨#[32]⟩ : ByteArray).size = s1.size + 1 := by rw [ByteArray.size_append]; rfl
  have z2 : (s1 ++ ⟨#[32]⟩ ++ sg : ByteArray).size = s1.size + 2 := by rw [ByteArray.size_append, z1]; omega
  have z3 : (s1 ++ ⟨#[32]⟩ ++ sg ++ ⟨#[32]⟩ : ByteArray).size = s1.size + 3 := by rw [ByteArray.size_append, z2]; rfl
  have y1 : ∀ W : World, (Op.stringOp .add s1 ⟨#[32]⟩).run Tryd.prog W = .ok (.string (s1 ++ ⟨#[32]⟩)) W := fun W => run_string_add_sum W _ _ (by omega)
  have y2 : ∀ W : World, (Op.stringOp .add (s1 ++ ⟨#[32]⟩) sg).run Tryd.prog W = .ok (.string (s1 ++ ⟨#[32]⟩ ++ sg)) W := fun W => run_string_add_sum W _ _ (by omega)
  have y3 : ∀ W : World, (Op.stringOp .add (s1 ++ ⟨#[32]⟩ ++ sg) ⟨#[32]⟩).run Tryd.prog W = .ok (.string (s1 ++ ⟨#[32]⟩ ++ sg ++ ⟨#[32]⟩)) W := fun W => run_string_add_sum W _ _ (by omega)
  have y4 : ∀ W : World, (Op.stringOp .add (s1 ++ ⟨#[32]⟩ ++ sg ++ ⟨#[32]⟩) s2).run Tryd.prog W = .ok (.string (s1 ++ ⟨#[32]⟩ ++ sg ++ ⟨#[32]⟩ ++ s2)) W := fun W => run_string_add_sum W _ _ (by omega)
  have y5 : IntKind.i64.wrap (1 + 1) = 2 := rfl
  clear z1 z2 z3 e1
  go_enter Tryd.func25, Tryd.ntmps25
  go_upto_region 10 with fail
  generalize hw0 : w'.alloc (.cells #[.int .i64 k, .string sg, .int .i64 1, .iface ty x, .iface ty' x'] 78) = w0 at *
  replace R1 : Hid (∀ w1, Below w0.heap.size w0 w1 → _) := hd (fun w1 h => R1.out w1 (old_trans hBw h))
  replace R2 : Hid (∀ w1, Below w0.heap.size w0 w1 → _) := hd (fun w1 h => R2.out w1 (old_trans hBw h))
  have hc : Below w0.heap.size w0 w0 := Below.refl _ _
  have k0 := K0.cell 0 _ rfl
  have k1 := K0.cell 1 _ rfl
  have k2 := K0.cell 2 _ rfl
  have k3 := K0.cell 3 _ rfl
  have k4 := K0.cell 4 _ rfl
  clear hBw hW hw0
  go_region_held3 (fun w'' => w''.cell? ⟨w'.heap.size, 0, none⟩ = some (.int .i64 k) ∧ w''.cell? ⟨w'.heap.size, 1, none⟩ = some (.string sg) ∧ w''.cell? ⟨w'.heap.size, 2, none⟩ = some (.int .i64 1) ∧ w''.cell? ⟨w'.heap.size, 3, none⟩ = some (.iface ty x) ∧ w''.cell? ⟨w'.heap.size, 4, none⟩ = some (.iface ty' x')) (go_keep) (first | (go_at_call_of 14 (Value.iface ty x); refine (R1.out _ (by with_reducible first | exact hc | exact Below.drew hc)).mono ?_; rintro e wx ⟨rfl, hbx⟩; have hc := (by with_reducible first | exact old_trans hc hbx | exact old_trans (Below.drew hc) hbx : Below w0.heap.size w0 wx); have k0 := (K0.later hc).cell 0 _ rfl; have k1 := (K0.later hc).cell 1 _ rfl; have k2 := (K0.later hc).cell 2 _ rfl; have k3 := (K0.later hc).cell 3 _ rfl; have k4 := (K0.later hc).cell 4 _ rfl) | (go_at_call_of 14 (Value.iface ty' x'); refine (R2.out _ (by with_reducible first | exact hc | exact Below.drew hc)).mono ?_; rintro e wx ⟨rfl, hbx⟩; have hc := (by with_reducible first | exact old_trans hc hbx | exact old_trans (Below.drew hc) hbx : Below w0.heap.size w0 wx); have k0 := (K0.later hc).cell 0 _ rfl; have k1 := (K0.later hc).cell 1 _ rfl; have k2 := (K0.later hc).cell 2 _ rfl; have k3 := (K0.later hc).cell 3 _ rfl; have k4 := (K0.later hc).cell 4 _ rfl))
  all_goals
    go_wp2
    go_ret
    exact ⟨rfl, old_trans hB0 (by with_reducible first | exact hc | exact Below.drew hc)⟩
theorem iBareJoint {w : World} (n : Tn) (t u : Tr) (ty ty' : TypeId) (x x' : Value) (sg : ByteArray) (lv : Int) (hk : rowOf n.k = some (sg, lv)) (ih : AtOk Tryd.prog 14 w t (.iface ty x)) (ih' : AtOk Tryd.prog 14 w u (.iface ty' x')) :
    BareOk Tryd.prog 25 w (.mk n [t, u]) (.iface 78 (.agg #[.int .i64 n.k, .string sg, .int .i64 lv, .iface ty x, .iface ty' x'])) := by
  intro hs w' hW
  have hr := row_size hk
  rw [txt_mk, tx_joint hk] at hs ⊢
  change (((((atT lv t.tx ++ ⟨#[32]⟩) ++ sg) ++ ⟨#[32]⟩) ++ atT (lv + 1) u.tx)).size ≤ 20000 at hs
  show Calls _ _ _ _ (fun e w'' => e = .returned (.string ((((atT lv t.tx ++ ⟨#[32]⟩) ++ sg) ++ ⟨#[32]⟩) ++ atT (lv + 1) u.tx)) ∧ _)
  rw [ByteArray.size_append, ByteArray.size_append, ByteArray.size_append, ByteArray.size_append, hr.1] at hs
  have e1 : (⟨#[32]⟩ : ByteArray).size = 1 := rfl
  have g1 := at_ge lv t.tx
  have g2 := at_ge (lv + 1) u.tx
  have i1 := ih (Nat.le_trans g1 (by omega)) lv
  have i2 := ih' (Nat.le_trans g2 (by omega)) (lv + 1)
  have hs' : (atT lv t.tx).size + (atT (lv + 1) u.tx).size + 3 ≤ 20000 := by omega
  obtain rfl | rfl : lv = 0 ∨ lv = 1 := by omega
  · exact iBareJoint0 hW n.k sg _ _ ty ty' x x' hr.1 hs' i1 i2
  · exact iBareJoint1 hW n.k sg _ _ ty ty' x x' hr.1 hs' i1 i2
end Go.Proofs.YtknibhdnbkmkiaaDoor
