/- The program's BoxMore answers as the specification's BoxMore at every argument; it writes into no argument, and what it answers is its own. No condition. -/
import Derived.Test.YtmeijbiohbpgpaaRows
import Derived.WalkKit
import Derived.ProofKit
import Derived.OpenShut
import Derived.Below
import Derived.Carry
import Derived.Test.YtmeijbiohbpgpaaO1
import Derived.Test.YtmeijbiohbpgpaaE7
import Derived.Test.YtmeijbiohbpgpaaCut
import Derived.Test.YtmeijbiohbpgpaaJ0
import Derived.Test.YtmeijbiohbpgpaaJ1
import Derived.Test.YtmeijbiohbpgpaaJ4
import Derived.Test.YtmeijbiohbpgpaaJ5
import Derived.Test.YtmeijbiohbpgpaaJ6
namespace Go.Proofs.Ytmeijbiohbpgpaa
open Go.ChangeShapes Go.WideShapes Go.ChangeAt Go.RowKit
set_option linter.unusedVariables false

theorem FnExactBoxMore_own : ownKnob Try.prog.godebug = none := by kernel_rfl

set_option maxRecDepth 100000 in
set_option maxHeartbeats 4000000 in
theorem FnExactBoxMore_walk (a0 : Option Addr) (len0 cap0 : Nat) (ps0 : List (Int × Int)) (w : World) (wb0 : InRow w a0 len0 cap0 ps0):
    Calls Try.prog 14 #[.agg #[.slice a0 len0 cap0]] w fun e w' => e = .returned (.bool true) ∧ Below w.heap.size w w' := by
  obtain rfl := wb0.1
  have hlen0 : ps0.length ≤ maxLen := Nat.le_trans wb0.2.1 wb0.2.2.1
  have SZ := hd (lSzBox a0 ps0.length cap0 1048576 hlen0 (by omega) (by omega))
  by_cases c : (ps0.length : Int) ≤ 1048576
  case neg =>
    rw [if_neg c] at SZ
    go_enter Try.func14, Try.ntmps14
    go_wp2_with (go_at_call 15; refine (SZ.out _).mono ?_; rintro e w1 ⟨rfl, hb1⟩)
    go_ret
    exact ⟨rfl, (by repeat (first | exact Below.refl _ _ | refine Below.drew ?_ | refine old_alloc ?_ _ | refine old_trans ?_ (by assumption)))⟩
  rw [if_pos c] at SZ
  have hl0 : ps0.length ≤ 1048576 := by omega
  have c' : ¬ (1048576 - (ps0.length : Int) < 0) := by omega
  clear c
  have S := hd (fun a len cap w (h : InRow w a len cap ps0) => sBoxMoreO a len cap ps0 w h)
  have I := hd (fun a len cap w (h : InRow w a len cap ps0) => iBoxMoreO a len cap ps0 w h)
  have hql : (resL (okRow 32 ps0) (moreL ps0)).length ≤ 1048576 := res_len (by unfold moreL; rw [madeL_length]; exact hl0)
  generalize resL (okRow 32 ps0) (moreL ps0) = ql at *
  generalize okRow 32 ps0 = r at *
  have hx1 : ¬ (1 + 2 * (ps0.length : Int) < 0) := by omega
  have hx2 : ¬ (1 + 2 * (ql.length : Int) < 0) := by omega
  have K : Cel1 (w.alloc (.cells #[.slice a0 ps0.length cap0] 24)) w.heap.size (.slice a0 ps0.length cap0) := Cel1.made w _ rfl _ _
  have R := wb0.alloc (.cells #[.slice a0 ps0.length cap0] 24)
  have hB : Below w.heap.size w (w.alloc (.cells #[.slice a0 ps0.length cap0] 24)) := old_alloc (Below.refl _ _) _
  go_enter Try.func14, Try.ntmps14
  go_wp2_with fail
  refine (SZ.out _).mono ?_
  rintro e w1 ⟨rfl, hb1⟩
  replace K := (by with_reducible first | exact K.later hb1 | exact (K.alloc _).later hb1 : Cel1 w1 _ _)
  replace R := (by with_reducible first | exact R.old hb1 | exact (R.alloc _).old hb1 : InRow w1 _ _ _ _)
  replace hB := (by with_reducible first | exact old_trans hB hb1 | exact old_trans (old_alloc hB _) hb1 : Below w.heap.size w w1)
  have K0 := K.1
  have K2 := K.2.2
  go_wp2_with fail
  refine (toBoxO a0 cap0 ps0 _ (by with_reducible first | exact R | exact R.alloc _) hl0).mono ?_
  rintro e w2 ⟨⟨avT1, cvT1, rfl, T1⟩, hb2⟩
  clear K0 K2
  with_reducible (first | (have l_K_T1 := K.ltb hb2) | (have l_K_T1 := (K.alloc _).ltb hb2))
  with_reducible (first | (have l_R_T1 := R.ltb hb2) | (have l_R_T1 := (R.alloc _).ltb hb2))
  with_reducible (first | (have n_T1 := Below.ltb hB hb2) | (have n_T1 := Below.ltb (old_alloc hB _) hb2))
  replace K := (by with_reducible first | exact K.later hb2 | exact (K.alloc _).later hb2 : Cel1 w2 _ _)
  replace R := (by with_reducible first | exact R.old hb2 | exact (R.alloc _).old hb2 : InRow w2 _ _ _ _)
  replace hB := (by with_reducible first | exact old_trans hB hb2 | exact old_trans (old_alloc hB _) hb2 : Below w.heap.size w w2)
  have K0 := K.1
  have K2 := K.2.2
  go_wp2_with fail
  refine (S.out _ _ _ _ (by with_reducible first | exact T1.inRow)).mono ?_
  rintro e w3 ⟨⟨avW, cvW, rfl, W⟩, hb3⟩
  clear K0 K2
  with_reducible (first | (have l_K_W := K.ltb hb3) | (have l_K_W := (K.alloc _).ltb hb3))
  with_reducible (first | (have l_T1_W := T1.ltb hb3) | (have l_T1_W := (T1.alloc _).ltb hb3))
  with_reducible (first | (have l_R_W := R.ltb hb3) | (have l_R_W := (R.alloc _).ltb hb3))
  with_reducible (first | (have n_W := Below.ltb hB hb3) | (have n_W := Below.ltb (old_alloc hB _) hb3))
  clear T1
  replace K := (by with_reducible first | exact K.later hb3 | exact (K.alloc _).later hb3 : Cel1 w3 _ _)
  replace R := (by with_reducible first | exact R.old hb3 | exact (R.alloc _).old hb3 : InRow w3 _ _ _ _)
  replace hB := (by with_reducible first | exact old_trans hB hb3 | exact old_trans (old_alloc hB _) hb3 : Below w.heap.size w w3)
  have K0 := K.1
  have K2 := K.2.2
  have Wc : Cel1 (w3.alloc (.cells #[.slice avW ql.length cvW] 29)) w3.heap.size (.slice avW ql.length cvW) := Cel1.made _ _ rfl _ _
  have y_W_Wc := W.lt
  go_wp2_with fail
  refine (toBoxO a0 cap0 ps0 _ (by with_reducible first | exact R | exact R.alloc _) hl0).mono ?_
  rintro e w4 ⟨⟨avX, cvX, rfl, X⟩, hb4⟩
  clear K0 K2
  with_reducible (first | (have l_K_X := K.ltb hb4) | (have l_K_X := (K.alloc _).ltb hb4))
  with_reducible (first | (have l_W_X := W.ltb hb4) | (have l_W_X := (W.alloc _).ltb hb4))
  with_reducible (first | (have l_R_X := R.ltb hb4) | (have l_R_X := (R.alloc _).ltb hb4))
  with_reducible (first | (have l_Wc_X := Wc.ltb hb4))
  with_reducible (first | (have n_X := Below.ltb hB hb4) | (have n_X := Below.ltb (old_alloc hB _) hb4))
  replace K := (by with_reducible first | exact K.later hb4 | exact (K.alloc _).later hb4 : Cel1 w4 _ _)
  replace W := (by with_reducible first | exact W.later hb4 | exact (W.alloc _).later hb4 : OB w4 _ _ _ _)
  replace R := (by with_reducible first | exact R.old hb4 | exact (R.alloc _).old hb4 : InRow w4 _ _ _ _)
  replace hB := (by with_reducible first | exact old_trans hB hb4 | exact old_trans (old_alloc hB _) hb4 : Below w.heap.size w w4)
  replace Wc := Wc.later hb4
  have K0 := K.1
  have K2 := K.2.2
  have Wc0 := Wc.1
  have Wc2 := Wc.2.2
  have Xc : Cel1 (w4.alloc (.cells #[.slice avX ps0.length cvX] 29)) w4.heap.size (.slice avX ps0.length cvX) := Cel1.made _ _ rfl _ _
  have y_W_Xc := W.lt
  have y_X_Xc := X.lt
  go_wp2_with fail
  refine (I.out _ _ _ _ (X.alloc _).inRow).mono ?_
  rintro e w5 ⟨⟨avG, cvG, rfl, G⟩, hb5⟩
  clear K0 K2 Wc0 Wc2
  with_reducible (first | (have l_K_G := K.ltb hb5) | (have l_K_G := (K.alloc _).ltb hb5))
  with_reducible (first | (have l_Wc_G := Wc.ltb hb5) | (have l_Wc_G := (Wc.alloc _).ltb hb5))
  with_reducible (first | (have l_W_G := W.ltb hb5) | (have l_W_G := (W.alloc _).ltb hb5))
  with_reducible (first | (have l_X_G := X.ltb hb5) | (have l_X_G := (X.alloc _).ltb hb5))
  with_reducible (first | (have l_R_G := R.ltb hb5) | (have l_R_G := (R.alloc _).ltb hb5))
  with_reducible (first | (have l_Xc_G := Xc.ltb hb5))
  with_reducible (first | (have n_G := Below.ltb hB hb5) | (have n_G := Below.ltb (old_alloc hB _) hb5))
  replace K := (by with_reducible first | exact K.later hb5 | exact (K.alloc _).later hb5 : Cel1 w5 _ _)
  replace Wc := (by with_reducible first | exact Wc.later hb5 | exact (Wc.alloc _).later hb5 : Cel1 w5 _ _)
  replace W := (by with_reducible first | exact W.later hb5 | exact (W.alloc _).later hb5 : OB w5 _ _ _ _)
  replace X := (by with_reducible first | exact X.later hb5 | exact (X.alloc _).later hb5 : OB w5 _ _ _ _)
  replace R := (by with_reducible first | exact R.old hb5 | exact (R.alloc _).old hb5 : InRow w5 _ _ _ _)
  replace hB := (by with_reducible first | exact old_trans hB hb5 | exact old_trans (old_alloc hB _) hb5 : Below w.heap.size w w5)
  replace Xc := Xc.later hb5
  have K0 := K.1
  have K2 := K.2.2
  have Wc0 := Wc.1
  have Wc2 := Wc.2.2
  have Xc0 := Xc.1
  have Xc2 := Xc.2.2
  have Gc : Cel1 (w5.alloc (.cells #[.slice avG ql.length cvG] 29)) w5.heap.size (.slice avG ql.length cvG) := Cel1.made _ _ rfl _ _
  have y_W_Gc := W.lt
  have y_X_Gc := X.lt
  have y_G_Gc := G.lt
  go_wp2_with fail
  refine (lEqO avG avW cvG cvW _ _ ql _ (by with_reducible first | exact G | exact G.alloc _) (by with_reducible first | exact W | exact W.alloc _)).mono ?_
  rintro e w6 ⟨rfl, hb6⟩
  clear K0 K2 Wc0 Wc2 Xc0 Xc2
  replace K := (by with_reducible first | exact K.later hb6 | exact (K.alloc _).later hb6 : Cel1 w6 _ _)
  replace Wc := (by with_reducible first | exact Wc.later hb6 | exact (Wc.alloc _).later hb6 : Cel1 w6 _ _)
  replace Xc := (by with_reducible first | exact Xc.later hb6 | exact (Xc.alloc _).later hb6 : Cel1 w6 _ _)
  replace W := (by with_reducible first | exact W.later hb6 | exact (W.alloc _).later hb6 : OB w6 _ _ _ _)
  replace X := (by with_reducible first | exact X.later hb6 | exact (X.alloc _).later hb6 : OB w6 _ _ _ _)
  replace G := (by with_reducible first | exact G.later hb6 | exact (G.alloc _).later hb6 : OB w6 _ _ _ _)
  replace R := (by with_reducible first | exact R.old hb6 | exact (R.alloc _).old hb6 : InRow w6 _ _ _ _)
  replace hB := (by with_reducible first | exact old_trans hB hb6 | exact old_trans (old_alloc hB _) hb6 : Below w.heap.size w w6)
  replace Gc := Gc.later hb6
  have K0 := K.1
  have K2 := K.2.2
  have Wc0 := Wc.1
  have Wc2 := Wc.2.2
  have Xc0 := Xc.1
  have Xc2 := Xc.2.2
  have Gc0 := Gc.1
  have Gc2 := Gc.2.2
  clear K0 K2 Wc0 Wc2 Xc0 Xc2 Gc0 Gc2
  have K0 := K.1
  have K2 := K.2.2
  have Wc0 := Wc.1
  have Wc2 := Wc.2.2
  have Xc0 := Xc.1
  have Xc2 := Xc.2.2
  have Gc0 := Gc.1
  have Gc2 := Gc.2.2
  go_upto_region 10 with fail
  go_cut [45] (fun s wx => s = .bool false ∧ Cel1 wx w.heap.size (.slice a0 ps0.length cap0) ∧ Cel1 wx w3.heap.size (.slice avW ql.length cvW) ∧ Cel1 wx w4.heap.size (.slice avX ps0.length cvX) ∧ Cel1 wx w5.heap.size (.slice avG ql.length cvG) ∧ OB wx w2.heap.size avW cvW ql ∧ OB wx (w3.alloc (.cells #[.slice avW ql.length cvW] 29)).heap.size avX cvX ps0 ∧ OB wx (w4.alloc (.cells #[.slice avX ps0.length cvX] 29)).heap.size avG cvG ql ∧ InRow wx a0 ps0.length cap0 ps0 ∧ Below w.heap.size w wx)
  case first =>
    go_wp2_with fail
    go_region_with (first | (go_at_call 17; refine (toBoxO a0 cap0 ps0 _ (by with_reducible first | exact R | exact R.drew) hl0).mono ?_; rintro e wx ⟨⟨avZ, cvZ, rfl, Z⟩, hbx⟩; have K := (by with_reducible first | exact K.later hbx | exact K.drew.later hbx : Cel1 wx _ _); have K0 := K.1; have K2 := K.2.2; have Wc := (by with_reducible first | exact Wc.later hbx | exact Wc.drew.later hbx : Cel1 wx _ _); have Wc0 := Wc.1; have Wc2 := Wc.2.2; have Xc := (by with_reducible first | exact Xc.later hbx | exact Xc.drew.later hbx : Cel1 wx _ _); have Xc0 := Xc.1; have Xc2 := Xc.2.2; have Gc := (by with_reducible first | exact Gc.later hbx | exact Gc.drew.later hbx : Cel1 wx _ _); have Gc0 := Gc.1; have Gc2 := Gc.2.2; have W := (by with_reducible first | exact W.later hbx | exact W.drew.later hbx : OB wx _ _ _ _); have X := (by with_reducible first | exact X.later hbx | exact X.drew.later hbx : OB wx _ _ _ _); have G := (by with_reducible first | exact G.later hbx | exact G.drew.later hbx : OB wx _ _ _ _); have R := (by with_reducible first | exact R.old hbx | exact R.drew.old hbx : InRow wx _ _ _ _); have hB := (by with_reducible first | exact old_trans hB hbx | exact old_trans hB.drew hbx : Below w.heap.size w wx)) | (go_at_call 19; refine (lEqO avX avZ cvX cvZ _ _ ps0 _ (by with_reducible first | exact X | exact X.drew) (by with_reducible first | exact Z | exact Z.drew)).mono ?_; rintro e wy ⟨rfl, hby⟩; have K := (by with_reducible first | exact K.later hby | exact K.drew.later hby : Cel1 wy _ _); have K0 := K.1; have K2 := K.2.2; have Wc := (by with_reducible first | exact Wc.later hby | exact Wc.drew.later hby : Cel1 wy _ _); have Wc0 := Wc.1; have Wc2 := Wc.2.2; have Xc := (by with_reducible first | exact Xc.later hby | exact Xc.drew.later hby : Cel1 wy _ _); have Xc0 := Xc.1; have Xc2 := Xc.2.2; have Gc := (by with_reducible first | exact Gc.later hby | exact Gc.drew.later hby : Cel1 wy _ _); have Gc0 := Gc.1; have Gc2 := Gc.2.2; have W := (by with_reducible first | exact W.later hby | exact W.drew.later hby : OB wy _ _ _ _); have X := (by with_reducible first | exact X.later hby | exact X.drew.later hby : OB wy _ _ _ _); have G := (by with_reducible first | exact G.later hby | exact G.drew.later hby : OB wy _ _ _ _); have R := (by with_reducible first | exact R.old hby | exact R.drew.old hby : InRow wy _ _ _ _); have hB := (by with_reducible first | exact old_trans hB hby | exact old_trans hB.drew hby : Below w.heap.size w wy)))
    all_goals
      go_wp2_with fail
      go_meet
      exact ⟨rfl, K, Wc, Xc, Gc, W, X, G, R, hB⟩
  case rest =>
    clear K0 K2 Wc0 Wc2 Xc0 Xc2 Gc0 Gc2 K Wc Xc Gc W X G R hB
    obtain ⟨rfl, K, Wc, Xc, Gc, W, X, G, R, hB⟩ := hcut
    have K0 := K.1
    have K2 := K.2.2
    have Wc0 := Wc.1
    have Wc2 := Wc.2.2
    have Xc0 := Xc.1
    have Xc2 := Xc.2.2
    have Gc0 := Gc.1
    have Gc2 := Gc.2.2
    go_wp2_with fail
    refine (lMarkO _ avX cvX ps0 (1) _ X hl0 (by omega) (by omega)).mono ?_
    rintro e w31 ⟨rfl, X', hg31⟩
    clear K0 K2 Wc0 Wc2 Xc0 Xc2 Gc0 Gc2
    replace K := K.kept hg31 (X.ne_old l_K_X)
    replace Wc := Wc.kept hg31 (X.ne_old l_Wc_X)
    replace Xc := Xc.kept hg31 (ne_young y_X_Xc)
    replace Gc := Gc.kept hg31 (ne_young y_X_Gc)
    replace W := W.kept hg31 (X.sep l_W_X)
    replace G := G.kept hg31 (G.sep' l_X_G)
    replace R := R.kept' hg31 (fun h0 => X.sep (l_R_X h0))
    replace hB := Below.marked hB X hg31 n_X hB.size
    clear X
    have X := X'
    clear X'
    have K0 := K.1
    have K2 := K.2.2
    have Wc0 := Wc.1
    have Wc2 := Wc.2.2
    have Xc0 := Xc.1
    have Xc2 := Xc.2.2
    have Gc0 := Gc.1
    have Gc2 := Gc.2.2
    go_wp2_with fail
    refine (lEqO avG avW cvG cvW _ _ ql _ G W).mono ?_
    rintro e w32 ⟨rfl, hb32⟩
    clear K0 K2 Wc0 Wc2 Xc0 Xc2 Gc0 Gc2
    replace K := (by with_reducible first | exact K.later hb32 | exact (K.alloc _).later hb32 : Cel1 w32 _ _)
    replace Wc := (by with_reducible first | exact Wc.later hb32 | exact (Wc.alloc _).later hb32 : Cel1 w32 _ _)
    replace Xc := (by with_reducible first | exact Xc.later hb32 | exact (Xc.alloc _).later hb32 : Cel1 w32 _ _)
    replace Gc := (by with_reducible first | exact Gc.later hb32 | exact (Gc.alloc _).later hb32 : Cel1 w32 _ _)
    replace W := (by with_reducible first | exact W.later hb32 | exact (W.alloc _).later hb32 : OB w32 _ _ _ _)
    replace X := (by with_reducible first | exact X.later hb32 | exact (X.alloc _).later hb32 : OB w32 _ _ _ _)
    replace G := (by with_reducible first | exact G.later hb32 | exact (G.alloc _).later hb32 : OB w32 _ _ _ _)
    replace R := (by with_reducible first | exact R.old hb32 | exact (R.alloc _).old hb32 : InRow w32 _ _ _ _)
    replace hB := (by with_reducible first | exact old_trans hB hb32 | exact old_trans (old_alloc hB _) hb32 : Below w.heap.size w w32)
    have K0 := K.1
    have K2 := K.2.2
    have Wc0 := Wc.1
    have Wc2 := Wc.2.2
    have Xc0 := Xc.1
    have Xc2 := Xc.2.2
    have Gc0 := Gc.1
    have Gc2 := Gc.2.2
    go_wp2_with fail
    refine (lMarkO _ avG cvG ql (1) _ G hql (by omega) (by omega)).mono ?_
    rintro e w33 ⟨rfl, G', hg33⟩
    clear K0 K2 Wc0 Wc2 Xc0 Xc2 Gc0 Gc2
    replace K := K.kept hg33 (G.ne_old l_K_G)
    replace Wc := Wc.kept hg33 (G.ne_old l_Wc_G)
    replace Xc := Xc.kept hg33 (G.ne_old l_Xc_G)
    replace Gc := Gc.kept hg33 (ne_young y_G_Gc)
    replace W := W.kept hg33 (G.sep l_W_G)
    replace X := X.kept hg33 (G.sep l_X_G)
    replace R := R.kept' hg33 (fun h0 => G.sep (l_R_G h0))
    replace hB := Below.marked hB G hg33 n_G hB.size
    clear G
    have G := G'
    clear G'
    have K0 := K.1
    have K2 := K.2.2
    have Wc0 := Wc.1
    have Wc2 := Wc.2.2
    have Xc0 := Xc.1
    have Xc2 := Xc.2.2
    have Gc0 := Gc.1
    have Gc2 := Gc.2.2
    go_wp2_with fail
    refine (lHeldO _ avG cvG ql.length 1 _ G hql (by omega) (by omega)).mono ?_
    rintro e w34 ⟨rfl, hb34⟩
    clear K0 K2 Wc0 Wc2 Xc0 Xc2 Gc0 Gc2
    replace K := (by with_reducible first | exact K.later hb34 | exact (K.alloc _).later hb34 : Cel1 w34 _ _)
    replace Wc := (by with_reducible first | exact Wc.later hb34 | exact (Wc.alloc _).later hb34 : Cel1 w34 _ _)
    replace Xc := (by with_reducible first | exact Xc.later hb34 | exact (Xc.alloc _).later hb34 : Cel1 w34 _ _)
    replace Gc := (by with_reducible first | exact Gc.later hb34 | exact (Gc.alloc _).later hb34 : Cel1 w34 _ _)
    replace W := (by with_reducible first | exact W.later hb34 | exact (W.alloc _).later hb34 : OB w34 _ _ _ _)
    replace X := (by with_reducible first | exact X.later hb34 | exact (X.alloc _).later hb34 : OB w34 _ _ _ _)
    replace G := (by with_reducible first | exact G.later hb34 | exact (G.alloc _).later hb34 : OB w34 _ _ _ _)
    replace R := (by with_reducible first | exact R.old hb34 | exact (R.alloc _).old hb34 : InRow w34 _ _ _ _)
    replace hB := (by with_reducible first | exact old_trans hB hb34 | exact old_trans (old_alloc hB _) hb34 : Below w.heap.size w w34)
    have K0 := K.1
    have K2 := K.2.2
    have Wc0 := Wc.1
    have Wc2 := Wc.2.2
    have Xc0 := Xc.1
    have Xc2 := Xc.2.2
    have Gc0 := Gc.1
    have Gc2 := Gc.2.2
    go_wp2_with fail
    refine (toBoxO a0 cap0 ps0 _ (by with_reducible first | exact R | exact R.alloc _) hl0).mono ?_
    rintro e w35 ⟨⟨avT2, cvT2, rfl, T2⟩, hb35⟩
    clear K0 K2 Wc0 Wc2 Xc0 Xc2 Gc0 Gc2
    with_reducible (first | (have l_K_T2 := K.ltb hb35) | (have l_K_T2 := (K.alloc _).ltb hb35))
    with_reducible (first | (have l_Wc_T2 := Wc.ltb hb35) | (have l_Wc_T2 := (Wc.alloc _).ltb hb35))
    with_reducible (first | (have l_Xc_T2 := Xc.ltb hb35) | (have l_Xc_T2 := (Xc.alloc _).ltb hb35))
    with_reducible (first | (have l_Gc_T2 := Gc.ltb hb35) | (have l_Gc_T2 := (Gc.alloc _).ltb hb35))
    with_reducible (first | (have l_W_T2 := W.ltb hb35) | (have l_W_T2 := (W.alloc _).ltb hb35))
    with_reducible (first | (have l_X_T2 := X.ltb hb35) | (have l_X_T2 := (X.alloc _).ltb hb35))
    with_reducible (first | (have l_G_T2 := G.ltb hb35) | (have l_G_T2 := (G.alloc _).ltb hb35))
    with_reducible (first | (have l_R_T2 := R.ltb hb35) | (have l_R_T2 := (R.alloc _).ltb hb35))
    with_reducible (first | (have n_T2 := Below.ltb hB hb35) | (have n_T2 := Below.ltb (old_alloc hB _) hb35))
    replace K := (by with_reducible first | exact K.later hb35 | exact (K.alloc _).later hb35 : Cel1 w35 _ _)
    replace Wc := (by with_reducible first | exact Wc.later hb35 | exact (Wc.alloc _).later hb35 : Cel1 w35 _ _)
    replace Xc := (by with_reducible first | exact Xc.later hb35 | exact (Xc.alloc _).later hb35 : Cel1 w35 _ _)
    replace Gc := (by with_reducible first | exact Gc.later hb35 | exact (Gc.alloc _).later hb35 : Cel1 w35 _ _)
    replace W := (by with_reducible first | exact W.later hb35 | exact (W.alloc _).later hb35 : OB w35 _ _ _ _)
    replace X := (by with_reducible first | exact X.later hb35 | exact (X.alloc _).later hb35 : OB w35 _ _ _ _)
    replace G := (by with_reducible first | exact G.later hb35 | exact (G.alloc _).later hb35 : OB w35 _ _ _ _)
    replace R := (by with_reducible first | exact R.old hb35 | exact (R.alloc _).old hb35 : InRow w35 _ _ _ _)
    replace hB := (by with_reducible first | exact old_trans hB hb35 | exact old_trans (old_alloc hB _) hb35 : Below w.heap.size w w35)
    have K0 := K.1
    have K2 := K.2.2
    have Wc0 := Wc.1
    have Wc2 := Wc.2.2
    have Xc0 := Xc.1
    have Xc2 := Xc.2.2
    have Gc0 := Gc.1
    have Gc2 := Gc.2.2
    go_wp2_with fail
    refine (I.out _ _ _ _ (by with_reducible first | exact T2.inRow)).mono ?_
    rintro e w36 ⟨⟨avH, cvH, rfl, H⟩, hb36⟩
    clear K0 K2 Wc0 Wc2 Xc0 Xc2 Gc0 Gc2
    with_reducible (first | (have l_K_H := K.ltb hb36) | (have l_K_H := (K.alloc _).ltb hb36))
    with_reducible (first | (have l_Wc_H := Wc.ltb hb36) | (have l_Wc_H := (Wc.alloc _).ltb hb36))
    with_reducible (first | (have l_Xc_H := Xc.ltb hb36) | (have l_Xc_H := (Xc.alloc _).ltb hb36))
    with_reducible (first | (have l_Gc_H := Gc.ltb hb36) | (have l_Gc_H := (Gc.alloc _).ltb hb36))
    with_reducible (first | (have l_W_H := W.ltb hb36) | (have l_W_H := (W.alloc _).ltb hb36))
    with_reducible (first | (have l_X_H := X.ltb hb36) | (have l_X_H := (X.alloc _).ltb hb36))
    with_reducible (first | (have l_G_H := G.ltb hb36) | (have l_G_H := (G.alloc _).ltb hb36))
    with_reducible (first | (have l_T2_H := T2.ltb hb36) | (have l_T2_H := (T2.alloc _).ltb hb36))
    with_reducible (first | (have l_R_H := R.ltb hb36) | (have l_R_H := (R.alloc _).ltb hb36))
    with_reducible (first | (have n_H := Below.ltb hB hb36) | (have n_H := Below.ltb (old_alloc hB _) hb36))
    clear T2
    replace K := (by with_reducible first | exact K.later hb36 | exact (K.alloc _).later hb36 : Cel1 w36 _ _)
    replace Wc := (by with_reducible first | exact Wc.later hb36 | exact (Wc.alloc _).later hb36 : Cel1 w36 _ _)
    replace Xc := (by with_reducible first | exact Xc.later hb36 | exact (Xc.alloc _).later hb36 : Cel1 w36 _ _)
    replace Gc := (by with_reducible first | exact Gc.later hb36 | exact (Gc.alloc _).later hb36 : Cel1 w36 _ _)
    replace W := (by with_reducible first | exact W.later hb36 | exact (W.alloc _).later hb36 : OB w36 _ _ _ _)
    replace X := (by with_reducible first | exact X.later hb36 | exact (X.alloc _).later hb36 : OB w36 _ _ _ _)
    replace G := (by with_reducible first | exact G.later hb36 | exact (G.alloc _).later hb36 : OB w36 _ _ _ _)
    replace R := (by with_reducible first | exact R.old hb36 | exact (R.alloc _).old hb36 : InRow w36 _ _ _ _)
    replace hB := (by with_reducible first | exact old_trans hB hb36 | exact old_trans (old_alloc hB _) hb36 : Below w.heap.size w w36)
    have K0 := K.1
    have K2 := K.2.2
    have Wc0 := Wc.1
    have Wc2 := Wc.2.2
    have Xc0 := Xc.1
    have Xc2 := Xc.2.2
    have Gc0 := Gc.1
    have Gc2 := Gc.2.2
    have Hc : Cel1 (w36.alloc (.cells #[.slice avH ql.length cvH] 29)) w36.heap.size (.slice avH ql.length cvH) := Cel1.made _ _ rfl _ _
    have y_W_Hc := W.lt
    have y_X_Hc := X.lt
    have y_G_Hc := G.lt
    have y_H_Hc := H.lt
    go_wp2_with fail
    refine (lEqO avH avW cvH cvW _ _ ql _ (by with_reducible first | exact H | exact H.alloc _) (by with_reducible first | exact W | exact W.alloc _)).mono ?_
    rintro e w37 ⟨rfl, hb37⟩
    clear K0 K2 Wc0 Wc2 Xc0 Xc2 Gc0 Gc2
    replace K := (by with_reducible first | exact K.later hb37 | exact (K.alloc _).later hb37 : Cel1 w37 _ _)
    replace Wc := (by with_reducible first | exact Wc.later hb37 | exact (Wc.alloc _).later hb37 : Cel1 w37 _ _)
    replace Xc := (by with_reducible first | exact Xc.later hb37 | exact (Xc.alloc _).later hb37 : Cel1 w37 _ _)
    replace Gc := (by with_reducible first | exact Gc.later hb37 | exact (Gc.alloc _).later hb37 : Cel1 w37 _ _)
    replace W := (by with_reducible first | exact W.later hb37 | exact (W.alloc _).later hb37 : OB w37 _ _ _ _)
    replace X := (by with_reducible first | exact X.later hb37 | exact (X.alloc _).later hb37 : OB w37 _ _ _ _)
    replace G := (by with_reducible first | exact G.later hb37 | exact (G.alloc _).later hb37 : OB w37 _ _ _ _)
    replace H := (by with_reducible first | exact H.later hb37 | exact (H.alloc _).later hb37 : OB w37 _ _ _ _)
    replace R := (by with_reducible first | exact R.old hb37 | exact (R.alloc _).old hb37 : InRow w37 _ _ _ _)
    replace hB := (by with_reducible first | exact old_trans hB hb37 | exact old_trans (old_alloc hB _) hb37 : Below w.heap.size w w37)
    replace Hc := Hc.later hb37
    have K0 := K.1
    have K2 := K.2.2
    have Wc0 := Wc.1
    have Wc2 := Wc.2.2
    have Xc0 := Xc.1
    have Xc2 := Xc.2.2
    have Gc0 := Gc.1
    have Gc2 := Gc.2.2
    have Hc0 := Hc.1
    have Hc2 := Hc.2.2
    go_wp2_with fail
    refine (lHeldO _ avG cvG ql.length 1 _ G hql (by omega) (by omega)).mono ?_
    rintro e w38 ⟨rfl, hb38⟩
    clear K0 K2 Wc0 Wc2 Xc0 Xc2 Gc0 Gc2 Hc0 Hc2
    replace K := (by with_reducible first | exact K.later hb38 | exact (K.alloc _).later hb38 : Cel1 w38 _ _)
    replace Wc := (by with_reducible first | exact Wc.later hb38 | exact (Wc.alloc _).later hb38 : Cel1 w38 _ _)
    replace Xc := (by with_reducible first | exact Xc.later hb38 | exact (Xc.alloc _).later hb38 : Cel1 w38 _ _)
    replace Gc := (by with_reducible first | exact Gc.later hb38 | exact (Gc.alloc _).later hb38 : Cel1 w38 _ _)
    replace Hc := (by with_reducible first | exact Hc.later hb38 | exact (Hc.alloc _).later hb38 : Cel1 w38 _ _)
    replace W := (by with_reducible first | exact W.later hb38 | exact (W.alloc _).later hb38 : OB w38 _ _ _ _)
    replace X := (by with_reducible first | exact X.later hb38 | exact (X.alloc _).later hb38 : OB w38 _ _ _ _)
    replace G := (by with_reducible first | exact G.later hb38 | exact (G.alloc _).later hb38 : OB w38 _ _ _ _)
    replace H := (by with_reducible first | exact H.later hb38 | exact (H.alloc _).later hb38 : OB w38 _ _ _ _)
    replace R := (by with_reducible first | exact R.old hb38 | exact (R.alloc _).old hb38 : InRow w38 _ _ _ _)
    replace hB := (by with_reducible first | exact old_trans hB hb38 | exact old_trans (old_alloc hB _) hb38 : Below w.heap.size w w38)
    have K0 := K.1
    have K2 := K.2.2
    have Wc0 := Wc.1
    have Wc2 := Wc.2.2
    have Xc0 := Xc.1
    have Xc2 := Xc.2.2
    have Gc0 := Gc.1
    have Gc2 := Gc.2.2
    have Hc0 := Hc.1
    have Hc2 := Hc.2.2
    go_wp2
    go_ret
    exact ⟨rfl, hB⟩

set_option maxRecDepth 100000 in
theorem FnExactBoxMore_lifted (os : Os) (started : os.Started) (H : Type) (enc : TypeId × Value → H) :
    ReturnsInHanded {} Try.checked os 14 .any (Rows.fnExactBoxMoreSpec.pre6 enc Try.prog Try.f14 Rows.fnExactBoxMoreRow.domain false) (Rows.fnExactBoxMoreSpec.post enc Try.prog Try.f14 false true false false) := by
  refine returnsInHanded_of_change (C := Try.checked) FnExactBoxMore_own started (by kernel_rfl) Try.func14
    (ChangeSpec.witness6 (enc := enc) (C := Try.checked) false ⟨#[], #[.agg #[.slice none 0 0]], []⟩ 8 (by kernel_rfl) (by kernel_rfl) (by kernel_rfl) (by kernel_rfl)) ?_
  intro W base args ds gs before hval0 hW hcnd _
  have hval : ∀ (j : Nat) t v, Try.f14.params[j]? = some t → args[j]? = some v → Value.okWide Try.prog W .any base t v := hval0
  have hW' := hW
  obtain ⟨p, q, hA0, hV, rfl, hfz, hnd⟩ := hW
  have hA : DataW.TrodAll enc Try.prog W 0 (fun _ => true) true Try.f14.params.toList args.toList ds p := hA0
  rw [Try.params14] at hA hval
  obtain ⟨v0, vs0, d0, ds0, p0, q0, hargs, rfl, rfl, h0, r0⟩ := trodAll_cons hA
  obtain ⟨rfl, rfl, rfl⟩ := trodAll_nil r0
  obtain rfl : args = #[v0] := by cases args; simp_all
  obtain ⟨rfl, rfl⟩ := trodVars_none hV
  have k0 := h0
  have lt0 : ∀ x ∈ p0, x.block < W.heap.size := by obtain ⟨m, hm⟩ := k0; exact DataW.trod_lt m _ _ _ hm
  obtain ⟨a0, len0, cap0, ps0, rfl, wb0⟩ := open_lbox (hval 0 24 v0 rfl rfl) h0
  clear hA0 hval0
  refine (FnExactBoxMore_walk a0 len0 cap0 ps0 W wb0).mono fun e W' ⟨he, bel⟩ => ?_
  subst he
  exact ⟨_, rfl, _, _, _, [], _, [], hW', trodAll_mk1 (shut_bool Try.underlying4 _), (trodAll_cons_mk (Below.trod jf1 (by kernel_rfl) (of_decide_eq_true (by kernel_rfl)) k0 bel lt0) trodAll_mk0), rfl, bel.frame _, fun h => by cases h⟩

theorem FnExactBoxMore_k0 : (Rows.fnExactBoxMoreRow.wf (OpenSpec.ofChange Rows.fnExactBoxMoreSpec)) = true := by kernel_rfl
theorem FnExactBoxMore_k3 : (Try.f14.params.all (Try.prog.readableRec ·)) = true := by kernel_rfl
theorem FnExactBoxMore_k4 : (namedTie Try.prog Rows.fnExactBoxMoreRow.named Rows.fnExactBoxMoreSpec.vars) = true := by kernel_rfl
theorem FnExactBoxMore_k5 : ((Rows.fnExactBoxMoreRow.stops == [])) = true := by kernel_rfl
theorem FnExactBoxMore_k7 : ((Rows.fnExactBoxMoreRow.knobs == [])) = true := by kernel_rfl
theorem FnExactBoxMore_k9 : ((Rows.fnExactBoxMoreRow.inPlace == Try.prog.inPlace 14)) = true := by kernel_rfl
theorem FnExactBoxMore_k10 : ((Rows.fnExactBoxMoreRow.unfollowed == Try.prog.unfollowed 14)) = true := by kernel_rfl
theorem FnExactBoxMore_k11 : ((Rows.fnExactBoxMoreRow.recurses == Try.prog.recurses 14)) = true := by kernel_rfl
theorem FnExactBoxMore_k12 : ((Rows.fnExactBoxMoreRow.named == Try.prog.varsNamed 14)) = true := by kernel_rfl
theorem FnExactBoxMore_k13 : ((Rows.fnExactBoxMoreRow.maps == (Try.f14.params.toList ++ Rows.fnExactBoxMoreSpec.plain.varTypes Try.prog).any (Try.prog.mapsRec ·))) = true := by kernel_rfl
theorem FnExactBoxMore_k14 : ((Rows.fnExactBoxMoreRow.ifaces == (Try.f14.params.toList ++ Rows.fnExactBoxMoreSpec.plain.varTypes Try.prog).any (Try.prog.ifacesRec ·))) = true := by kernel_rfl
theorem FnExactBoxMore_k15 : ((Rows.fnExactBoxMoreRow.mapsOut == Try.prog.mapsAmong Try.f14.resultTypes.toList)) = true := by kernel_rfl
theorem FnExactBoxMore_k16 : ((Rows.fnExactBoxMoreRow.loops == (Try.f14.params.toList ++ Rows.fnExactBoxMoreSpec.plain.varTypes Try.prog).any (Try.prog.loopsFrom ·))) = true := by kernel_rfl
theorem FnExactBoxMore_k17 : ((Rows.fnExactBoxMoreRow.wideKeys == (Try.f14.params.toList ++ Rows.fnExactBoxMoreSpec.plain.varTypes Try.prog ++ Try.f14.resultTypes.toList).any (Try.prog.wideKeysFrom ·))) = true := by kernel_rfl
theorem FnExactBoxMore_k18 : (Rows.fnExactBoxMoreSpec.vars.all (Try.prog.varReadable ·)) = true := by kernel_rfl
theorem FnExactBoxMore_k19 : (Try.f14.resultTypes.all (fun t => Try.prog.readableRec t && decide (t < Try.prog.types.size))) = true := by kernel_rfl
theorem FnExactBoxMore_k20 : ((Rows.fnExactBoxMoreRow.ifacesOut == Try.f14.resultTypes.toList.any (Try.prog.ifacesRec ·))) = true := by kernel_rfl
theorem FnExactBoxMore_k21 : ((Rows.fnExactBoxMoreRow.loopsOut == Try.f14.resultTypes.toList.any (Try.prog.loopsFrom ·))) = true := by kernel_rfl
theorem FnExactBoxMore_k23 : (Rows.fnExactBoxMoreRow.shortTexts.isNone) = true := by kernel_rfl
theorem FnExactBoxMore_k28 : ((Rows.fnExactBoxMoreRow.kinds == (if Rows.fnExactBoxMoreRow.domain.isEmpty then [] else Try.f14.params.toList.map fun t => match Try.prog.underlying t with | some (.int k) => some k | _ => none))) = true := by kernel_rfl
theorem FnExactBoxMore_k29 : ((Rows.fnExactBoxMoreRow.pinned == Rows.fnExactBoxMoreRow.pinnedBy)) = true := by kernel_rfl
theorem FnExactBoxMore_k30 : ((Rows.fnExactBoxMoreRow.veiled == (Try.f14.params.toList ++ Rows.fnExactBoxMoreSpec.plain.varTypes Try.prog ++ Try.f14.resultTypes.toList).any (Try.prog.veiledRec ·))) = true := by kernel_rfl
theorem FnExactBoxMore_k31 : (Rows.fnExactBoxMoreRow.veiledFits Try.prog Try.f14.params.toList (Try.f14.params.toList ++ Rows.fnExactBoxMoreSpec.plain.varTypes Try.prog ++ Try.f14.resultTypes.toList)) = true := by kernel_rfl
set_option maxRecDepth 100000 in
theorem FnExactBoxMore_closed : joinedFacts Try.prog 14 Try.f14 Rows.fnExactBoxMoreSpec Rows.fnExactBoxMoreRow = true := (and2 (and2 (and2 (and2 (and2 (and2 (and2 (and2 (and2 (and2 (and2 (and2 (and2 (and2 (and2 (and2 (and2 (and2 (and2 (and2 (and2 (and2 (and2 (and2 (and2 (and2 (and2 (and2 (and2 (and2 (and2 FnExactBoxMore_k0 jf1) jf2) FnExactBoxMore_k3) FnExactBoxMore_k4) FnExactBoxMore_k5) jf6) FnExactBoxMore_k7) jf8) FnExactBoxMore_k9) FnExactBoxMore_k10) FnExactBoxMore_k11) FnExactBoxMore_k12) FnExactBoxMore_k13) FnExactBoxMore_k14) FnExactBoxMore_k15) FnExactBoxMore_k16) FnExactBoxMore_k17) FnExactBoxMore_k18) FnExactBoxMore_k19) FnExactBoxMore_k20) FnExactBoxMore_k21) jf22) FnExactBoxMore_k23) jf24) jf25) jf26) jf27) FnExactBoxMore_k28) FnExactBoxMore_k29) FnExactBoxMore_k30) FnExactBoxMore_k31)
theorem FnExactBoxMore_over : Rows.fnExactBoxMoreRow.holds Try.pinned (OpenSpec.ofChange Rows.fnExactBoxMoreSpec) :=
  OpenClaim.holds_of_wide 14 Try.f14 rfl rfl rfl rfl rfl rfl rfl ⟨rfl, rfl, rfl, rfl, rfl⟩ rfl rfl rfl rfl rfl (by kernel_rfl) Try.func14 FnExactBoxMore_closed
    (of_decide_eq_true (by kernel_rfl)) (by unfold Func.isWrapper; first | (rw [if_pos (by decide +kernel)]; kernel_rfl) | (rw [if_neg (by decide +kernel)]; exact ⟨rfl, rfl⟩))
    (fun os started H enc _ => FnExactBoxMore_lifted os started H enc)

theorem FnExactBoxMore_proved : Rows.FnExactBoxMoreSaid := FnExactBoxMore_over
end Go.Proofs.Ytmeijbiohbpgpaa
