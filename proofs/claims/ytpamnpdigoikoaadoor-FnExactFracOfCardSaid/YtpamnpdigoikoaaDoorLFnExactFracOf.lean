/- The program's FracOf answers as the specification's FracOf at every argument; it writes into no argument, and what it answers is its own. Condition: the library's tables and its handle of errors hold what their texts lay (the card ties them). -/
import Derived.Test.YtpamnpdigoikoaaDoorRows
import Derived.Test.YtpamnpdigoikoaaDoorTie
import Derived.Test.YtpamnpdigoikoaaDoorCards
import Derived.WalkKit
import Derived.ProofKit
import Derived.OpenShut
import Derived.Below
import Derived.Carry
import Derived.Test.YtpamnpdigoikoaaDoorN0
import Derived.Test.YtpamnpdigoikoaaDoorLH
import Derived.Test.YtpamnpdigoikoaaDoorFL
import Derived.Test.YtpamnpdigoikoaaDoorFH
import Derived.Test.YtpamnpdigoikoaaDoorFI
import Derived.Test.YtpamnpdigoikoaaDoorBJ
namespace Go.Proofs.YtpamnpdigoikoaaDoor
open Go.ChangeShapes Go.WideShapes Go.ChangeAt Go.RowKit
set_option linter.unusedVariables false
set_option maxRecDepth 100000

set_option maxRecDepth 100000 in
set_option maxHeartbeats 8000000 in
theorem FnExactFracOf_walk (b0 : Bool) (a1 : Option Addr) (len1 cap1 : Nat) (xs1 : List Int) (a2 : Option Addr) (len2 cap2 : Nat) (xs2 : List Int) (w : World) (wb1 : InI w a1 len1 cap1 xs1) (wb2 : InI w a2 len2 cap2 xs2) (hT : Tab w ∧ ET w) :
    Calls Tryd.prog 6 #[.bool b0, .slice a1 len1 cap1, .slice a2 len2 cap2] w fun e w' => e = .returned (.bool true) ∧ Below w.heap.size w w' := by
  obtain rfl := wb1.1
  obtain rfl := wb2.1
  have hlen1 := wb1.len
  have hlen2 := wb2.len
  by_cases hl1 : xs1.length ≤ 1048576
  case neg =>
    go_enter Tryd.func6, Tryd.ntmps6
    go_wp2
    go_ret
    exact ⟨rfl, (by repeat (first | exact Below.refl _ _ | refine Below.drew ?_ | refine old_alloc ?_ _ | refine old_trans ?_ (by assumption)))⟩
  by_cases hl2 : xs2.length ≤ 1048576
  case neg =>
    go_enter Tryd.func6, Tryd.ntmps6
    go_wp2
    go_ret
    exact ⟨rfl, (by repeat (first | exact Below.refl _ _ | refine Below.drew ?_ | refine old_alloc ?_ _ | refine old_trans ?_ (by assumption)))⟩
  have S := hd (fun a a' len len' cap cap' w (h : InI w a len cap xs1) (h' : InI w a' len' cap' xs2) => sFracOf b0 a a' len len' cap cap' xs1 xs2 w h h')
  have I := hd (fun a a' len len' cap cap' w (h : InI w a len cap xs1) (h' : InI w a' len' cap' xs2) (hT : Tab w ∧ ET w) => iFracOf b0 a a' len len' cap cap' xs1 xs2 w h h' hT.1 hT.2)
  simp only [FRes] at S I
  have htl : (fT (ofB xs1 xs2) (val xs1) (val xs2)).length ≤ 1048576 := fT_len ofB_low
  have hul : (fU (ofB xs1 xs2) (val xs1) (val xs2)).length ≤ 1048576 := fU_len ofB_low
  generalize fT (ofB xs1 xs2) (val xs1) (val xs2) = tl at *
  generalize fU (ofB xs1 xs2) (val xs1) (val xs2) = ul at *
  generalize fS (ofB xs1 xs2) (b0) (val xs1) = sg at *
  generalize ofB xs1 xs2 = r at *
  have hx1 : ¬ (1 + (xs1.length : Int) < 0) := by omega
  have hx3 : ¬ (1 + (xs1.length : Int) + (xs2.length : Int) < 0) := by omega
  have hx2 : ¬ (1 + (tl.length : Int) + (ul.length : Int) < 0) := by omega
  have hTT := hd (fun (w' : World) (h : Below w.heap.size w w') => (⟨hT.1.old h, hT.2.old h⟩ : Tab w' ∧ ET w'))
  have hB : Below w.heap.size w w := Below.refl _ _
  have R1 := wb1
  have R2 := wb2
  clear hT wb1 wb2
  go_enter Tryd.func6, Tryd.ntmps6
  have l_R1_P := R1.far
  have l_R2_P := R2.far
  have n_P := hB.size
  go_wp2_with fail
  refine (toIntsO a1 cap1 xs1 _ R1 hl1).mono ?_
  rintro e w1 ⟨⟨avP, cvP, rfl, P⟩, hb1⟩
  replace R1 := R1.old hb1
  replace R2 := R2.old hb1
  replace hB := old_trans hB hb1
  clear hb1
  have l_P_Q := P.lt
  have l_R1_Q := R1.far
  have l_R2_Q := R2.far
  have n_Q := hB.size
  go_wp2_with fail
  refine (toIntsO a2 cap2 xs2 _ R2 hl2).mono ?_
  rintro e w2 ⟨⟨avQ, cvQ, rfl, Q⟩, hb2⟩
  replace P := P.later hb2
  replace R1 := R1.old hb2
  replace R2 := R2.old hb2
  replace hB := old_trans hB hb2
  clear hb2
  have l_P_W := P.lt
  have l_Q_W := Q.lt
  have l_R1_W := R1.far
  have l_R2_W := R2.far
  have n_W := hB.size
  have l_P_W' := P.lt
  have l_Q_W' := Q.lt
  have l_R1_W' := R1.far
  have l_R2_W' := R2.far
  have n_W' := hB.size
  go_wp2_with fail
  refine (S.out _ _ _ _ _ _ _ P.inI Q.inI).mono ?_
  rintro e w3 ⟨⟨avW, cvW, avW', cvW', rfl, W, W', sW⟩, hb3⟩
  replace P := P.later hb3
  replace Q := Q.later hb3
  replace R1 := R1.old hb3
  replace R2 := R2.old hb3
  replace hB := old_trans hB hb3
  clear hb3
  clear P
  clear Q
  have y_W_KW := W.lt
  have y_W'_KW := W'.lt
  have KW_ := Cel3.new w3 (.bool sg) (.slice avW tl.length cvW) (.slice avW' ul.length cvW') 38
  have halKW : Below w3.heap.size w3 (w3.alloc (.cells #[.bool sg, .slice avW tl.length cvW, .slice avW' ul.length cvW'] 38)) := old_alloc (Below.refl _ _) _
  replace W := W.later halKW
  replace W' := W'.later halKW
  replace R1 := R1.old halKW
  replace R2 := R2.old halKW
  replace hB := old_trans hB halKW
  clear halKW
  have KW := KW_
  clear KW_
  obtain ⟨KWa, ⟨KWb, KWc, KWd⟩, -⟩ := id KW
  have l_W_X := W.lt
  have l_W'_X := W'.lt
  have l_R1_X := R1.far
  have l_R2_X := R2.far
  have l_KW_X := KW.1
  have n_X := hB.size
  go_wp2_with fail
  refine (toIntsO a1 cap1 xs1 _ R1 hl1).mono ?_
  rintro e w4 ⟨⟨avX, cvX, rfl, X⟩, hb4⟩
  clear KWa KWb KWc KWd
  replace W := W.later hb4
  replace W' := W'.later hb4
  replace R1 := R1.old hb4
  replace R2 := R2.old hb4
  replace KW := KW.old hb4
  replace hB := old_trans hB hb4
  clear hb4
  obtain ⟨KWa, ⟨KWb, KWc, KWd⟩, -⟩ := id KW
  have l_W_Y := W.lt
  have l_W'_Y := W'.lt
  have l_X_Y := X.lt
  have l_R1_Y := R1.far
  have l_R2_Y := R2.far
  have l_KW_Y := KW.1
  have n_Y := hB.size
  go_wp2_with fail
  refine (toIntsO a2 cap2 xs2 _ R2 hl2).mono ?_
  rintro e w5 ⟨⟨avY, cvY, rfl, Y⟩, hb5⟩
  clear KWa KWb KWc KWd
  replace W := W.later hb5
  replace W' := W'.later hb5
  replace X := X.later hb5
  replace R1 := R1.old hb5
  replace R2 := R2.old hb5
  replace KW := KW.old hb5
  replace hB := old_trans hB hb5
  clear hb5
  obtain ⟨KWa, ⟨KWb, KWc, KWd⟩, -⟩ := id KW
  have l_W_G := W.lt
  have l_W'_G := W'.lt
  have l_X_G := X.lt
  have l_Y_G := Y.lt
  have l_R1_G := R1.far
  have l_R2_G := R2.far
  have l_KW_G := KW.1
  have n_G := hB.size
  have l_W_G' := W.lt
  have l_W'_G' := W'.lt
  have l_X_G' := X.lt
  have l_Y_G' := Y.lt
  have l_R1_G' := R1.far
  have l_R2_G' := R2.far
  have l_KW_G' := KW.1
  have n_G' := hB.size
  go_wp2_with fail
  refine (I.out _ _ _ _ _ _ _ X.inI Y.inI (hTT.out _ hB)).mono ?_
  rintro e w6 ⟨⟨avG, cvG, avG', cvG', rfl, G, G', sG⟩, hb6⟩
  clear KWa KWb KWc KWd
  replace W := W.later hb6
  replace W' := W'.later hb6
  replace X := X.later hb6
  replace Y := Y.later hb6
  replace R1 := R1.old hb6
  replace R2 := R2.old hb6
  replace KW := KW.old hb6
  replace hB := old_trans hB hb6
  clear hb6
  obtain ⟨KWa, ⟨KWb, KWc, KWd⟩, -⟩ := id KW
  clear KWa KWb KWc KWd
  have y_W_KG := W.lt
  have y_W'_KG := W'.lt
  have y_X_KG := X.lt
  have y_Y_KG := Y.lt
  have y_G_KG := G.lt
  have y_G'_KG := G'.lt
  have KG_ := Cel3.new w6 (.bool sg) (.slice avG tl.length cvG) (.slice avG' ul.length cvG') 38
  have halKG : Below w6.heap.size w6 (w6.alloc (.cells #[.bool sg, .slice avG tl.length cvG, .slice avG' ul.length cvG'] 38)) := old_alloc (Below.refl _ _) _
  replace W := W.later halKG
  replace W' := W'.later halKG
  replace X := X.later halKG
  replace Y := Y.later halKG
  replace G := G.later halKG
  replace G' := G'.later halKG
  replace R1 := R1.old halKG
  replace R2 := R2.old halKG
  replace KW := KW.old halKG
  replace hB := old_trans hB halKG
  clear halKG
  have KG := KG_
  clear KG_
  obtain ⟨KWa, ⟨KWb, KWc, KWd⟩, -⟩ := id KW
  obtain ⟨KGa, ⟨KGb, KGc, KGd⟩, -⟩ := id KG
  go_wp2_with fail
  refine (lEqF sg avG avG' avW avW' cvG cvG' cvW cvW' _ _ _ _ tl ul _ G G' W W').mono ?_
  rintro e w7 ⟨rfl, hb7⟩
  clear KWa KWb KWc KWd KGa KGb KGc KGd
  replace W := W.later hb7
  replace W' := W'.later hb7
  replace X := X.later hb7
  replace Y := Y.later hb7
  replace G := G.later hb7
  replace G' := G'.later hb7
  replace R1 := R1.old hb7
  replace R2 := R2.old hb7
  replace KW := KW.old hb7
  replace KG := KG.old hb7
  replace hB := old_trans hB hb7
  clear hb7
  obtain ⟨KWa, ⟨KWb, KWc, KWd⟩, -⟩ := id KW
  obtain ⟨KGa, ⟨KGb, KGc, KGd⟩, -⟩ := id KG
  have l_W_Z := W.lt
  have l_W'_Z := W'.lt
  have l_X_Z := X.lt
  have l_Y_Z := Y.lt
  have l_G_Z := G.lt
  have l_G'_Z := G'.lt
  have l_R1_Z := R1.far
  have l_R2_Z := R2.far
  have l_KW_Z := KW.1
  have l_KG_Z := KG.1
  have n_Z := hB.size
  go_wp2_with fail
  refine (toIntsO a1 cap1 xs1 _ R1 hl1).mono ?_
  rintro e w8 ⟨⟨avZ, cvZ, rfl, Z⟩, hb8⟩
  clear KWa KWb KWc KWd KGa KGb KGc KGd
  replace W := W.later hb8
  replace W' := W'.later hb8
  replace X := X.later hb8
  replace Y := Y.later hb8
  replace G := G.later hb8
  replace G' := G'.later hb8
  replace R1 := R1.old hb8
  replace R2 := R2.old hb8
  replace KW := KW.old hb8
  replace KG := KG.old hb8
  replace hB := old_trans hB hb8
  clear hb8
  obtain ⟨KWa, ⟨KWb, KWc, KWd⟩, -⟩ := id KW
  obtain ⟨KGa, ⟨KGb, KGc, KGd⟩, -⟩ := id KG
  go_wp2_with fail
  refine (lEqO avX avZ cvX cvZ _ _ xs1 _ X Z).mono ?_
  rintro e w9 ⟨rfl, hb9⟩
  clear KWa KWb KWc KWd KGa KGb KGc KGd
  replace W := W.later hb9
  replace W' := W'.later hb9
  replace X := X.later hb9
  replace Y := Y.later hb9
  replace G := G.later hb9
  replace G' := G'.later hb9
  replace Z := Z.later hb9
  replace R1 := R1.old hb9
  replace R2 := R2.old hb9
  replace KW := KW.old hb9
  replace KG := KG.old hb9
  replace hB := old_trans hB hb9
  clear hb9
  obtain ⟨KWa, ⟨KWb, KWc, KWd⟩, -⟩ := id KW
  obtain ⟨KGa, ⟨KGb, KGc, KGd⟩, -⟩ := id KG
  clear Z
  have l_W_Z := W.lt
  have l_W'_Z := W'.lt
  have l_X_Z := X.lt
  have l_Y_Z := Y.lt
  have l_G_Z := G.lt
  have l_G'_Z := G'.lt
  have l_R1_Z := R1.far
  have l_R2_Z := R2.far
  have l_KW_Z := KW.1
  have l_KG_Z := KG.1
  have n_Z := hB.size
  go_wp2_with fail
  refine (toIntsO a2 cap2 xs2 _ R2 hl2).mono ?_
  rintro e w10 ⟨⟨avZ, cvZ, rfl, Z⟩, hb10⟩
  clear KWa KWb KWc KWd KGa KGb KGc KGd
  replace W := W.later hb10
  replace W' := W'.later hb10
  replace X := X.later hb10
  replace Y := Y.later hb10
  replace G := G.later hb10
  replace G' := G'.later hb10
  replace R1 := R1.old hb10
  replace R2 := R2.old hb10
  replace KW := KW.old hb10
  replace KG := KG.old hb10
  replace hB := old_trans hB hb10
  clear hb10
  obtain ⟨KWa, ⟨KWb, KWc, KWd⟩, -⟩ := id KW
  obtain ⟨KGa, ⟨KGb, KGc, KGd⟩, -⟩ := id KG
  go_wp2_with fail
  refine (lEqO avY avZ cvY cvZ _ _ xs2 _ Y Z).mono ?_
  rintro e w11 ⟨rfl, hb11⟩
  clear KWa KWb KWc KWd KGa KGb KGc KGd
  replace W := W.later hb11
  replace W' := W'.later hb11
  replace X := X.later hb11
  replace Y := Y.later hb11
  replace G := G.later hb11
  replace G' := G'.later hb11
  replace Z := Z.later hb11
  replace R1 := R1.old hb11
  replace R2 := R2.old hb11
  replace KW := KW.old hb11
  replace KG := KG.old hb11
  replace hB := old_trans hB hb11
  clear hb11
  obtain ⟨KWa, ⟨KWb, KWc, KWd⟩, -⟩ := id KW
  obtain ⟨KGa, ⟨KGb, KGc, KGd⟩, -⟩ := id KG
  clear Z
  go_wp2_with fail
  refine (lMarkO _ avX cvX xs1 (1) _ X hl1 (by omega) (by omega)).mono ?_
  rintro e w12 ⟨rfl, Xn, hg12⟩
  clear KWa KWb KWc KWd KGa KGb KGc KGd
  have Xs := X
  replace W := W.kept hg12 (Xs.sep l_W_X)
  replace W' := W'.kept hg12 (Xs.sep l_W'_X)
  replace Y := Y.kept hg12 (Y.sep' l_X_Y)
  replace G := G.kept hg12 (G.sep' l_X_G)
  replace G' := G'.kept hg12 (G'.sep' l_X_G')
  replace R1 := R1.kept hg12 (fun h0 => Xs.sep (l_R1_X h0))
  replace R2 := R2.kept hg12 (fun h0 => Xs.sep (l_R2_X h0))
  replace KW := KW.kept hg12 (oi_ne_old Xs l_KW_X)
  replace KG := KG.kept hg12 (oi_ne_young y_X_KG)
  replace hB := Below.marked hB Xs hg12 n_X hB.size
  clear X Xs
  have X := Xn
  clear Xn hg12
  obtain ⟨KWa, ⟨KWb, KWc, KWd⟩, -⟩ := id KW
  obtain ⟨KGa, ⟨KGb, KGc, KGd⟩, -⟩ := id KG
  go_wp2_with fail
  refine (lMarkO _ avY cvY xs2 (1 + (xs1.length : Int)) _ Y hl2 (by omega) (by omega)).mono ?_
  rintro e w13 ⟨rfl, Yn, hg13⟩
  clear KWa KWb KWc KWd KGa KGb KGc KGd
  have Ys := Y
  replace W := W.kept hg13 (Ys.sep l_W_Y)
  replace W' := W'.kept hg13 (Ys.sep l_W'_Y)
  replace X := X.kept hg13 (Ys.sep l_X_Y)
  replace G := G.kept hg13 (G.sep' l_Y_G)
  replace G' := G'.kept hg13 (G'.sep' l_Y_G')
  replace R1 := R1.kept hg13 (fun h0 => Ys.sep (l_R1_Y h0))
  replace R2 := R2.kept hg13 (fun h0 => Ys.sep (l_R2_Y h0))
  replace KW := KW.kept hg13 (oi_ne_old Ys l_KW_Y)
  replace KG := KG.kept hg13 (oi_ne_young y_Y_KG)
  replace hB := Below.marked hB Ys hg13 n_Y hB.size
  clear Y Ys
  have Y := Yn
  clear Yn hg13
  obtain ⟨KWa, ⟨KWb, KWc, KWd⟩, -⟩ := id KW
  obtain ⟨KGa, ⟨KGb, KGc, KGd⟩, -⟩ := id KG
  go_wp2_with fail
  refine (lEqF sg avG avG' avW avW' cvG cvG' cvW cvW' _ _ _ _ tl ul _ G G' W W').mono ?_
  rintro e w14 ⟨rfl, hb14⟩
  clear KWa KWb KWc KWd KGa KGb KGc KGd
  replace W := W.later hb14
  replace W' := W'.later hb14
  replace X := X.later hb14
  replace Y := Y.later hb14
  replace G := G.later hb14
  replace G' := G'.later hb14
  replace R1 := R1.old hb14
  replace R2 := R2.old hb14
  replace KW := KW.old hb14
  replace KG := KG.old hb14
  replace hB := old_trans hB hb14
  clear hb14
  obtain ⟨KWa, ⟨KWb, KWc, KWd⟩, -⟩ := id KW
  obtain ⟨KGa, ⟨KGb, KGc, KGd⟩, -⟩ := id KG
  clear X
  clear Y
  go_wp2_with fail
  refine (lMarkF sg _ _ avG avG' cvG cvG' tl ul (1) _ G G' sG htl hul (by omega) (by omega)).mono ?_
  rintro e w15 ⟨rfl, Gn, Gm, wm15, hg15, hk15⟩
  clear KWa KWb KWc KWd KGa KGb KGc KGd
  have Gs := G
  have G's := G'
  replace W := W.kept hg15 (Gs.sep l_W_G)
  replace W' := W'.kept hg15 (Gs.sep l_W'_G)
  replace G' := G'.kept hg15 (sepB sG.symm)
  replace R1 := R1.kept hg15 (fun h0 => Gs.sep (l_R1_G h0))
  replace R2 := R2.kept hg15 (fun h0 => Gs.sep (l_R2_G h0))
  replace KW := KW.kept hg15 (oi_ne_old Gs l_KW_G)
  replace KG := KG.kept hg15 (oi_ne_young y_G_KG)
  replace G's := G'
  replace hB := Below.marked hB Gs hg15 n_G hB.size
  replace W := W.kept hk15 (G's.sep l_W_G')
  replace W' := W'.kept hk15 (G's.sep l_W'_G')
  replace R1 := R1.kept hk15 (fun h0 => G's.sep (l_R1_G' h0))
  replace R2 := R2.kept hk15 (fun h0 => G's.sep (l_R2_G' h0))
  replace KW := KW.kept hk15 (oi_ne_old G's l_KW_G')
  replace KG := KG.kept hk15 (oi_ne_young y_G'_KG)
  replace hB := Below.marked hB G's hk15 n_G' hB.size
  clear G Gs G' G's
  have G := Gn
  have G' := Gm
  clear Gn Gm hg15 hk15
  obtain ⟨KWa, ⟨KWb, KWc, KWd⟩, -⟩ := id KW
  obtain ⟨KGa, ⟨KGb, KGc, KGd⟩, -⟩ := id KG
  go_wp2_with fail
  refine (lHeldF sg _ _ avG avG' cvG cvG' tl.length ul.length (1) _ G G' htl hul (by omega) (by omega)).mono ?_
  rintro e w16 ⟨rfl, hb16⟩
  clear KWa KWb KWc KWd KGa KGb KGc KGd
  replace W := W.later hb16
  replace W' := W'.later hb16
  replace G := G.later hb16
  replace G' := G'.later hb16
  replace R1 := R1.old hb16
  replace R2 := R2.old hb16
  replace KW := KW.old hb16
  replace KG := KG.old hb16
  replace hB := old_trans hB hb16
  clear hb16
  obtain ⟨KWa, ⟨KWb, KWc, KWd⟩, -⟩ := id KW
  obtain ⟨KGa, ⟨KGb, KGc, KGd⟩, -⟩ := id KG
  have l_W_P := W.lt
  have l_W'_P := W'.lt
  have l_G_P := G.lt
  have l_G'_P := G'.lt
  have l_R1_P := R1.far
  have l_R2_P := R2.far
  have l_KW_P := KW.1
  have l_KG_P := KG.1
  have n_P := hB.size
  go_wp2_with fail
  refine (toIntsO a1 cap1 xs1 _ R1 hl1).mono ?_
  rintro e w17 ⟨⟨avP, cvP, rfl, P⟩, hb17⟩
  clear KWa KWb KWc KWd KGa KGb KGc KGd
  replace W := W.later hb17
  replace W' := W'.later hb17
  replace G := G.later hb17
  replace G' := G'.later hb17
  replace R1 := R1.old hb17
  replace R2 := R2.old hb17
  replace KW := KW.old hb17
  replace KG := KG.old hb17
  replace hB := old_trans hB hb17
  clear hb17
  obtain ⟨KWa, ⟨KWb, KWc, KWd⟩, -⟩ := id KW
  obtain ⟨KGa, ⟨KGb, KGc, KGd⟩, -⟩ := id KG
  have l_W_Q := W.lt
  have l_W'_Q := W'.lt
  have l_G_Q := G.lt
  have l_G'_Q := G'.lt
  have l_P_Q := P.lt
  have l_R1_Q := R1.far
  have l_R2_Q := R2.far
  have l_KW_Q := KW.1
  have l_KG_Q := KG.1
  have n_Q := hB.size
  go_wp2_with fail
  refine (toIntsO a2 cap2 xs2 _ R2 hl2).mono ?_
  rintro e w18 ⟨⟨avQ, cvQ, rfl, Q⟩, hb18⟩
  clear KWa KWb KWc KWd KGa KGb KGc KGd
  replace W := W.later hb18
  replace W' := W'.later hb18
  replace G := G.later hb18
  replace G' := G'.later hb18
  replace P := P.later hb18
  replace R1 := R1.old hb18
  replace R2 := R2.old hb18
  replace KW := KW.old hb18
  replace KG := KG.old hb18
  replace hB := old_trans hB hb18
  clear hb18
  obtain ⟨KWa, ⟨KWb, KWc, KWd⟩, -⟩ := id KW
  obtain ⟨KGa, ⟨KGb, KGc, KGd⟩, -⟩ := id KG
  have l_W_H := W.lt
  have l_W'_H := W'.lt
  have l_G_H := G.lt
  have l_G'_H := G'.lt
  have l_P_H := P.lt
  have l_Q_H := Q.lt
  have l_R1_H := R1.far
  have l_R2_H := R2.far
  have l_KW_H := KW.1
  have l_KG_H := KG.1
  have n_H := hB.size
  have l_W_H' := W.lt
  have l_W'_H' := W'.lt
  have l_G_H' := G.lt
  have l_G'_H' := G'.lt
  have l_P_H' := P.lt
  have l_Q_H' := Q.lt
  have l_R1_H' := R1.far
  have l_R2_H' := R2.far
  have l_KW_H' := KW.1
  have l_KG_H' := KG.1
  have n_H' := hB.size
  go_wp2_with fail
  refine (I.out _ _ _ _ _ _ _ P.inI Q.inI (hTT.out _ hB)).mono ?_
  rintro e w19 ⟨⟨avH, cvH, avH', cvH', rfl, H, H', sH⟩, hb19⟩
  clear KWa KWb KWc KWd KGa KGb KGc KGd
  replace W := W.later hb19
  replace W' := W'.later hb19
  replace G := G.later hb19
  replace G' := G'.later hb19
  replace P := P.later hb19
  replace Q := Q.later hb19
  replace R1 := R1.old hb19
  replace R2 := R2.old hb19
  replace KW := KW.old hb19
  replace KG := KG.old hb19
  replace hB := old_trans hB hb19
  clear hb19
  obtain ⟨KWa, ⟨KWb, KWc, KWd⟩, -⟩ := id KW
  obtain ⟨KGa, ⟨KGb, KGc, KGd⟩, -⟩ := id KG
  clear P
  clear Q
  clear KWa KWb KWc KWd KGa KGb KGc KGd
  have y_W_KH := W.lt
  have y_W'_KH := W'.lt
  have y_G_KH := G.lt
  have y_G'_KH := G'.lt
  have y_H_KH := H.lt
  have y_H'_KH := H'.lt
  have KH_ := Cel3.new w19 (.bool sg) (.slice avH tl.length cvH) (.slice avH' ul.length cvH') 38
  have halKH : Below w19.heap.size w19 (w19.alloc (.cells #[.bool sg, .slice avH tl.length cvH, .slice avH' ul.length cvH'] 38)) := old_alloc (Below.refl _ _) _
  replace W := W.later halKH
  replace W' := W'.later halKH
  replace G := G.later halKH
  replace G' := G'.later halKH
  replace H := H.later halKH
  replace H' := H'.later halKH
  replace R1 := R1.old halKH
  replace R2 := R2.old halKH
  replace KW := KW.old halKH
  replace KG := KG.old halKH
  replace hB := old_trans hB halKH
  clear halKH
  have KH := KH_
  clear KH_
  obtain ⟨KWa, ⟨KWb, KWc, KWd⟩, -⟩ := id KW
  obtain ⟨KGa, ⟨KGb, KGc, KGd⟩, -⟩ := id KG
  obtain ⟨KHa, ⟨KHb, KHc, KHd⟩, -⟩ := id KH
  go_wp2_with fail
  refine (lEqF sg avH avH' avW avW' cvH cvH' cvW cvW' _ _ _ _ tl ul _ H H' W W').mono ?_
  rintro e w20 ⟨rfl, hb20⟩
  clear KWa KWb KWc KWd KGa KGb KGc KGd KHa KHb KHc KHd
  replace W := W.later hb20
  replace W' := W'.later hb20
  replace G := G.later hb20
  replace G' := G'.later hb20
  replace H := H.later hb20
  replace H' := H'.later hb20
  replace R1 := R1.old hb20
  replace R2 := R2.old hb20
  replace KW := KW.old hb20
  replace KG := KG.old hb20
  replace KH := KH.old hb20
  replace hB := old_trans hB hb20
  clear hb20
  obtain ⟨KWa, ⟨KWb, KWc, KWd⟩, -⟩ := id KW
  obtain ⟨KGa, ⟨KGb, KGc, KGd⟩, -⟩ := id KG
  obtain ⟨KHa, ⟨KHb, KHc, KHd⟩, -⟩ := id KH
  go_wp2_with fail
  refine (lHeldF sg _ _ avG avG' cvG cvG' tl.length ul.length (1) _ G G' htl hul (by omega) (by omega)).mono ?_
  rintro e w21 ⟨rfl, hb21⟩
  clear KWa KWb KWc KWd KGa KGb KGc KGd KHa KHb KHc KHd
  replace W := W.later hb21
  replace W' := W'.later hb21
  replace G := G.later hb21
  replace G' := G'.later hb21
  replace H := H.later hb21
  replace H' := H'.later hb21
  replace R1 := R1.old hb21
  replace R2 := R2.old hb21
  replace KW := KW.old hb21
  replace KG := KG.old hb21
  replace KH := KH.old hb21
  replace hB := old_trans hB hb21
  clear hb21
  obtain ⟨KWa, ⟨KWb, KWc, KWd⟩, -⟩ := id KW
  obtain ⟨KGa, ⟨KGb, KGc, KGd⟩, -⟩ := id KG
  obtain ⟨KHa, ⟨KHb, KHc, KHd⟩, -⟩ := id KH
  go_wp2
  go_ret
  exact ⟨rfl, hB⟩

set_option maxRecDepth 100000 in
theorem FnExactFracOf_lifted (os : Os) (started : os.Started) (H : Type) (enc : TypeId × Value → H) :
    ReturnsInHanded {} Tryd.checked os 6 .any (fun w args => (Rows.fnExactFracOfSpec.pre enc Tryd.prog Tryd.f6 [] false w args ∧ laidMetH Tryd.prog LHL w) ∧ sizedMet enc Tryd.prog Tryd.f6 (OpenSpec.ofChange Rows.fnExactFracOfSpec) false w args)
      (Rows.fnExactFracOfSpec.post enc Tryd.prog Tryd.f6 false true false false) := by
  refine returnsInHanded_of_change_and (C := Tryd.checked) (X := fun w _ => laidMetH Tryd.prog LHL w) (fun _ _ _ hh h => h.of_heap hh) LH_own started (by kernel_rfl) Tryd.func6
    (ChangeSpec.witness_shaped (enc := enc) (C := Tryd.checked) (os := os) (X := fun w _ => laidMetH Tryd.prog LHL w) false (World.doorLaid Tryd.prog LH_fuel os) #[.bool false, .slice none 0 0, .slice none 0 0] 8 rfl (LH_shaped os _) (by kernel_rfl) (by kernel_rfl) (by kernel_rfl) (LH_met os _)) ?_
  intro W base args ds gs before hval0 hW _ _ hL _
  have hval : ∀ (j : Nat) t v, Tryd.f6.params[j]? = some t → args[j]? = some v → Value.okWide Tryd.prog W .any base t v := hval0
  have hW' := hW
  obtain ⟨p, q, hA0, hV, rfl, hfz, hnd⟩ := hW
  have hA : DataW.TrodAll enc Tryd.prog W 0 (fun _ => true) true Tryd.f6.params.toList args.toList ds p := hA0
  rw [Tryd.params6] at hA hval
  obtain ⟨v0, vs0, d0, ds0, p0, q0, hargs, rfl, rfl, h0, r0⟩ := trodAll_cons hA
  obtain ⟨v1, vs1, d1, ds1, p1, q1, rfl, rfl, rfl, h1, r1⟩ := trodAll_cons r0
  obtain ⟨v2, vs2, d2, ds2, p2, q2, rfl, rfl, rfl, h2, r2⟩ := trodAll_cons r1
  obtain ⟨rfl, rfl, rfl⟩ := trodAll_nil r2
  obtain rfl : args = #[v0, v1, v2] := by cases args; simp_all
  obtain ⟨rfl, rfl⟩ := trodVars_none hV
  have k0 := h0
  have lt0 : ∀ x ∈ p0, x.block < W.heap.size := by obtain ⟨m, hm⟩ := k0; exact DataW.trod_lt m _ _ _ hm
  obtain ⟨b0, rfl, -, -⟩ := open_bool Tryd.underlying4 (hval 0 4 v0 rfl rfl) h0
  have k1 := h1
  have lt1 : ∀ x ∈ p1, x.block < W.heap.size := by obtain ⟨m, hm⟩ := k1; exact DataW.trod_lt m _ _ _ hm
  obtain ⟨a1, len1, cap1, xs1, rfl, wb1⟩ := open_intS (hval 1 23 v1 rfl rfl) h1
  have k2 := h2
  have lt2 : ∀ x ∈ p2, x.block < W.heap.size := by obtain ⟨m, hm⟩ := k2; exact DataW.trod_lt m _ _ _ hm
  obtain ⟨a2, len2, cap2, xs2, rfl, wb2⟩ := open_intS (hval 2 23 v2 rfl rfl) h2
  clear hA0 hval0
  refine (FnExactFracOf_walk b0 a1 len1 cap1 xs1 a2 len2 cap2 xs2 W wb1 wb2 (both_of hL)).mono fun e W' ⟨he, bel⟩ => ?_
  subst he
  exact ⟨_, rfl, _, _, _, [], _, [], hW', trodAll_mk1 (shut_bool Tryd.underlying4 _), (trodAll_cons_mk (Below.trod jf1 (by kernel_rfl) (of_decide_eq_true (by kernel_rfl)) k0 bel lt0) (trodAll_cons_mk (Below.trod jf1 (by kernel_rfl) (of_decide_eq_true (by kernel_rfl)) k1 bel lt1) (trodAll_cons_mk (Below.trod jf1 (by kernel_rfl) (of_decide_eq_true (by kernel_rfl)) k2 bel lt2) trodAll_mk0))), rfl, bel.frame _, fun h => by cases h⟩

theorem FnExactFracOf_k0 : (Rows.fnExactFracOfRow.wf (OpenSpec.ofChange Rows.fnExactFracOfSpec)) = true := by kernel_rfl
theorem FnExactFracOf_k3 : (Tryd.f6.params.all (Tryd.prog.readableRec ·)) = true := by kernel_rfl
theorem FnExactFracOf_k4 : (namedTie Tryd.prog Rows.fnExactFracOfRow.named Rows.fnExactFracOfSpec.vars) = true := by kernel_rfl
theorem FnExactFracOf_k5 : ((Rows.fnExactFracOfRow.stops == [])) = true := by kernel_rfl
theorem FnExactFracOf_k7 : ((Rows.fnExactFracOfRow.knobs == [])) = true := by kernel_rfl
theorem FnExactFracOf_k9 : ((Rows.fnExactFracOfRow.inPlace == Tryd.prog.inPlace 6)) = true := by kernel_rfl
theorem FnExactFracOf_k10 : ((Rows.fnExactFracOfRow.unfollowed == Tryd.prog.unfollowed 6)) = true := by kernel_rfl
theorem FnExactFracOf_k11 : ((Rows.fnExactFracOfRow.recurses == Tryd.prog.recurses 6)) = true := by kernel_rfl
theorem FnExactFracOf_k12 : ((Rows.fnExactFracOfRow.named == Tryd.prog.varsNamed 6)) = true := by kernel_rfl
theorem FnExactFracOf_k13 : ((Rows.fnExactFracOfRow.maps == (Tryd.f6.params.toList ++ Rows.fnExactFracOfSpec.plain.varTypes Tryd.prog).any (Tryd.prog.mapsRec ·))) = true := by kernel_rfl
theorem FnExactFracOf_k14 : ((Rows.fnExactFracOfRow.ifaces == (Tryd.f6.params.toList ++ Rows.fnExactFracOfSpec.plain.varTypes Tryd.prog).any (Tryd.prog.ifacesRec ·))) = true := by kernel_rfl
theorem FnExactFracOf_k15 : ((Rows.fnExactFracOfRow.mapsOut == Tryd.prog.mapsAmong Tryd.f6.resultTypes.toList)) = true := by kernel_rfl
theorem FnExactFracOf_k16 : ((Rows.fnExactFracOfRow.loops == (Tryd.f6.params.toList ++ Rows.fnExactFracOfSpec.plain.varTypes Tryd.prog).any (Tryd.prog.loopsFrom ·))) = true := by kernel_rfl
theorem FnExactFracOf_k17 : ((Rows.fnExactFracOfRow.wideKeys == (Tryd.f6.params.toList ++ Rows.fnExactFracOfSpec.plain.varTypes Tryd.prog ++ Tryd.f6.resultTypes.toList).any (Tryd.prog.wideKeysFrom ·))) = true := by kernel_rfl
theorem FnExactFracOf_k18 : (Rows.fnExactFracOfSpec.vars.all (Tryd.prog.varReadable ·)) = true := by kernel_rfl
theorem FnExactFracOf_k19 : (Tryd.f6.resultTypes.all (fun t => Tryd.prog.readableRec t && decide (t < Tryd.prog.types.size))) = true := by kernel_rfl
theorem FnExactFracOf_k20 : ((Rows.fnExactFracOfRow.ifacesOut == Tryd.f6.resultTypes.toList.any (Tryd.prog.ifacesRec ·))) = true := by kernel_rfl
theorem FnExactFracOf_k21 : ((Rows.fnExactFracOfRow.loopsOut == Tryd.f6.resultTypes.toList.any (Tryd.prog.loopsFrom ·))) = true := by kernel_rfl
theorem FnExactFracOf_k23 : (Rows.fnExactFracOfRow.shortTexts.isNone) = true := by kernel_rfl
theorem FnExactFracOf_k28 : ((Rows.fnExactFracOfRow.kinds == (if Rows.fnExactFracOfRow.domain.isEmpty then [] else Tryd.f6.params.toList.map fun t => match Tryd.prog.underlying t with | some (.int k) => some k | _ => none))) = true := by kernel_rfl
theorem FnExactFracOf_k29 : ((Rows.fnExactFracOfRow.pinned == Rows.fnExactFracOfRow.pinnedBy)) = true := by kernel_rfl
theorem FnExactFracOf_k30 : ((Rows.fnExactFracOfRow.veiled == (Tryd.f6.params.toList ++ Rows.fnExactFracOfSpec.plain.varTypes Tryd.prog ++ Tryd.f6.resultTypes.toList).any (Tryd.prog.veiledRec ·))) = true := by kernel_rfl
theorem FnExactFracOf_k31 : (Rows.fnExactFracOfRow.veiledFits Tryd.prog Tryd.f6.params.toList (Tryd.f6.params.toList ++ Rows.fnExactFracOfSpec.plain.varTypes Tryd.prog ++ Tryd.f6.resultTypes.toList)) = true := by kernel_rfl
set_option maxRecDepth 100000 in
theorem FnExactFracOf_closed : joinedFacts Tryd.prog 6 Tryd.f6 Rows.fnExactFracOfSpec Rows.fnExactFracOfRow = true := (and2 (and2 (and2 (and2 (and2 (and2 (and2 (and2 (and2 (and2 (and2 (and2 (and2 (and2 (and2 (and2 (and2 (and2 (and2 (and2 (and2 (and2 (and2 (and2 (and2 (and2 (and2 (and2 (and2 (and2 (and2 FnExactFracOf_k0 jf1) jf2) FnExactFracOf_k3) FnExactFracOf_k4) FnExactFracOf_k5) jf6) FnExactFracOf_k7) jf8) FnExactFracOf_k9) FnExactFracOf_k10) FnExactFracOf_k11) FnExactFracOf_k12) FnExactFracOf_k13) FnExactFracOf_k14) FnExactFracOf_k15) FnExactFracOf_k16) FnExactFracOf_k17) FnExactFracOf_k18) FnExactFracOf_k19) FnExactFracOf_k20) FnExactFracOf_k21) jf22) FnExactFracOf_k23) jf24) jf25) jf26) jf27) FnExactFracOf_k28) FnExactFracOf_k29) FnExactFracOf_k30) FnExactFracOf_k31)
theorem FnExactFracOf_row : Rows.FnExactFracOfSaid :=
  OpenClaim.holds_of_wide 6 Tryd.f6 rfl rfl rfl rfl rfl rfl rfl ⟨rfl, rfl, rfl, rfl, rfl⟩ rfl rfl rfl rfl rfl (by kernel_rfl) Tryd.func6 FnExactFracOf_closed
    (of_decide_eq_true (by kernel_rfl)) (by unfold Func.isWrapper; first | (rw [if_pos (by decide +kernel)]; kernel_rfl) | (rw [if_neg (by decide +kernel)]; exact ⟨rfl, rfl⟩))
    (fun os started H enc _ => FnExactFracOf_lifted os started H enc)

theorem FnExactFracOf_proved : Rows.FnExactFracOfCardSaid :=
  Claim7.holds_tied_plain_at .later [] [.data, .data, .handle] true (true, "6f21039d4a4c9ff674e44c4929c0c3c93ca81af254afb800033856e427f768f3") true
    FnExactFracOf_row (fun _ h => by cases h) (by kernel_rfl) (fun _ h => by cases h) fnExactFracOf_row_tie rfl ⟨rfl, rfl⟩ (by kernel_rfl) rfl
    (fun f fn hf hfn => by
      obtain rfl : f = 6 := Option.some.inj ((show Tryd.prog.funcNamed "loop.example/pinfold/laws.FnExactFracOf" = some 6 by kernel_rfl).symm.trans hf) |>.symm
      obtain rfl : fn = Tryd.f6 := (Option.some.inj (Tryd.func6.symm.trans hfn)).symm
      exact ⟨by kernel_rfl, fun j t ht => by
        rw [Tryd.params6] at ht
        have hm : t ∈ [4, 23, 23] := by simpa using Array.mem_of_getElem? ht
        have hall : ([4, 23, 23].all fun u => !Tryd.prog.wantsStandIn u) = true := by kernel_rfl
        exact (show Tryd.prog.wantsStandIn t = false by simpa using List.all_eq_true.1 hall t hm)⟩)
    (by kernel_rfl)
end Go.Proofs.YtpamnpdigoikoaaDoor
