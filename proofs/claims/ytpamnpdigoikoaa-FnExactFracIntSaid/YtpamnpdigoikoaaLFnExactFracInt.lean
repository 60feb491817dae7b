/- The program's FracInt answers as the specification's FracInt at every argument, and what it answers is its own. No condition. -/
import Derived.Test.YtpamnpdigoikoaaRows
import Derived.WalkKit
import Derived.ProofKit
import Derived.OpenShut
import Derived.Below
import Derived.Carry
import Derived.Test.YtpamnpdigoikoaaN0
import Derived.Test.YtpamnpdigoikoaaFS
import Derived.Test.YtpamnpdigoikoaaFI
import Derived.Test.YtpamnpdigoikoaaBJ
namespace Go.Proofs.Ytpamnpdigoikoaa
open Go.ChangeShapes Go.WideShapes Go.ChangeAt Go.RowKit
set_option linter.unusedVariables false

theorem FnExactFracInt_own : ownKnob Try.prog.godebug = none := by kernel_rfl

set_option maxRecDepth 100000 in
set_option maxHeartbeats 8000000 in
theorem FnExactFracInt_walk (a0 : Int) (wa0 : -9223372036854775808 ≤ a0 ∧ a0 ≤ 9223372036854775807) (w : World) :
    Calls Try.prog 3 #[.int .i64 a0] w fun e w' => e = .returned (.bool true) ∧ Below w.heap.size w w' := by
  by_cases hneg : a0 < 0
  · obtain ⟨m, hm0, hm1, rfl⟩ : ∃ m : Nat, 0 < m ∧ m ≤ 9223372036854775808 ∧ a0 = -(m : Int) := ⟨(-a0).toNat, by omega, by omega, by omega⟩
    have S := hd (sFracIntN m hm0 hm1)
    have I := hd (iFracIntN m hm0 hm1)
    have htl : (natL m).length ≤ 1048576 := Nat.le_trans (natL_len.2 (show m < 65536 ^ 4 by omega)) (by omega)
    have hul : (natL 1).length ≤ 1048576 := by rw [natL_one]; simp
    generalize natL m = tl at *
    generalize natL 1 = ul at *
    have hx2 : ¬ (1 + (tl.length : Int) + (ul.length : Int) < 0) := by omega
    have hB : Below w.heap.size w w := Below.refl _ _
    go_enter Try.func3, Try.ntmps3
    have n_W := hB.size
    have n_W' := hB.size
    go_wp2_with fail
    refine (S.out _).mono ?_
    rintro e w1 ⟨⟨avW, cvW, avW', cvW', rfl, W, W', sW⟩, hb1⟩
    replace hB := old_trans hB hb1
    clear hb1
    have y_W_KW := W.lt
    have y_W'_KW := W'.lt
    have KW_ := Cel3.new w1 (.bool true) (.slice avW tl.length cvW) (.slice avW' ul.length cvW') 24
    have halKW : Below w1.heap.size w1 (w1.alloc (.cells #[.bool true, .slice avW tl.length cvW, .slice avW' ul.length cvW'] 24)) := old_alloc (Below.refl _ _) _
    replace W := W.later halKW
    replace W' := W'.later halKW
    replace hB := old_trans hB halKW
    clear halKW
    have KW := KW_
    clear KW_
    obtain ⟨KWa, ⟨KWb, KWc, KWd⟩, -⟩ := id KW
    have l_W_G := W.lt
    have l_W'_G := W'.lt
    have l_KW_G := KW.1
    have n_G := hB.size
    have l_W_G' := W.lt
    have l_W'_G' := W'.lt
    have l_KW_G' := KW.1
    have n_G' := hB.size
    go_wp2_with fail
    refine (I.out _).mono ?_
    rintro e w2 ⟨⟨avG, cvG, avG', cvG', rfl, G, G', sG⟩, hb2⟩
    clear KWa KWb KWc KWd
    replace W := W.later hb2
    replace W' := W'.later hb2
    replace KW := KW.old hb2
    replace hB := old_trans hB hb2
    clear hb2
    obtain ⟨KWa, ⟨KWb, KWc, KWd⟩, -⟩ := id KW
    clear KWa KWb KWc KWd
    have y_W_KG := W.lt
    have y_W'_KG := W'.lt
    have y_G_KG := G.lt
    have y_G'_KG := G'.lt
    have KG_ := Cel3.new w2 (.bool true) (.slice avG tl.length cvG) (.slice avG' ul.length cvG') 24
    have halKG : Below w2.heap.size w2 (w2.alloc (.cells #[.bool true, .slice avG tl.length cvG, .slice avG' ul.length cvG'] 24)) := old_alloc (Below.refl _ _) _
    replace W := W.later halKG
    replace W' := W'.later halKG
    replace G := G.later halKG
    replace G' := G'.later halKG
    replace KW := KW.old halKG
    replace hB := old_trans hB halKG
    clear halKG
    have KG := KG_
    clear KG_
    obtain ⟨KWa, ⟨KWb, KWc, KWd⟩, -⟩ := id KW
    obtain ⟨KGa, ⟨KGb, KGc, KGd⟩, -⟩ := id KG
    go_wp2_with fail
    refine (lEqF true avG avG' avW avW' cvG cvG' cvW cvW' _ _ _ _ tl ul _ G G' W W').mono ?_
    rintro e w3 ⟨rfl, hb3⟩
    clear KWa KWb KWc KWd KGa KGb KGc KGd
    replace W := W.later hb3
    replace W' := W'.later hb3
    replace G := G.later hb3
    replace G' := G'.later hb3
    replace KW := KW.old hb3
    replace KG := KG.old hb3
    replace hB := old_trans hB hb3
    clear hb3
    obtain ⟨KWa, ⟨KWb, KWc, KWd⟩, -⟩ := id KW
    obtain ⟨KGa, ⟨KGb, KGc, KGd⟩, -⟩ := id KG
    go_wp2_with fail
    refine (lMarkF true _ _ avG avG' cvG cvG' tl ul (1) _ G G' sG htl hul (by omega) (by omega)).mono ?_
    rintro e w4 ⟨rfl, Gn, Gm, wm4, hg4, hk4⟩
    clear KWa KWb KWc KWd KGa KGb KGc KGd
    have Gs := G
    have G's := G'
    replace W := W.kept hg4 (Gs.sep l_W_G)
    replace W' := W'.kept hg4 (Gs.sep l_W'_G)
    replace G' := G'.kept hg4 (sepB sG.symm)
    replace KW := KW.kept hg4 (oi_ne_old Gs l_KW_G)
    replace KG := KG.kept hg4 (oi_ne_young y_G_KG)
    replace G's := G'
    replace hB := Below.marked hB Gs hg4 n_G hB.size
    replace W := W.kept hk4 (G's.sep l_W_G')
    replace W' := W'.kept hk4 (G's.sep l_W'_G')
    replace KW := KW.kept hk4 (oi_ne_old G's l_KW_G')
    replace KG := KG.kept hk4 (oi_ne_young y_G'_KG)
    replace hB := Below.marked hB G's hk4 n_G' hB.size
    clear G Gs G' G's
    have G := Gn
    have G' := Gm
    clear Gn Gm hg4 hk4
    obtain ⟨KWa, ⟨KWb, KWc, KWd⟩, -⟩ := id KW
    obtain ⟨KGa, ⟨KGb, KGc, KGd⟩, -⟩ := id KG
    go_wp2_with fail
    refine (lHeldF true _ _ avG avG' cvG cvG' tl.length ul.length (1) _ G G' htl hul (by omega) (by omega)).mono ?_
    rintro e w5 ⟨rfl, hb5⟩
    clear KWa KWb KWc KWd KGa KGb KGc KGd
    replace W := W.later hb5
    replace W' := W'.later hb5
    replace G := G.later hb5
    replace G' := G'.later hb5
    replace KW := KW.old hb5
    replace KG := KG.old hb5
    replace hB := old_trans hB hb5
    clear hb5
    obtain ⟨KWa, ⟨KWb, KWc, KWd⟩, -⟩ := id KW
    obtain ⟨KGa, ⟨KGb, KGc, KGd⟩, -⟩ := id KG
    have l_W_H := W.lt
    have l_W'_H := W'.lt
    have l_G_H := G.lt
    have l_G'_H := G'.lt
    have l_KW_H := KW.1
    have l_KG_H := KG.1
    have n_H := hB.size
    have l_W_H' := W.lt
    have l_W'_H' := W'.lt
    have l_G_H' := G.lt
    have l_G'_H' := G'.lt
    have l_KW_H' := KW.1
    have l_KG_H' := KG.1
    have n_H' := hB.size
    go_wp2_with fail
    refine (I.out _).mono ?_
    rintro e w6 ⟨⟨avH, cvH, avH', cvH', rfl, H, H', sH⟩, hb6⟩
    clear KWa KWb KWc KWd KGa KGb KGc KGd
    replace W := W.later hb6
    replace W' := W'.later hb6
    replace G := G.later hb6
    replace G' := G'.later hb6
    replace KW := KW.old hb6
    replace KG := KG.old hb6
    replace hB := old_trans hB hb6
    clear hb6
    obtain ⟨KWa, ⟨KWb, KWc, KWd⟩, -⟩ := id KW
    obtain ⟨KGa, ⟨KGb, KGc, KGd⟩, -⟩ := id KG
    clear KWa KWb KWc KWd KGa KGb KGc KGd
    have y_W_KH := W.lt
    have y_W'_KH := W'.lt
    have y_G_KH := G.lt
    have y_G'_KH := G'.lt
    have y_H_KH := H.lt
    have y_H'_KH := H'.lt
    have KH_ := Cel3.new w6 (.bool true) (.slice avH tl.length cvH) (.slice avH' ul.length cvH') 24
    have halKH : Below w6.heap.size w6 (w6.alloc (.cells #[.bool true, .slice avH tl.length cvH, .slice avH' ul.length cvH'] 24)) := old_alloc (Below.refl _ _) _
    replace W := W.later halKH
    replace W' := W'.later halKH
    replace G := G.later halKH
    replace G' := G'.later halKH
    replace H := H.later halKH
    replace H' := H'.later halKH
    replace KW := KW.old halKH
    replace KG := KG.old halKH
    replace hB := old_trans hB halKH
    clear halKH
    have KH := KH_
    clear KH_
    obtain ⟨KWa, ⟨KWb, KWc, KWd⟩, -⟩ := id KW
    obtain ⟨KGa, ⟨KGb, KGc, KGd⟩, -⟩ := id KG
    obtain ⟨KHa, ⟨KHb, KHc, KHd⟩, -⟩ := id KH
    go_wp2_with fail
    refine (lEqF true avH avH' avW avW' cvH cvH' cvW cvW' _ _ _ _ tl ul _ H H' W W').mono ?_
    rintro e w7 ⟨rfl, hb7⟩
    clear KWa KWb KWc KWd KGa KGb KGc KGd KHa KHb KHc KHd
    replace W := W.later hb7
    replace W' := W'.later hb7
    replace G := G.later hb7
    replace G' := G'.later hb7
    replace H := H.later hb7
    replace H' := H'.later hb7
    replace KW := KW.old hb7
    replace KG := KG.old hb7
    replace KH := KH.old hb7
    replace hB := old_trans hB hb7
    clear hb7
    obtain ⟨KWa, ⟨KWb, KWc, KWd⟩, -⟩ := id KW
    obtain ⟨KGa, ⟨KGb, KGc, KGd⟩, -⟩ := id KG
    obtain ⟨KHa, ⟨KHb, KHc, KHd⟩, -⟩ := id KH
    go_wp2_with fail
    refine (lHeldF true _ _ avG avG' cvG cvG' tl.length ul.length (1) _ G G' htl hul (by omega) (by omega)).mono ?_
    rintro e w8 ⟨rfl, hb8⟩
    clear KWa KWb KWc KWd KGa KGb KGc KGd KHa KHb KHc KHd
    replace W := W.later hb8
    replace W' := W'.later hb8
    replace G := G.later hb8
    replace G' := G'.later hb8
    replace H := H.later hb8
    replace H' := H'.later hb8
    replace KW := KW.old hb8
    replace KG := KG.old hb8
    replace KH := KH.old hb8
    replace hB := old_trans hB hb8
    clear hb8
    obtain ⟨KWa, ⟨KWb, KWc, KWd⟩, -⟩ := id KW
    obtain ⟨KGa, ⟨KGb, KGc, KGd⟩, -⟩ := id KG
    obtain ⟨KHa, ⟨KHb, KHc, KHd⟩, -⟩ := id KH
    go_wp2
    go_ret
    exact ⟨rfl, hB⟩
  · obtain ⟨m, hm1, rfl⟩ : ∃ m : Nat, m < 9223372036854775808 ∧ a0 = (m : Int) := ⟨a0.toNat, by omega, by omega⟩
    have S := hd (sFracIntP m hm1)
    have I := hd (iFracIntP m hm1)
    have htl : (natL m).length ≤ 1048576 := Nat.le_trans (natL_len.2 (show m < 65536 ^ 4 by omega)) (by omega)
    have hul : (natL 1).length ≤ 1048576 := by rw [natL_one]; simp
    generalize natL m = tl at *
    generalize natL 1 = ul at *
    have hx2 : ¬ (1 + (tl.length : Int) + (ul.length : Int) < 0) := by omega
    have hB : Below w.heap.size w w := Below.refl _ _
    go_enter Try.func3, Try.ntmps3
    have n_W := hB.size
    have n_W' := hB.size
    go_wp2_with fail
    refine (S.out _).mono ?_
    rintro e w1 ⟨⟨avW, cvW, avW', cvW', rfl, W, W', sW⟩, hb1⟩
    replace hB := old_trans hB hb1
    clear hb1
    have y_W_KW := W.lt
    have y_W'_KW := W'.lt
    have KW_ := Cel3.new w1 (.bool false) (.slice avW tl.length cvW) (.slice avW' ul.length cvW') 24
    have halKW : Below w1.heap.size w1 (w1.alloc (.cells #[.bool false, .slice avW tl.length cvW, .slice avW' ul.length cvW'] 24)) := old_alloc (Below.refl _ _) _
    replace W := W.later halKW
    replace W' := W'.later halKW
    replace hB := old_trans hB halKW
    clear halKW
    have KW := KW_
    clear KW_
    obtain ⟨KWa, ⟨KWb, KWc, KWd⟩, -⟩ := id KW
    have l_W_G := W.lt
    have l_W'_G := W'.lt
    have l_KW_G := KW.1
    have n_G := hB.size
    have l_W_G' := W.lt
    have l_W'_G' := W'.lt
    have l_KW_G' := KW.1
    have n_G' := hB.size
    go_wp2_with fail
    refine (I.out _).mono ?_
    rintro e w2 ⟨⟨avG, cvG, avG', cvG', rfl, G, G', sG⟩, hb2⟩
    clear KWa KWb KWc KWd
    replace W := W.later hb2
    replace W' := W'.later hb2
    replace KW := KW.old hb2
    replace hB := old_trans hB hb2
    clear hb2
    obtain ⟨KWa, ⟨KWb, KWc, KWd⟩, -⟩ := id KW
    clear KWa KWb KWc KWd
    have y_W_KG := W.lt
    have y_W'_KG := W'.lt
    have y_G_KG := G.lt
    have y_G'_KG := G'.lt
    have KG_ := Cel3.new w2 (.bool false) (.slice avG tl.length cvG) (.slice avG' ul.length cvG') 24
    have halKG : Below w2.heap.size w2 (w2.alloc (.cells #[.bool false, .slice avG tl.length cvG, .slice avG' ul.length cvG'] 24)) := old_alloc (Below.refl _ _) _
    replace W := W.later halKG
    replace W' := W'.later halKG
    replace G := G.later halKG
    replace G' := G'.later halKG
    replace KW := KW.old halKG
    replace hB := old_trans hB halKG
    clear halKG
    have KG := KG_
    clear KG_
    obtain ⟨KWa, ⟨KWb, KWc, KWd⟩, -⟩ := id KW
    obtain ⟨KGa, ⟨KGb, KGc, KGd⟩, -⟩ := id KG
    go_wp2_with fail
    refine (lEqF false avG avG' avW avW' cvG cvG' cvW cvW' _ _ _ _ tl ul _ G G' W W').mono ?_
    rintro e w3 ⟨rfl, hb3⟩
    clear KWa KWb KWc KWd KGa KGb KGc KGd
    replace W := W.later hb3
    replace W' := W'.later hb3
    replace G := G.later hb3
    replace G' := G'.later hb3
    replace KW := KW.old hb3
    replace KG := KG.old hb3
    replace hB := old_trans hB hb3
    clear hb3
    obtain ⟨KWa, ⟨KWb, KWc, KWd⟩, -⟩ := id KW
    obtain ⟨KGa, ⟨KGb, KGc, KGd⟩, -⟩ := id KG
    go_wp2_with fail
    refine (lMarkF false _ _ avG avG' cvG cvG' tl ul (1) _ G G' sG htl hul (by omega) (by omega)).mono ?_
    rintro e w4 ⟨rfl, Gn, Gm, wm4, hg4, hk4⟩
    clear KWa KWb KWc KWd KGa KGb KGc KGd
    have Gs := G
    have G's := G'
    replace W := W.kept hg4 (Gs.sep l_W_G)
    replace W' := W'.kept hg4 (Gs.sep l_W'_G)
    replace G' := G'.kept hg4 (sepB sG.symm)
    replace KW := KW.kept hg4 (oi_ne_old Gs l_KW_G)
    replace KG := KG.kept hg4 (oi_ne_young y_G_KG)
    replace G's := G'
    replace hB := Below.marked hB Gs hg4 n_G hB.size
    replace W := W.kept hk4 (G's.sep l_W_G')
    replace W' := W'.kept hk4 (G's.sep l_W'_G')
    replace KW := KW.kept hk4 (oi_ne_old G's l_KW_G')
    replace KG := KG.kept hk4 (oi_ne_young y_G'_KG)
    replace hB := Below.marked hB G's hk4 n_G' hB.size
    clear G Gs G' G's
    have G := Gn
    have G' := Gm
    clear Gn Gm hg4 hk4
    obtain ⟨KWa, ⟨KWb, KWc, KWd⟩, -⟩ := id KW
    obtain ⟨KGa, ⟨KGb, KGc, KGd⟩, -⟩ := id KG
    go_wp2_with fail
    refine (lHeldF false _ _ avG avG' cvG cvG' tl.length ul.length (1) _ G G' htl hul (by omega) (by omega)).mono ?_
    rintro e w5 ⟨rfl, hb5⟩
    clear KWa KWb KWc KWd KGa KGb KGc KGd
    replace W := W.later hb5
    replace W' := W'.later hb5
    replace G := G.later hb5
    replace G' := G'.later hb5
    replace KW := KW.old hb5
    replace KG := KG.old hb5
    replace hB := old_trans hB hb5
    clear hb5
    obtain ⟨KWa, ⟨KWb, KWc, KWd⟩, -⟩ := id KW
    obtain ⟨KGa, ⟨KGb, KGc, KGd⟩, -⟩ := id KG
    have l_W_H := W.lt
    have l_W'_H := W'.lt
    have l_G_H := G.lt
    have l_G'_H := G'.lt
    have l_KW_H := KW.1
    have l_KG_H := KG.1
    have n_H := hB.size
    have l_W_H' := W.lt
    have l_W'_H' := W'.lt
    have l_G_H' := G.lt
    have l_G'_H' := G'.lt
    have l_KW_H' := KW.1
    have l_KG_H' := KG.1
    have n_H' := hB.size
    go_wp2_with fail
    refine (I.out _).mono ?_
    rintro e w6 ⟨⟨avH, cvH, avH', cvH', rfl, H, H', sH⟩, hb6⟩
    clear KWa KWb KWc KWd KGa KGb KGc KGd
    replace W := W.later hb6
    replace W' := W'.later hb6
    replace G := G.later hb6
    replace G' := G'.later hb6
    replace KW := KW.old hb6
    replace KG := KG.old hb6
    replace hB := old_trans hB hb6
    clear hb6
    obtain ⟨KWa, ⟨KWb, KWc, KWd⟩, -⟩ := id KW
    obtain ⟨KGa, ⟨KGb, KGc, KGd⟩, -⟩ := id KG
    clear KWa KWb KWc KWd KGa KGb KGc KGd
    have y_W_KH := W.lt
    have y_W'_KH := W'.lt
    have y_G_KH := G.lt
    have y_G'_KH := G'.lt
    have y_H_KH := H.lt
    have y_H'_KH := H'.lt
    have KH_ := Cel3.new w6 (.bool false) (.slice avH tl.length cvH) (.slice avH' ul.length cvH') 24
    have halKH : Below w6.heap.size w6 (w6.alloc (.cells #[.bool false, .slice avH tl.length cvH, .slice avH' ul.length cvH'] 24)) := old_alloc (Below.refl _ _) _
    replace W := W.later halKH
    replace W' := W'.later halKH
    replace G := G.later halKH
    replace G' := G'.later halKH
    replace H := H.later halKH
    replace H' := H'.later halKH
    replace KW := KW.old halKH
    replace KG := KG.old halKH
    replace hB := old_trans hB halKH
    clear halKH
    have KH := KH_
    clear KH_
    obtain ⟨KWa, ⟨KWb, KWc, KWd⟩, -⟩ := id KW
    obtain ⟨KGa, ⟨KGb, KGc, KGd⟩, -⟩ := id KG
    obtain ⟨KHa, ⟨KHb, KHc, KHd⟩, -⟩ := id KH
    go_wp2_with fail
    refine (lEqF false avH avH' avW avW' cvH cvH' cvW cvW' _ _ _ _ tl ul _ H H' W W').mono ?_
    rintro e w7 ⟨rfl, hb7⟩
    clear KWa KWb KWc KWd KGa KGb KGc KGd KHa KHb KHc KHd
    replace W := W.later hb7
    replace W' := W'.later hb7
    replace G := G.later hb7
    replace G' := G'.later hb7
    replace H := H.later hb7
    replace H' := H'.later hb7
    replace KW := KW.old hb7
    replace KG := KG.old hb7
    replace KH := KH.old hb7
    replace hB := old_trans hB hb7
    clear hb7
    obtain ⟨KWa, ⟨KWb, KWc, KWd⟩, -⟩ := id KW
    obtain ⟨KGa, ⟨KGb, KGc, KGd⟩, -⟩ := id KG
    obtain ⟨KHa, ⟨KHb, KHc, KHd⟩, -⟩ := id KH
    go_wp2_with fail
    refine (lHeldF false _ _ avG avG' cvG cvG' tl.length ul.length (1) _ G G' htl hul (by omega) (by omega)).mono ?_
    rintro e w8 ⟨rfl, hb8⟩
    clear KWa KWb KWc KWd KGa KGb KGc KGd KHa KHb KHc KHd
    replace W := W.later hb8
    replace W' := W'.later hb8
    replace G := G.later hb8
    replace G' := G'.later hb8
    replace H := H.later hb8
    replace H' := H'.later hb8
    replace KW := KW.old hb8
    replace KG := KG.old hb8
    replace KH := KH.old hb8
    replace hB := old_trans hB hb8
    clear hb8
    obtain ⟨KWa, ⟨KWb, KWc, KWd⟩, -⟩ := id KW
    obtain ⟨KGa, ⟨KGb, KGc, KGd⟩, -⟩ := id KG
    obtain ⟨KHa, ⟨KHb, KHc, KHd⟩, -⟩ := id KH
    go_wp2
    go_ret
    exact ⟨rfl, hB⟩

set_option maxRecDepth 100000 in
theorem FnExactFracInt_lifted (os : Os) (started : os.Started) (H : Type) (enc : TypeId × Value → H) :
    ReturnsInHanded {} Try.checked os 3 .any (Rows.fnExactFracIntSpec.pre6 enc Try.prog Try.f3 Rows.fnExactFracIntRow.domain false) (Rows.fnExactFracIntSpec.post enc Try.prog Try.f3 false true false false) := by
  refine returnsInHanded_of_change (C := Try.checked) FnExactFracInt_own started (by kernel_rfl) Try.func3
    (ChangeSpec.witness6 (enc := enc) (C := Try.checked) false ⟨#[], #[.int .i64 0], []⟩ 8 (by kernel_rfl) (by kernel_rfl) (by kernel_rfl) (by kernel_rfl)) ?_
  intro W base args ds gs before hval0 hW hcnd _
  have hval : ∀ (j : Nat) t v, Try.f3.params[j]? = some t → args[j]? = some v → Value.okWide Try.prog W .any base t v := hval0
  have hW' := hW
  obtain ⟨p, q, hA0, hV, rfl, hfz, hnd⟩ := hW
  have hA : DataW.TrodAll enc Try.prog W 0 (fun _ => true) true Try.f3.params.toList args.toList ds p := hA0
  rw [Try.params3] at hA hval
  obtain ⟨v0, vs0, d0, ds0, p0, q0, hargs, rfl, rfl, h0, r0⟩ := trodAll_cons hA
  obtain ⟨rfl, rfl, rfl⟩ := trodAll_nil r0
  obtain rfl : args = #[v0] := by cases args; simp_all
  obtain ⟨rfl, rfl⟩ := trodVars_none hV
  have k0 := h0
  have lt0 : ∀ x ∈ p0, x.block < W.heap.size := by obtain ⟨m, hm⟩ := k0; exact DataW.trod_lt m _ _ _ hm
  obtain ⟨a0, rfl, -, -, wf0⟩ := open_int Try.underlying3 (hval 0 3 v0 rfl rfl) h0
  have wa0 := bounds_i64 wf0
  clear hA0 hval0
  refine (FnExactFracInt_walk a0 wa0 W ).mono fun e W' ⟨he, bel⟩ => ?_
  subst he
  exact ⟨_, rfl, _, _, _, [], _, [], hW', trodAll_mk1 (shut_bool Try.underlying4 _), (trodAll_cons_mk (Below.trod jf1 (by kernel_rfl) (of_decide_eq_true (by kernel_rfl)) k0 bel lt0) trodAll_mk0), rfl, bel.frame _, fun h => by cases h⟩

theorem FnExactFracInt_k0 : (Rows.fnExactFracIntRow.wf (OpenSpec.ofChange Rows.fnExactFracIntSpec)) = true := by kernel_rfl
theorem FnExactFracInt_k3 : (Try.f3.params.all (Try.prog.readableRec ·)) = true := by kernel_rfl
theorem FnExactFracInt_k4 : (namedTie Try.prog Rows.fnExactFracIntRow.named Rows.fnExactFracIntSpec.vars) = true := by kernel_rfl
theorem FnExactFracInt_k5 : ((Rows.fnExactFracIntRow.stops == [])) = true := by kernel_rfl
theorem FnExactFracInt_k7 : ((Rows.fnExactFracIntRow.knobs == [])) = true := by kernel_rfl
theorem FnExactFracInt_k9 : ((Rows.fnExactFracIntRow.inPlace == Try.prog.inPlace 3)) = true := by kernel_rfl
theorem FnExactFracInt_k10 : ((Rows.fnExactFracIntRow.unfollowed == Try.prog.unfollowed 3)) = true := by kernel_rfl
theorem FnExactFracInt_k11 : ((Rows.fnExactFracIntRow.recurses == Try.prog.recurses 3)) = true := by kernel_rfl
theorem FnExactFracInt_k12 : ((Rows.fnExactFracIntRow.named == Try.prog.varsNamed 3)) = true := by kernel_rfl
theorem FnExactFracInt_k13 : ((Rows.fnExactFracIntRow.maps == (Try.f3.params.toList ++ Rows.fnExactFracIntSpec.plain.varTypes Try.prog).any (Try.prog.mapsRec ·))) = true := by kernel_rfl
theorem FnExactFracInt_k14 : ((Rows.fnExactFracIntRow.ifaces == (Try.f3.params.toList ++ Rows.fnExactFracIntSpec.plain.varTypes Try.prog).any (Try.prog.ifacesRec ·))) = true := by kernel_rfl
theorem FnExactFracInt_k15 : ((Rows.fnExactFracIntRow.mapsOut == Try.prog.mapsAmong Try.f3.resultTypes.toList)) = true := by kernel_rfl
theorem FnExactFracInt_k16 : ((Rows.fnExactFracIntRow.loops == (Try.f3.params.toList ++ Rows.fnExactFracIntSpec.plain.varTypes Try.prog).any (Try.prog.loopsFrom ·))) = true := by kernel_rfl
theorem FnExactFracInt_k17 : ((Rows.fnExactFracIntRow.wideKeys == (Try.f3.params.toList ++ Rows.fnExactFracIntSpec.plain.varTypes Try.prog ++ Try.f3.resultTypes.toList).any (Try.prog.wideKeysFrom ·))) = true := by kernel_rfl
theorem FnExactFracInt_k18 : (Rows.fnExactFracIntSpec.vars.all (Try.prog.varReadable ·)) = true := by kernel_rfl
theorem FnExactFracInt_k19 : (Try.f3.resultTypes.all (fun t => Try.prog.readableRec t && decide (t < Try.prog.types.size))) = true := by kernel_rfl
theorem FnExactFracInt_k20 : ((Rows.fnExactFracIntRow.ifacesOut == Try.f3.resultTypes.toList.any (Try.prog.ifacesRec ·))) = true := by kernel_rfl
theorem FnExactFracInt_k21 : ((Rows.fnExactFracIntRow.loopsOut == Try.f3.resultTypes.toList.any (Try.prog.loopsFrom ·))) = true := by kernel_rfl
theorem FnExactFracInt_k23 : (Rows.fnExactFracIntRow.shortTexts.isNone) = true := by kernel_rfl
theorem FnExactFracInt_k28 : ((Rows.fnExactFracIntRow.kinds == (if Rows.fnExactFracIntRow.domain.isEmpty then [] else Try.f3.params.toList.map fun t => match Try.prog.underlying t with | some (.int k) => some k | _ => none))) = true := by kernel_rfl
theorem FnExactFracInt_k29 : ((Rows.fnExactFracIntRow.pinned == Rows.fnExactFracIntRow.pinnedBy)) = true := by kernel_rfl
theorem FnExactFracInt_k30 : ((Rows.fnExactFracIntRow.veiled == (Try.f3.params.toList ++ Rows.fnExactFracIntSpec.plain.varTypes Try.prog ++ Try.f3.resultTypes.toList).any (Try.prog.veiledRec ·))) = true := by kernel_rfl
theorem FnExactFracInt_k31 : (Rows.fnExactFracIntRow.veiledFits Try.prog Try.f3.params.toList (Try.f3.params.toList ++ Rows.fnExactFracIntSpec.plain.varTypes Try.prog ++ Try.f3.resultTypes.toList)) = true := by kernel_rfl
set_option maxRecDepth 100000 in
theorem FnExactFracInt_closed : joinedFacts Try.prog 3 Try.f3 Rows.fnExactFracIntSpec Rows.fnExactFracIntRow = true := (and2 (and2 (and2 (and2 (and2 (and2 (and2 (and2 (and2 (and2 (and2 (and2 (and2 (and2 (and2 (and2 (and2 (and2 (and2 (and2 (and2 (and2 (and2 (and2 (and2 (and2 (and2 (and2 (and2 (and2 (and2 FnExactFracInt_k0 jf1) jf2) FnExactFracInt_k3) FnExactFracInt_k4) FnExactFracInt_k5) jf6) FnExactFracInt_k7) jf8) FnExactFracInt_k9) FnExactFracInt_k10) FnExactFracInt_k11) FnExactFracInt_k12) FnExactFracInt_k13) FnExactFracInt_k14) FnExactFracInt_k15) FnExactFracInt_k16) FnExactFracInt_k17) FnExactFracInt_k18) FnExactFracInt_k19) FnExactFracInt_k20) FnExactFracInt_k21) jf22) FnExactFracInt_k23) jf24) jf25) jf26) jf27) FnExactFracInt_k28) FnExactFracInt_k29) FnExactFracInt_k30) FnExactFracInt_k31)
theorem FnExactFracInt_over : Rows.fnExactFracIntRow.holds Try.pinned (OpenSpec.ofChange Rows.fnExactFracIntSpec) :=
  OpenClaim.holds_of_wide 3 Try.f3 rfl rfl rfl rfl rfl rfl rfl ⟨rfl, rfl, rfl, rfl, rfl⟩ rfl rfl rfl rfl rfl (by kernel_rfl) Try.func3 FnExactFracInt_closed
    (of_decide_eq_true (by kernel_rfl)) (by unfold Func.isWrapper; first | (rw [if_pos (by decide +kernel)]; kernel_rfl) | (rw [if_neg (by decide +kernel)]; exact ⟨rfl, rfl⟩))
    (fun os started H enc _ => FnExactFracInt_lifted os started H enc)

theorem FnExactFracInt_proved : Rows.FnExactFracIntSaid := FnExactFracInt_over
end Go.Proofs.Ytpamnpdigoikoaa
