/- The program's BoxSplit answers as the specification's BoxSplit at every argument; it writes into no argument, and what it answers is its own. No condition. -/
import Derived.Test.YtmofapcoaolndaaRows
import Derived.WalkKit
import Derived.ProofKit
import Derived.OpenShut
import Derived.Below
import Derived.Carry
import Derived.Test.YtmofapcoaolndaaO1
import Derived.Test.YtmofapcoaolndaaEZ
import Derived.Test.YtmofapcoaolndaaCut
import Derived.Test.YtmofapcoaolndaaBJ
namespace Go.Proofs.Ytmofapcoaolndaa
open Go.ChangeShapes Go.WideShapes Go.ChangeAt Go.RowKit
set_option linter.unusedVariables false

theorem FnExactBoxSplit_own : ownKnob Try.prog.godebug = none := by kernel_rfl

set_option maxRecDepth 100000 in
set_option maxHeartbeats 4000000 in
theorem FnExactBoxSplit_walk (a0 : Int) (wa0 : -9223372036854775808 ≤ a0 ∧ a0 ≤ 9223372036854775807) (a1 : Option Addr) (len1 cap1 : Nat) (ps1 : List (Int × Int)) (a2 : Int) (wa2 : -9223372036854775808 ≤ a2 ∧ a2 ≤ 9223372036854775807) (w : World) (wb1 : InRow w a1 len1 cap1 ps1):
    Calls Try.prog 3 #[.int .i64 a0, .agg #[.slice a1 len1 cap1], .int .i64 a2] w fun e w' => e = .returned (.bool true) ∧ Below w.heap.size w w' := by
  obtain rfl := wb1.1
  have hlen1 : ps1.length ≤ maxLen := Nat.le_trans wb1.2.1 wb1.2.2.1
  have SZ := hd (lSzBox a1 ps1.length cap1 1048576 hlen1 (by omega) (by omega))
  by_cases c : (ps1.length : Int) ≤ 1048576
  case neg =>
    rw [if_neg c] at SZ
    go_enter Try.func3, Try.ntmps3
    go_wp2_with (go_at_call 6; refine (SZ.out _).mono ?_; rintro e w1 ⟨rfl, hb1⟩)
    go_ret
    exact ⟨rfl, (by repeat (first | exact Below.refl _ _ | refine Below.drew ?_ | refine old_alloc ?_ _ | refine old_trans ?_ (by assumption)))⟩
  rw [if_pos c] at SZ
  have hl1 : ps1.length ≤ 1048576 := by omega
  have c' : ¬ (1048576 - (ps1.length : Int) < 0) := by omega
  clear c
  have S := hd (fun a cap w (h : InRow w a ps1.length cap ps1) => sBoxSplitO a0 a2 a cap ps1 w h hl1)
  have I := hd (fun a cap w (h : InRow w a ps1.length cap ps1) => iBoxSplitO a0 a2 a cap ps1 w h hl1)
  unfold BR2 at S I
  have hqa : (resL (splR a0 a2 ps1) (splA a2 ps1)).length ≤ 1048576 := res_len (by unfold splA; rw [List.length_set]; exact hl1)
  have hqb : (resL (splR a0 a2 ps1) (splZ a2 ps1)).length ≤ 1048576 := res_len (by unfold splZ; rw [List.length_set]; exact hl1)
  generalize resL (splR a0 a2 ps1) (splA a2 ps1) = qa at *
  generalize resL (splR a0 a2 ps1) (splZ a2 ps1) = qb at *
  generalize splR a0 a2 ps1 = r at *
  have hx1 : ¬ (1 + 2 * (ps1.length : Int) < 0) := by omega
  have hx2 : ¬ (1 + 2 * (qa.length : Int) < 0) := by omega
  have hx3 : ¬ (1 + 2 * (qa.length : Int) + 2 * (qb.length : Int) < 0) := by omega
  have K : Cel1 (w.alloc (.cells #[.slice a1 ps1.length cap1] 24)) w.heap.size (.slice a1 ps1.length cap1) := Cel1.made w _ rfl _ _
  have R := wb1.alloc (.cells #[.slice a1 ps1.length cap1] 24)
  have hB : Below w.heap.size w (w.alloc (.cells #[.slice a1 ps1.length cap1] 24)) := old_alloc (Below.refl _ _) _
  obtain ⟨pK, hpK⟩ : ∃ p, w.heap.size = p := ⟨_, rfl⟩
  have hB0 : w.heap.size ≤ pK := by omega
  go_enter Try.func3, Try.ntmps3
  rw [hpK] at K
  have K0 := K.1
  have K2 := K.2.2
  go_wp2_with fail
  clear K0 K2
  generalize (w.alloc (.cells #[.slice a1 ps1.length cap1] 24)) = V0 at *
  have K0 := K.1
  have K2 := K.2.2
  refine (SZ.out _).mono ?_
  rintro e w1 ⟨rfl, hb1⟩
  clear K0 K2
  replace K := K.later hb1
  replace R := R.old hb1
  replace hB := old_trans hB hb1
  clear hb1
  have K0 := K.1
  have K2 := K.2.2
  go_wp2_with fail
  have l_K_P := K.2.2
  have l_R_P := R.far
  have n_P := hB.size
  refine (toBoxO a1 cap1 ps1 _ R hl1).mono ?_
  rintro e w2 ⟨⟨avP, cvP, rfl, P⟩, hb2⟩
  clear K0 K2
  replace K := K.later hb2
  replace R := R.old hb2
  replace hB := old_trans hB hb2
  clear hb2
  have K0 := K.1
  have K2 := K.2.2
  go_wp2_with fail
  have l_K_WA := K.2.2
  have l_P_WA := P.lt
  have l_R_WA := R.far
  have n_WA := hB.size
  have l_K_WB := K.2.2
  have l_P_WB := P.lt
  have l_R_WB := R.far
  have n_WB := hB.size
  refine (S.out _ _ _ P.inRow).mono ?_
  rintro e w3 ⟨⟨avWA, cvWA, avWB, cvWB, rfl, WA, WB, sepWAWB⟩, hb3⟩
  clear K0 K2
  clear P
  replace K := K.later hb3
  replace R := R.old hb3
  replace hB := old_trans hB hb3
  clear hb3
  have K0 := K.1
  have K2 := K.2.2
  have y_WA_WAc := WA.lt
  have y_WB_WAc := WB.lt
  have y_WA_WBc := WA.lt
  have y_WB_WBc := WB.lt
  clear K0 K2
  replace K := ((K.alloc (.cells #[.slice avWA qa.length cvWA] 28)).alloc (.cells #[.slice avWB qb.length cvWB] 28))
  replace WA := ((WA.alloc (.cells #[.slice avWA qa.length cvWA] 28)).alloc (.cells #[.slice avWB qb.length cvWB] 28))
  replace WB := ((WB.alloc (.cells #[.slice avWA qa.length cvWA] 28)).alloc (.cells #[.slice avWB qb.length cvWB] 28))
  replace R := ((R.alloc (.cells #[.slice avWA qa.length cvWA] 28)).alloc (.cells #[.slice avWB qb.length cvWB] 28))
  replace hB := old_alloc (old_alloc hB (.cells #[.slice avWA qa.length cvWA] 28)) (.cells #[.slice avWB qb.length cvWB] 28)
  have WAc : Cel1 ((w3.alloc (.cells #[.slice avWA qa.length cvWA] 28)).alloc (.cells #[.slice avWB qb.length cvWB] 28)) (w3.heap.size) (.slice avWA qa.length cvWA) := (Cel1.made w3 _ (by simp) _ _).alloc (.cells #[.slice avWB qb.length cvWB] 28)
  have WBc : Cel1 ((w3.alloc (.cells #[.slice avWA qa.length cvWA] 28)).alloc (.cells #[.slice avWB qb.length cvWB] 28)) (w3.heap.size + 1) (.slice avWB qb.length cvWB) := Cel1.made (w3.alloc (.cells #[.slice avWA qa.length cvWA] 28)) _ (by simp) _ _
  have K0 := K.1
  have K2 := K.2.2
  have WAc0 := WAc.1
  have WAc2 := WAc.2.2
  have WBc0 := WBc.1
  have WBc2 := WBc.2.2
  go_wp2_with fail
  clear K0 K2 WAc0 WAc2 WBc0 WBc2
  generalize ((w3.alloc (.cells #[.slice avWA qa.length cvWA] 28)).alloc (.cells #[.slice avWB qb.length cvWB] 28)) = V1 at *
  generalize hpWAc : w3.heap.size = pWAc at *
  generalize hpWBc : pWAc + 1 = pWBc at *
  have K0 := K.1
  have K2 := K.2.2
  have WAc0 := WAc.1
  have WAc2 := WAc.2.2
  have WBc0 := WBc.1
  have WBc2 := WBc.2.2
  have l_K_X := K.2.2
  have l_WAc_X := WAc.2.2
  have l_WBc_X := WBc.2.2
  have l_WA_X := WA.lt
  have l_WB_X := WB.lt
  have l_R_X := R.far
  have n_X := hB.size
  refine (toBoxO a1 cap1 ps1 _ R hl1).mono ?_
  rintro e w4 ⟨⟨avX, cvX, rfl, X⟩, hb4⟩
  clear K0 K2 WAc0 WAc2 WBc0 WBc2
  replace K := K.later hb4
  replace WAc := WAc.later hb4
  replace WBc := WBc.later hb4
  replace WA := WA.later hb4
  replace WB := WB.later hb4
  replace R := R.old hb4
  replace hB := old_trans hB hb4
  clear hb4
  have K0 := K.1
  have K2 := K.2.2
  have WAc0 := WAc.1
  have WAc2 := WAc.2.2
  have WBc0 := WBc.1
  have WBc2 := WBc.2.2
  have y_WA_Xc := WA.lt
  have y_WB_Xc := WB.lt
  have y_X_Xc := X.lt
  clear K0 K2 WAc0 WAc2 WBc0 WBc2
  replace K := (K.alloc (.cells #[.slice avX ps1.length cvX] 28))
  replace WAc := (WAc.alloc (.cells #[.slice avX ps1.length cvX] 28))
  replace WBc := (WBc.alloc (.cells #[.slice avX ps1.length cvX] 28))
  replace WA := (WA.alloc (.cells #[.slice avX ps1.length cvX] 28))
  replace WB := (WB.alloc (.cells #[.slice avX ps1.length cvX] 28))
  replace X := (X.alloc (.cells #[.slice avX ps1.length cvX] 28))
  replace R := (R.alloc (.cells #[.slice avX ps1.length cvX] 28))
  replace hB := old_alloc hB (.cells #[.slice avX ps1.length cvX] 28)
  have Xc : Cel1 (w4.alloc (.cells #[.slice avX ps1.length cvX] 28)) (w4.heap.size) (.slice avX ps1.length cvX) := Cel1.made w4 _ (by simp) _ _
  have K0 := K.1
  have K2 := K.2.2
  have WAc0 := WAc.1
  have WAc2 := WAc.2.2
  have WBc0 := WBc.1
  have WBc2 := WBc.2.2
  have Xc0 := Xc.1
  have Xc2 := Xc.2.2
  go_wp2_with fail
  clear K0 K2 WAc0 WAc2 WBc0 WBc2 Xc0 Xc2
  generalize (w4.alloc (.cells #[.slice avX ps1.length cvX] 28)) = V2 at *
  generalize hpXc : w4.heap.size = pXc at *
  have K0 := K.1
  have K2 := K.2.2
  have WAc0 := WAc.1
  have WAc2 := WAc.2.2
  have WBc0 := WBc.1
  have WBc2 := WBc.2.2
  have Xc0 := Xc.1
  have Xc2 := Xc.2.2
  have l_K_GA := K.2.2
  have l_WAc_GA := WAc.2.2
  have l_WBc_GA := WBc.2.2
  have l_Xc_GA := Xc.2.2
  have l_WA_GA := WA.lt
  have l_WB_GA := WB.lt
  have l_X_GA := X.lt
  have l_R_GA := R.far
  have n_GA := hB.size
  have l_K_GB := K.2.2
  have l_WAc_GB := WAc.2.2
  have l_WBc_GB := WBc.2.2
  have l_Xc_GB := Xc.2.2
  have l_WA_GB := WA.lt
  have l_WB_GB := WB.lt
  have l_X_GB := X.lt
  have l_R_GB := R.far
  have n_GB := hB.size
  refine (I.out _ _ _ X.inRow).mono ?_
  rintro e w5 ⟨⟨avGA, cvGA, avGB, cvGB, rfl, GA, GB, sepGAGB⟩, hb5⟩
  clear K0 K2 WAc0 WAc2 WBc0 WBc2 Xc0 Xc2
  replace K := K.later hb5
  replace WAc := WAc.later hb5
  replace WBc := WBc.later hb5
  replace Xc := Xc.later hb5
  replace WA := WA.later hb5
  replace WB := WB.later hb5
  replace X := X.later hb5
  replace R := R.old hb5
  replace hB := old_trans hB hb5
  clear hb5
  have K0 := K.1
  have K2 := K.2.2
  have WAc0 := WAc.1
  have WAc2 := WAc.2.2
  have WBc0 := WBc.1
  have WBc2 := WBc.2.2
  have Xc0 := Xc.1
  have Xc2 := Xc.2.2
  have y_WA_GAc := WA.lt
  have y_WB_GAc := WB.lt
  have y_X_GAc := X.lt
  have y_GA_GAc := GA.lt
  have y_GB_GAc := GB.lt
  have y_WA_GBc := WA.lt
  have y_WB_GBc := WB.lt
  have y_X_GBc := X.lt
  have y_GA_GBc := GA.lt
  have y_GB_GBc := GB.lt
  clear K0 K2 WAc0 WAc2 WBc0 WBc2 Xc0 Xc2
  replace K := ((K.alloc (.cells #[.slice avGA qa.length cvGA] 28)).alloc (.cells #[.slice avGB qb.length cvGB] 28))
  replace WAc := ((WAc.alloc (.cells #[.slice avGA qa.length cvGA] 28)).alloc (.cells #[.slice avGB qb.length cvGB] 28))
  replace WBc := ((WBc.alloc (.cells #[.slice avGA qa.length cvGA] 28)).alloc (.cells #[.slice avGB qb.length cvGB] 28))
  replace Xc := ((Xc.alloc (.cells #[.slice avGA qa.length cvGA] 28)).alloc (.cells #[.slice avGB qb.length cvGB] 28))
  replace WA := ((WA.alloc (.cells #[.slice avGA qa.length cvGA] 28)).alloc (.cells #[.slice avGB qb.length cvGB] 28))
  replace WB := ((WB.alloc (.cells #[.slice avGA qa.length cvGA] 28)).alloc (.cells #[.slice avGB qb.length cvGB] 28))
  replace X := ((X.alloc (.cells #[.slice avGA qa.length cvGA] 28)).alloc (.cells #[.slice avGB qb.length cvGB] 28))
  replace GA := ((GA.alloc (.cells #[.slice avGA qa.length cvGA] 28)).alloc (.cells #[.slice avGB qb.length cvGB] 28))
  replace GB := ((GB.alloc (.cells #[.slice avGA qa.length cvGA] 28)).alloc (.cells #[.slice avGB qb.length cvGB] 28))
  replace R := ((R.alloc (.cells #[.slice avGA qa.length cvGA] 28)).alloc (.cells #[.slice avGB qb.length cvGB] 28))
  replace hB := old_alloc (old_alloc hB (.cells #[.slice avGA qa.length cvGA] 28)) (.cells #[.slice avGB qb.length cvGB] 28)
  have GAc : Cel1 ((w5.alloc (.cells #[.slice avGA qa.length cvGA] 28)).alloc (.cells #[.slice avGB qb.length cvGB] 28)) (w5.heap.size) (.slice avGA qa.length cvGA) := (Cel1.made w5 _ (by simp) _ _).alloc (.cells #[.slice avGB qb.length cvGB] 28)
  have GBc : Cel1 ((w5.alloc (.cells #[.slice avGA qa.length cvGA] 28)).alloc (.cells #[.slice avGB qb.length cvGB] 28)) (w5.heap.size + 1) (.slice avGB qb.length cvGB) := Cel1.made (w5.alloc (.cells #[.slice avGA qa.length cvGA] 28)) _ (by simp) _ _
  have K0 := K.1
  have K2 := K.2.2
  have WAc0 := WAc.1
  have WAc2 := WAc.2.2
  have WBc0 := WBc.1
  have WBc2 := WBc.2.2
  have Xc0 := Xc.1
  have Xc2 := Xc.2.2
  have GAc0 := GAc.1
  have GAc2 := GAc.2.2
  have GBc0 := GBc.1
  have GBc2 := GBc.2.2
  go_wp2_with fail
  clear K0 K2 WAc0 WAc2 WBc0 WBc2 Xc0 Xc2 GAc0 GAc2 GBc0 GBc2
  generalize ((w5.alloc (.cells #[.slice avGA qa.length cvGA] 28)).alloc (.cells #[.slice avGB qb.length cvGB] 28)) = V3 at *
  generalize hpGAc : w5.heap.size = pGAc at *
  generalize hpGBc : pGAc + 1 = pGBc at *
  have K0 := K.1
  have K2 := K.2.2
  have WAc0 := WAc.1
  have WAc2 := WAc.2.2
  have WBc0 := WBc.1
  have WBc2 := WBc.2.2
  have Xc0 := Xc.1
  have Xc2 := Xc.2.2
  have GAc0 := GAc.1
  have GAc2 := GAc.2.2
  have GBc0 := GBc.1
  have GBc2 := GBc.2.2
  refine (lEqO avGA avWA cvGA cvWA _ _ qa _ GA WA).mono ?_
  rintro e w6 ⟨rfl, hb6⟩
  clear K0 K2 WAc0 WAc2 WBc0 WBc2 Xc0 Xc2 GAc0 GAc2 GBc0 GBc2
  replace K := K.later hb6
  replace WAc := WAc.later hb6
  replace WBc := WBc.later hb6
  replace Xc := Xc.later hb6
  replace GAc := GAc.later hb6
  replace GBc := GBc.later hb6
  replace WA := WA.later hb6
  replace WB := WB.later hb6
  replace X := X.later hb6
  replace GA := GA.later hb6
  replace GB := GB.later hb6
  replace R := R.old hb6
  replace hB := old_trans hB hb6
  clear hb6
  have K0 := K.1
  have K2 := K.2.2
  have WAc0 := WAc.1
  have WAc2 := WAc.2.2
  have WBc0 := WBc.1
  have WBc2 := WBc.2.2
  have Xc0 := Xc.1
  have Xc2 := Xc.2.2
  have GAc0 := GAc.1
  have GAc2 := GAc.2.2
  have GBc0 := GBc.1
  have GBc2 := GBc.2.2
  go_wp2_with fail
  refine (lEqO avGB avWB cvGB cvWB _ _ qb _ GB WB).mono ?_
  rintro e w7 ⟨rfl, hb7⟩
  clear K0 K2 WAc0 WAc2 WBc0 WBc2 Xc0 Xc2 GAc0 GAc2 GBc0 GBc2
  replace K := K.later hb7
  replace WAc := WAc.later hb7
  replace WBc := WBc.later hb7
  replace Xc := Xc.later hb7
  replace GAc := GAc.later hb7
  replace GBc := GBc.later hb7
  replace WA := WA.later hb7
  replace WB := WB.later hb7
  replace X := X.later hb7
  replace GA := GA.later hb7
  replace GB := GB.later hb7
  replace R := R.old hb7
  replace hB := old_trans hB hb7
  clear hb7
  have K0 := K.1
  have K2 := K.2.2
  have WAc0 := WAc.1
  have WAc2 := WAc.2.2
  have WBc0 := WBc.1
  have WBc2 := WBc.2.2
  have Xc0 := Xc.1
  have Xc2 := Xc.2.2
  have GAc0 := GAc.1
  have GAc2 := GAc.2.2
  have GBc0 := GBc.1
  have GBc2 := GBc.2.2
  go_wp2_with fail
  go_region_held3 (fun w' => w'.cell? ⟨pXc, 0, none⟩ = some (.slice avX ps1.length cvX) ∧ w'.cell? ⟨pK, 0, none⟩ = some (.slice a1 ps1.length cap1)) (go_keep) (first | (go_at_call 8; refine (toBoxO a1 cap1 ps1 _ R.drew hl1).mono ?_; rintro e wz ⟨⟨avZ, cvZ, rfl, Z⟩, hbz⟩; have K := K.drew.later hbz; have WAc := WAc.drew.later hbz; have WBc := WBc.drew.later hbz; have Xc := Xc.drew.later hbz; have GAc := GAc.drew.later hbz; have GBc := GBc.drew.later hbz; have WA := WA.drew.later hbz; have WB := WB.drew.later hbz; have X := X.drew.later hbz; have GA := GA.drew.later hbz; have GB := GB.drew.later hbz; have R := R.drew.old hbz; have hB := old_trans (Below.drew hB) hbz; have K0 := K.1; have K2 := K.2.2; have WAc0 := WAc.1; have WAc2 := WAc.2.2; have WBc0 := WBc.1; have WBc2 := WBc.2.2; have Xc0 := Xc.1; have Xc2 := Xc.2.2; have GAc0 := GAc.1; have GAc2 := GAc.2.2; have GBc0 := GBc.1; have GBc2 := GBc.2.2) | (go_at_call 10; refine (lEqO avX avZ cvX cvZ _ _ ps1 _ X Z).mono ?_; rintro e wy ⟨rfl, hby⟩; have K := K.later hby; have WAc := WAc.later hby; have WBc := WBc.later hby; have Xc := Xc.later hby; have GAc := GAc.later hby; have GBc := GBc.later hby; have WA := WA.later hby; have WB := WB.later hby; have X := X.later hby; have GA := GA.later hby; have GB := GB.later hby; have R := R.old hby; have hB := old_trans hB hby; have K0 := K.1; have K2 := K.2.2; have WAc0 := WAc.1; have WAc2 := WAc.2.2; have WBc0 := WBc.1; have WBc2 := WBc.2.2; have Xc0 := Xc.1; have Xc2 := Xc.2.2; have GAc0 := GAc.1; have GAc2 := GAc.2.2; have GBc0 := GBc.1; have GBc2 := GBc.2.2))
  go_wp2_with fail
  refine (lMarkO _ avX cvX ps1 (1) _ X hl1 (by omega) (by omega)).mono ?_
  rintro e w9 ⟨rfl, X', hg9⟩
  clear K0 K2 WAc0 WAc2 WBc0 WBc2 Xc0 Xc2 GAc0 GAc2 GBc0 GBc2
  replace K := K.kept hg9 (X.ne_old l_K_X)
  replace WAc := WAc.kept hg9 (X.ne_old l_WAc_X)
  replace WBc := WBc.kept hg9 (X.ne_old l_WBc_X)
  replace Xc := Xc.kept hg9 (ne_young (fun q e => by have := y_X_Xc q e; omega))
  replace GAc := GAc.kept hg9 (ne_young (fun q e => by have := y_X_GAc q e; omega))
  replace GBc := GBc.kept hg9 (ne_young (fun q e => by have := y_X_GBc q e; omega))
  replace WA := WA.kept hg9 (X.sep l_WA_X)
  replace WB := WB.kept hg9 (X.sep l_WB_X)
  replace GA := GA.kept hg9 (GA.sep' l_X_GA)
  replace GB := GB.kept hg9 (GB.sep' l_X_GB)
  replace R := R.kept' hg9 (fun h0 => X.sep (l_R_X h0))
  replace hB := Below.marked hB X hg9 n_X hB.size
  clear X
  have X := X'
  clear X'
  have K0 := K.1
  have K2 := K.2.2
  have WAc0 := WAc.1
  have WAc2 := WAc.2.2
  have WBc0 := WBc.1
  have WBc2 := WBc.2.2
  have Xc0 := Xc.1
  have Xc2 := Xc.2.2
  have GAc0 := GAc.1
  have GAc2 := GAc.2.2
  have GBc0 := GBc.1
  have GBc2 := GBc.2.2
  go_wp2_with fail
  refine (lEqO avGA avWA cvGA cvWA _ _ qa _ GA WA).mono ?_
  rintro e w10 ⟨rfl, hb10⟩
  clear K0 K2 WAc0 WAc2 WBc0 WBc2 Xc0 Xc2 GAc0 GAc2 GBc0 GBc2
  replace K := K.later hb10
  replace WAc := WAc.later hb10
  replace WBc := WBc.later hb10
  replace Xc := Xc.later hb10
  replace GAc := GAc.later hb10
  replace GBc := GBc.later hb10
  replace WA := WA.later hb10
  replace WB := WB.later hb10
  replace X := X.later hb10
  replace GA := GA.later hb10
  replace GB := GB.later hb10
  replace R := R.old hb10
  replace hB := old_trans hB hb10
  clear hb10
  have K0 := K.1
  have K2 := K.2.2
  have WAc0 := WAc.1
  have WAc2 := WAc.2.2
  have WBc0 := WBc.1
  have WBc2 := WBc.2.2
  have Xc0 := Xc.1
  have Xc2 := Xc.2.2
  have GAc0 := GAc.1
  have GAc2 := GAc.2.2
  have GBc0 := GBc.1
  have GBc2 := GBc.2.2
  go_wp2_with fail
  refine (lEqO avGB avWB cvGB cvWB _ _ qb _ GB WB).mono ?_
  rintro e w11 ⟨rfl, hb11⟩
  clear K0 K2 WAc0 WAc2 WBc0 WBc2 Xc0 Xc2 GAc0 GAc2 GBc0 GBc2
  replace K := K.later hb11
  replace WAc := WAc.later hb11
  replace WBc := WBc.later hb11
  replace Xc := Xc.later hb11
  replace GAc := GAc.later hb11
  replace GBc := GBc.later hb11
  replace WA := WA.later hb11
  replace WB := WB.later hb11
  replace X := X.later hb11
  replace GA := GA.later hb11
  replace GB := GB.later hb11
  replace R := R.old hb11
  replace hB := old_trans hB hb11
  clear hb11
  have K0 := K.1
  have K2 := K.2.2
  have WAc0 := WAc.1
  have WAc2 := WAc.2.2
  have WBc0 := WBc.1
  have WBc2 := WBc.2.2
  have Xc0 := Xc.1
  have Xc2 := Xc.2.2
  have GAc0 := GAc.1
  have GAc2 := GAc.2.2
  have GBc0 := GBc.1
  have GBc2 := GBc.2.2
  go_wp2_with fail
  refine (lMarkO _ avGA cvGA qa (1) _ GA hqa (by omega) (by omega)).mono ?_
  rintro e w12 ⟨rfl, GA', hg12⟩
  clear K0 K2 WAc0 WAc2 WBc0 WBc2 Xc0 Xc2 GAc0 GAc2 GBc0 GBc2
  replace K := K.kept hg12 (GA.ne_old l_K_GA)
  replace WAc := WAc.kept hg12 (GA.ne_old l_WAc_GA)
  replace WBc := WBc.kept hg12 (GA.ne_old l_WBc_GA)
  replace Xc := Xc.kept hg12 (GA.ne_old l_Xc_GA)
  replace GAc := GAc.kept hg12 (ne_young (fun q e => by have := y_GA_GAc q e; omega))
  replace GBc := GBc.kept hg12 (ne_young (fun q e => by have := y_GA_GBc q e; omega))
  replace WA := WA.kept hg12 (GA.sep l_WA_GA)
  replace WB := WB.kept hg12 (GA.sep l_WB_GA)
  replace X := X.kept hg12 (GA.sep l_X_GA)
  replace GB := GB.kept hg12 (fun q e h => by exact twin_ne (twin_sym sepGAGB) q e h)
  replace R := R.kept' hg12 (fun h0 => GA.sep (l_R_GA h0))
  replace hB := Below.marked hB GA hg12 n_GA hB.size
  clear GA
  have GA := GA'
  clear GA'
  have K0 := K.1
  have K2 := K.2.2
  have WAc0 := WAc.1
  have WAc2 := WAc.2.2
  have WBc0 := WBc.1
  have WBc2 := WBc.2.2
  have Xc0 := Xc.1
  have Xc2 := Xc.2.2
  have GAc0 := GAc.1
  have GAc2 := GAc.2.2
  have GBc0 := GBc.1
  have GBc2 := GBc.2.2
  go_wp2_with fail
  refine (lMarkO _ avGB cvGB qb (1 + 2 * (qa.length : Int)) _ GB hqb (by omega) (by omega)).mono ?_
  rintro e w13 ⟨rfl, GB', hg13⟩
  clear K0 K2 WAc0 WAc2 WBc0 WBc2 Xc0 Xc2 GAc0 GAc2 GBc0 GBc2
  replace K := K.kept hg13 (GB.ne_old l_K_GB)
  replace WAc := WAc.kept hg13 (GB.ne_old l_WAc_GB)
  replace WBc := WBc.kept hg13 (GB.ne_old l_WBc_GB)
  replace Xc := Xc.kept hg13 (GB.ne_old l_Xc_GB)
  replace GAc := GAc.kept hg13 (ne_young (fun q e => by have := y_GB_GAc q e; omega))
  replace GBc := GBc.kept hg13 (ne_young (fun q e => by have := y_GB_GBc q e; omega))
  replace WA := WA.kept hg13 (GB.sep l_WA_GB)
  replace WB := WB.kept hg13 (GB.sep l_WB_GB)
  replace X := X.kept hg13 (GB.sep l_X_GB)
  replace GA := GA.kept hg13 (fun q e h => by exact twin_ne sepGAGB q e h)
  replace R := R.kept' hg13 (fun h0 => GB.sep (l_R_GB h0))
  replace hB := Below.marked hB GB hg13 n_GB hB.size
  clear GB
  have GB := GB'
  clear GB'
  have K0 := K.1
  have K2 := K.2.2
  have WAc0 := WAc.1
  have WAc2 := WAc.2.2
  have WBc0 := WBc.1
  have WBc2 := WBc.2.2
  have Xc0 := Xc.1
  have Xc2 := Xc.2.2
  have GAc0 := GAc.1
  have GAc2 := GAc.2.2
  have GBc0 := GBc.1
  have GBc2 := GBc.2.2
  go_wp2_with fail
  refine (lHeldO _ avGA cvGA qa.length (1) _ GA hqa (by omega) (by omega)).mono ?_
  rintro e w14 ⟨rfl, hb14⟩
  clear K0 K2 WAc0 WAc2 WBc0 WBc2 Xc0 Xc2 GAc0 GAc2 GBc0 GBc2
  replace K := K.later hb14
  replace WAc := WAc.later hb14
  replace WBc := WBc.later hb14
  replace Xc := Xc.later hb14
  replace GAc := GAc.later hb14
  replace GBc := GBc.later hb14
  replace WA := WA.later hb14
  replace WB := WB.later hb14
  replace X := X.later hb14
  replace GA := GA.later hb14
  replace GB := GB.later hb14
  replace R := R.old hb14
  replace hB := old_trans hB hb14
  clear hb14
  have K0 := K.1
  have K2 := K.2.2
  have WAc0 := WAc.1
  have WAc2 := WAc.2.2
  have WBc0 := WBc.1
  have WBc2 := WBc.2.2
  have Xc0 := Xc.1
  have Xc2 := Xc.2.2
  have GAc0 := GAc.1
  have GAc2 := GAc.2.2
  have GBc0 := GBc.1
  have GBc2 := GBc.2.2
  go_wp2_with fail
  refine (lHeldO _ avGB cvGB qb.length (1 + 2 * (qa.length : Int)) _ GB hqb (by omega) (by omega)).mono ?_
  rintro e w15 ⟨rfl, hb15⟩
  clear K0 K2 WAc0 WAc2 WBc0 WBc2 Xc0 Xc2 GAc0 GAc2 GBc0 GBc2
  replace K := K.later hb15
  replace WAc := WAc.later hb15
  replace WBc := WBc.later hb15
  replace Xc := Xc.later hb15
  replace GAc := GAc.later hb15
  replace GBc := GBc.later hb15
  replace WA := WA.later hb15
  replace WB := WB.later hb15
  replace X := X.later hb15
  replace GA := GA.later hb15
  replace GB := GB.later hb15
  replace R := R.old hb15
  replace hB := old_trans hB hb15
  clear hb15
  have K0 := K.1
  have K2 := K.2.2
  have WAc0 := WAc.1
  have WAc2 := WAc.2.2
  have WBc0 := WBc.1
  have WBc2 := WBc.2.2
  have Xc0 := Xc.1
  have Xc2 := Xc.2.2
  have GAc0 := GAc.1
  have GAc2 := GAc.2.2
  have GBc0 := GBc.1
  have GBc2 := GBc.2.2
  go_wp2_with fail
  have l_K_Y := K.2.2
  have l_WAc_Y := WAc.2.2
  have l_WBc_Y := WBc.2.2
  have l_Xc_Y := Xc.2.2
  have l_GAc_Y := GAc.2.2
  have l_GBc_Y := GBc.2.2
  have l_WA_Y := WA.lt
  have l_WB_Y := WB.lt
  have l_X_Y := X.lt
  have l_GA_Y := GA.lt
  have l_GB_Y := GB.lt
  have l_R_Y := R.far
  have n_Y := hB.size
  refine (toBoxO a1 cap1 ps1 _ R hl1).mono ?_
  rintro e w16 ⟨⟨avY, cvY, rfl, Y⟩, hb16⟩
  clear K0 K2 WAc0 WAc2 WBc0 WBc2 Xc0 Xc2 GAc0 GAc2 GBc0 GBc2
  replace K := K.later hb16
  replace WAc := WAc.later hb16
  replace WBc := WBc.later hb16
  replace Xc := Xc.later hb16
  replace GAc := GAc.later hb16
  replace GBc := GBc.later hb16
  replace WA := WA.later hb16
  replace WB := WB.later hb16
  replace X := X.later hb16
  replace GA := GA.later hb16
  replace GB := GB.later hb16
  replace R := R.old hb16
  replace hB := old_trans hB hb16
  clear hb16
  have K0 := K.1
  have K2 := K.2.2
  have WAc0 := WAc.1
  have WAc2 := WAc.2.2
  have WBc0 := WBc.1
  have WBc2 := WBc.2.2
  have Xc0 := Xc.1
  have Xc2 := Xc.2.2
  have GAc0 := GAc.1
  have GAc2 := GAc.2.2
  have GBc0 := GBc.1
  have GBc2 := GBc.2.2
  go_wp2_with fail
  have l_K_HA := K.2.2
  have l_WAc_HA := WAc.2.2
  have l_WBc_HA := WBc.2.2
  have l_Xc_HA := Xc.2.2
  have l_GAc_HA := GAc.2.2
  have l_GBc_HA := GBc.2.2
  have l_WA_HA := WA.lt
  have l_WB_HA := WB.lt
  have l_X_HA := X.lt
  have l_GA_HA := GA.lt
  have l_GB_HA := GB.lt
  have l_Y_HA := Y.lt
  have l_R_HA := R.far
  have n_HA := hB.size
  have l_K_HB := K.2.2
  have l_WAc_HB := WAc.2.2
  have l_WBc_HB := WBc.2.2
  have l_Xc_HB := Xc.2.2
  have l_GAc_HB := GAc.2.2
  have l_GBc_HB := GBc.2.2
  have l_WA_HB := WA.lt
  have l_WB_HB := WB.lt
  have l_X_HB := X.lt
  have l_GA_HB := GA.lt
  have l_GB_HB := GB.lt
  have l_Y_HB := Y.lt
  have l_R_HB := R.far
  have n_HB := hB.size
  refine (I.out _ _ _ Y.inRow).mono ?_
  rintro e w17 ⟨⟨avHA, cvHA, avHB, cvHB, rfl, HA, HB, sepHAHB⟩, hb17⟩
  clear K0 K2 WAc0 WAc2 WBc0 WBc2 Xc0 Xc2 GAc0 GAc2 GBc0 GBc2
  clear Y
  replace K := K.later hb17
  replace WAc := WAc.later hb17
  replace WBc := WBc.later hb17
  replace Xc := Xc.later hb17
  replace GAc := GAc.later hb17
  replace GBc := GBc.later hb17
  replace WA := WA.later hb17
  replace WB := WB.later hb17
  replace X := X.later hb17
  replace GA := GA.later hb17
  replace GB := GB.later hb17
  replace R := R.old hb17
  replace hB := old_trans hB hb17
  clear hb17
  have K0 := K.1
  have K2 := K.2.2
  have WAc0 := WAc.1
  have WAc2 := WAc.2.2
  have WBc0 := WBc.1
  have WBc2 := WBc.2.2
  have Xc0 := Xc.1
  have Xc2 := Xc.2.2
  have GAc0 := GAc.1
  have GAc2 := GAc.2.2
  have GBc0 := GBc.1
  have GBc2 := GBc.2.2
  have y_WA_HAc := WA.lt
  have y_WB_HAc := WB.lt
  have y_X_HAc := X.lt
  have y_GA_HAc := GA.lt
  have y_GB_HAc := GB.lt
  have y_HA_HAc := HA.lt
  have y_HB_HAc := HB.lt
  have y_WA_HBc := WA.lt
  have y_WB_HBc := WB.lt
  have y_X_HBc := X.lt
  have y_GA_HBc := GA.lt
  have y_GB_HBc := GB.lt
  have y_HA_HBc := HA.lt
  have y_HB_HBc := HB.lt
  clear K0 K2 WAc0 WAc2 WBc0 WBc2 Xc0 Xc2 GAc0 GAc2 GBc0 GBc2
  replace K := ((K.alloc (.cells #[.slice avHA qa.length cvHA] 28)).alloc (.cells #[.slice avHB qb.length cvHB] 28))
  replace WAc := ((WAc.alloc (.cells #[.slice avHA qa.length cvHA] 28)).alloc (.cells #[.slice avHB qb.length cvHB] 28))
  replace WBc := ((WBc.alloc (.cells #[.slice avHA qa.length cvHA] 28)).alloc (.cells #[.slice avHB qb.length cvHB] 28))
  replace Xc := ((Xc.alloc (.cells #[.slice avHA qa.length cvHA] 28)).alloc (.cells #[.slice avHB qb.length cvHB] 28))
  replace GAc := ((GAc.alloc (.cells #[.slice avHA qa.length cvHA] 28)).alloc (.cells #[.slice avHB qb.length cvHB] 28))
  replace GBc := ((GBc.alloc (.cells #[.slice avHA qa.length cvHA] 28)).alloc (.cells #[.slice avHB qb.length cvHB] 28))
  replace WA := ((WA.alloc (.cells #[.slice avHA qa.length cvHA] 28)).alloc (.cells #[.slice avHB qb.length cvHB] 28))
  replace WB := ((WB.alloc (.cells #[.slice avHA qa.length cvHA] 28)).alloc (.cells #[.slice avHB qb.length cvHB] 28))
  replace X := ((X.alloc (.cells #[.slice avHA qa.length cvHA] 28)).alloc (.cells #[.slice avHB qb.length cvHB] 28))
  replace GA := ((GA.alloc (.cells #[.slice avHA qa.length cvHA] 28)).alloc (.cells #[.slice avHB qb.length cvHB] 28))
  replace GB := ((GB.alloc (.cells #[.slice avHA qa.length cvHA] 28)).alloc (.cells #[.slice avHB qb.length cvHB] 28))
  replace HA := ((HA.alloc (.cells #[.slice avHA qa.length cvHA] 28)).alloc (.cells #[.slice avHB qb.length cvHB] 28))
  replace HB := ((HB.alloc (.cells #[.slice avHA qa.length cvHA] 28)).alloc (.cells #[.slice avHB qb.length cvHB] 28))
  replace R := ((R.alloc (.cells #[.slice avHA qa.length cvHA] 28)).alloc (.cells #[.slice avHB qb.length cvHB] 28))
  replace hB := old_alloc (old_alloc hB (.cells #[.slice avHA qa.length cvHA] 28)) (.cells #[.slice avHB qb.length cvHB] 28)
  have HAc : Cel1 ((w17.alloc (.cells #[.slice avHA qa.length cvHA] 28)).alloc (.cells #[.slice avHB qb.length cvHB] 28)) (w17.heap.size) (.slice avHA qa.length cvHA) := (Cel1.made w17 _ (by simp) _ _).alloc (.cells #[.slice avHB qb.length cvHB] 28)
  have HBc : Cel1 ((w17.alloc (.cells #[.slice avHA qa.length cvHA] 28)).alloc (.cells #[.slice avHB qb.length cvHB] 28)) (w17.heap.size + 1) (.slice avHB qb.length cvHB) := Cel1.made (w17.alloc (.cells #[.slice avHA qa.length cvHA] 28)) _ (by simp) _ _
  have K0 := K.1
  have K2 := K.2.2
  have WAc0 := WAc.1
  have WAc2 := WAc.2.2
  have WBc0 := WBc.1
  have WBc2 := WBc.2.2
  have Xc0 := Xc.1
  have Xc2 := Xc.2.2
  have GAc0 := GAc.1
  have GAc2 := GAc.2.2
  have GBc0 := GBc.1
  have GBc2 := GBc.2.2
  have HAc0 := HAc.1
  have HAc2 := HAc.2.2
  have HBc0 := HBc.1
  have HBc2 := HBc.2.2
  go_wp2_with fail
  clear K0 K2 WAc0 WAc2 WBc0 WBc2 Xc0 Xc2 GAc0 GAc2 GBc0 GBc2 HAc0 HAc2 HBc0 HBc2
  generalize ((w17.alloc (.cells #[.slice avHA qa.length cvHA] 28)).alloc (.cells #[.slice avHB qb.length cvHB] 28)) = V4 at *
  generalize hpHAc : w17.heap.size = pHAc at *
  generalize hpHBc : pHAc + 1 = pHBc at *
  have K0 := K.1
  have K2 := K.2.2
  have WAc0 := WAc.1
  have WAc2 := WAc.2.2
  have WBc0 := WBc.1
  have WBc2 := WBc.2.2
  have Xc0 := Xc.1
  have Xc2 := Xc.2.2
  have GAc0 := GAc.1
  have GAc2 := GAc.2.2
  have GBc0 := GBc.1
  have GBc2 := GBc.2.2
  have HAc0 := HAc.1
  have HAc2 := HAc.2.2
  have HBc0 := HBc.1
  have HBc2 := HBc.2.2
  refine (lEqO avHA avWA cvHA cvWA _ _ qa _ HA WA).mono ?_
  rintro e w18 ⟨rfl, hb18⟩
  clear K0 K2 WAc0 WAc2 WBc0 WBc2 Xc0 Xc2 GAc0 GAc2 GBc0 GBc2 HAc0 HAc2 HBc0 HBc2
  replace K := K.later hb18
  replace WAc := WAc.later hb18
  replace WBc := WBc.later hb18
  replace Xc := Xc.later hb18
  replace GAc := GAc.later hb18
  replace GBc := GBc.later hb18
  replace HAc := HAc.later hb18
  replace HBc := HBc.later hb18
  replace WA := WA.later hb18
  replace WB := WB.later hb18
  replace X := X.later hb18
  replace GA := GA.later hb18
  replace GB := GB.later hb18
  replace HA := HA.later hb18
  replace HB := HB.later hb18
  replace R := R.old hb18
  replace hB := old_trans hB hb18
  clear hb18
  have K0 := K.1
  have K2 := K.2.2
  have WAc0 := WAc.1
  have WAc2 := WAc.2.2
  have WBc0 := WBc.1
  have WBc2 := WBc.2.2
  have Xc0 := Xc.1
  have Xc2 := Xc.2.2
  have GAc0 := GAc.1
  have GAc2 := GAc.2.2
  have GBc0 := GBc.1
  have GBc2 := GBc.2.2
  have HAc0 := HAc.1
  have HAc2 := HAc.2.2
  have HBc0 := HBc.1
  have HBc2 := HBc.2.2
  go_wp2_with fail
  refine (lEqO avHB avWB cvHB cvWB _ _ qb _ HB WB).mono ?_
  rintro e w19 ⟨rfl, hb19⟩
  clear K0 K2 WAc0 WAc2 WBc0 WBc2 Xc0 Xc2 GAc0 GAc2 GBc0 GBc2 HAc0 HAc2 HBc0 HBc2
  replace K := K.later hb19
  replace WAc := WAc.later hb19
  replace WBc := WBc.later hb19
  replace Xc := Xc.later hb19
  replace GAc := GAc.later hb19
  replace GBc := GBc.later hb19
  replace HAc := HAc.later hb19
  replace HBc := HBc.later hb19
  replace WA := WA.later hb19
  replace WB := WB.later hb19
  replace X := X.later hb19
  replace GA := GA.later hb19
  replace GB := GB.later hb19
  replace HA := HA.later hb19
  replace HB := HB.later hb19
  replace R := R.old hb19
  replace hB := old_trans hB hb19
  clear hb19
  have K0 := K.1
  have K2 := K.2.2
  have WAc0 := WAc.1
  have WAc2 := WAc.2.2
  have WBc0 := WBc.1
  have WBc2 := WBc.2.2
  have Xc0 := Xc.1
  have Xc2 := Xc.2.2
  have GAc0 := GAc.1
  have GAc2 := GAc.2.2
  have GBc0 := GBc.1
  have GBc2 := GBc.2.2
  have HAc0 := HAc.1
  have HAc2 := HAc.2.2
  have HBc0 := HBc.1
  have HBc2 := HBc.2.2
  go_wp2_with fail
  refine (lHeldO _ avGA cvGA qa.length (1) _ GA hqa (by omega) (by omega)).mono ?_
  rintro e w20 ⟨rfl, hb20⟩
  clear K0 K2 WAc0 WAc2 WBc0 WBc2 Xc0 Xc2 GAc0 GAc2 GBc0 GBc2 HAc0 HAc2 HBc0 HBc2
  replace K := K.later hb20
  replace WAc := WAc.later hb20
  replace WBc := WBc.later hb20
  replace Xc := Xc.later hb20
  replace GAc := GAc.later hb20
  replace GBc := GBc.later hb20
  replace HAc := HAc.later hb20
  replace HBc := HBc.later hb20
  replace WA := WA.later hb20
  replace WB := WB.later hb20
  replace X := X.later hb20
  replace GA := GA.later hb20
  replace GB := GB.later hb20
  replace HA := HA.later hb20
  replace HB := HB.later hb20
  replace R := R.old hb20
  replace hB := old_trans hB hb20
  clear hb20
  have K0 := K.1
  have K2 := K.2.2
  have WAc0 := WAc.1
  have WAc2 := WAc.2.2
  have WBc0 := WBc.1
  have WBc2 := WBc.2.2
  have Xc0 := Xc.1
  have Xc2 := Xc.2.2
  have GAc0 := GAc.1
  have GAc2 := GAc.2.2
  have GBc0 := GBc.1
  have GBc2 := GBc.2.2
  have HAc0 := HAc.1
  have HAc2 := HAc.2.2
  have HBc0 := HBc.1
  have HBc2 := HBc.2.2
  go_wp2_with fail
  refine (lHeldO _ avGB cvGB qb.length (1 + 2 * (qa.length : Int)) _ GB hqb (by omega) (by omega)).mono ?_
  rintro e w21 ⟨rfl, hb21⟩
  clear K0 K2 WAc0 WAc2 WBc0 WBc2 Xc0 Xc2 GAc0 GAc2 GBc0 GBc2 HAc0 HAc2 HBc0 HBc2
  replace K := K.later hb21
  replace WAc := WAc.later hb21
  replace WBc := WBc.later hb21
  replace Xc := Xc.later hb21
  replace GAc := GAc.later hb21
  replace GBc := GBc.later hb21
  replace HAc := HAc.later hb21
  replace HBc := HBc.later hb21
  replace WA := WA.later hb21
  replace WB := WB.later hb21
  replace X := X.later hb21
  replace GA := GA.later hb21
  replace GB := GB.later hb21
  replace HA := HA.later hb21
  replace HB := HB.later hb21
  replace R := R.old hb21
  replace hB := old_trans hB hb21
  clear hb21
  have K0 := K.1
  have K2 := K.2.2
  have WAc0 := WAc.1
  have WAc2 := WAc.2.2
  have WBc0 := WBc.1
  have WBc2 := WBc.2.2
  have Xc0 := Xc.1
  have Xc2 := Xc.2.2
  have GAc0 := GAc.1
  have GAc2 := GAc.2.2
  have GBc0 := GBc.1
  have GBc2 := GBc.2.2
  have HAc0 := HAc.1
  have HAc2 := HAc.2.2
  have HBc0 := HBc.1
  have HBc2 := HBc.2.2
  go_wp2
  go_ret
  exact ⟨rfl, hB⟩

set_option maxRecDepth 100000 in
theorem FnExactBoxSplit_lifted (os : Os) (started : os.Started) (H : Type) (enc : TypeId × Value → H) :
    ReturnsInHanded {} Try.checked os 3 .any (Rows.fnExactBoxSplitSpec.pre6 enc Try.prog Try.f3 Rows.fnExactBoxSplitRow.domain false) (Rows.fnExactBoxSplitSpec.post enc Try.prog Try.f3 false true false false) := by
  refine returnsInHanded_of_change (C := Try.checked) FnExactBoxSplit_own started (by kernel_rfl) Try.func3
    (ChangeSpec.witness6 (enc := enc) (C := Try.checked) false ⟨#[], #[.int .i64 0, .agg #[.slice none 0 0], .int .i64 0], []⟩ 8 (by kernel_rfl) (by kernel_rfl) (by kernel_rfl) (by kernel_rfl)) ?_
  intro W base args ds gs before hval0 hW hcnd _
  have hval : ∀ (j : Nat) t v, Try.f3.params[j]? = some t → args[j]? = some v → Value.okWide Try.prog W .any base t v := hval0
  have hW' := hW
  obtain ⟨p, q, hA0, hV, rfl, hfz, hnd⟩ := hW
  have hA : DataW.TrodAll enc Try.prog W 0 (fun _ => true) true Try.f3.params.toList args.toList ds p := hA0
  rw [Try.params3] at hA hval
  obtain ⟨v0, vs0, d0, ds0, p0, q0, hargs, rfl, rfl, h0, r0⟩ := trodAll_cons hA
  obtain ⟨v1, vs1, d1, ds1, p1, q1, rfl, rfl, rfl, h1, r1⟩ := trodAll_cons r0
  obtain ⟨v2, vs2, d2, ds2, p2, q2, rfl, rfl, rfl, h2, r2⟩ := trodAll_cons r1
  obtain ⟨rfl, rfl, rfl⟩ := trodAll_nil r2
  obtain rfl : args = #[v0, v1, v2] := by cases args; simp_all
  obtain ⟨rfl, rfl⟩ := trodVars_none hV
  have k0 := h0
  have lt0 : ∀ x ∈ p0, x.block < W.heap.size := by obtain ⟨m, hm⟩ := k0; exact DataW.trod_lt m _ _ _ hm
  obtain ⟨a0, rfl, -, -, wf0⟩ := open_int Try.underlying3 (hval 0 3 v0 rfl rfl) h0
  have wa0 := bounds_i64 wf0
  have k1 := h1
  have lt1 : ∀ x ∈ p1, x.block < W.heap.size := by obtain ⟨m, hm⟩ := k1; exact DataW.trod_lt m _ _ _ hm
  obtain ⟨a1, len1, cap1, ps1, rfl, wb1⟩ := open_lbox (hval 1 24 v1 rfl rfl) h1
  have k2 := h2
  have lt2 : ∀ x ∈ p2, x.block < W.heap.size := by obtain ⟨m, hm⟩ := k2; exact DataW.trod_lt m _ _ _ hm
  obtain ⟨a2, rfl, -, -, wf2⟩ := open_int Try.underlying3 (hval 2 3 v2 rfl rfl) h2
  have wa2 := bounds_i64 wf2
  clear hA0 hval0
  refine (FnExactBoxSplit_walk a0 wa0 a1 len1 cap1 ps1 a2 wa2 W wb1).mono fun e W' ⟨he, bel⟩ => ?_
  subst he
  exact ⟨_, rfl, _, _, _, [], _, [], hW', trodAll_mk1 (shut_bool Try.underlying4 _), (trodAll_cons_mk (Below.trod jf1 (by kernel_rfl) (of_decide_eq_true (by kernel_rfl)) k0 bel lt0) (trodAll_cons_mk (Below.trod jf1 (by kernel_rfl) (of_decide_eq_true (by kernel_rfl)) k1 bel lt1) (trodAll_cons_mk (Below.trod jf1 (by kernel_rfl) (of_decide_eq_true (by kernel_rfl)) k2 bel lt2) trodAll_mk0))), rfl, bel.frame _, fun h => by cases h⟩

theorem FnExactBoxSplit_k0 : (Rows.fnExactBoxSplitRow.wf (OpenSpec.ofChange Rows.fnExactBoxSplitSpec)) = true := by kernel_rfl
theorem FnExactBoxSplit_k3 : (Try.f3.params.all (Try.prog.readableRec ·)) = true := by kernel_rfl
theorem FnExactBoxSplit_k4 : (namedTie Try.prog Rows.fnExactBoxSplitRow.named Rows.fnExactBoxSplitSpec.vars) = true := by kernel_rfl
theorem FnExactBoxSplit_k5 : ((Rows.fnExactBoxSplitRow.stops == [])) = true := by kernel_rfl
theorem FnExactBoxSplit_k7 : ((Rows.fnExactBoxSplitRow.knobs == [])) = true := by kernel_rfl
theorem FnExactBoxSplit_k9 : ((Rows.fnExactBoxSplitRow.inPlace == Try.prog.inPlace 3)) = true := by kernel_rfl
theorem FnExactBoxSplit_k10 : ((Rows.fnExactBoxSplitRow.unfollowed == Try.prog.unfollowed 3)) = true := by kernel_rfl
theorem FnExactBoxSplit_k11 : ((Rows.fnExactBoxSplitRow.recurses == Try.prog.recurses 3)) = true := by kernel_rfl
theorem FnExactBoxSplit_k12 : ((Rows.fnExactBoxSplitRow.named == Try.prog.varsNamed 3)) = true := by kernel_rfl
theorem FnExactBoxSplit_k13 : ((Rows.fnExactBoxSplitRow.maps == (Try.f3.params.toList ++ Rows.fnExactBoxSplitSpec.plain.varTypes Try.prog).any (Try.prog.mapsRec ·))) = true := by kernel_rfl
theorem FnExactBoxSplit_k14 : ((Rows.fnExactBoxSplitRow.ifaces == (Try.f3.params.toList ++ Rows.fnExactBoxSplitSpec.plain.varTypes Try.prog).any (Try.prog.ifacesRec ·))) = true := by kernel_rfl
theorem FnExactBoxSplit_k15 : ((Rows.fnExactBoxSplitRow.mapsOut == Try.prog.mapsAmong Try.f3.resultTypes.toList)) = true := by kernel_rfl
theorem FnExactBoxSplit_k16 : ((Rows.fnExactBoxSplitRow.loops == (Try.f3.params.toList ++ Rows.fnExactBoxSplitSpec.plain.varTypes Try.prog).any (Try.prog.loopsFrom ·))) = true := by kernel_rfl
theorem FnExactBoxSplit_k17 : ((Rows.fnExactBoxSplitRow.wideKeys == (Try.f3.params.toList ++ Rows.fnExactBoxSplitSpec.plain.varTypes Try.prog ++ Try.f3.resultTypes.toList).any (Try.prog.wideKeysFrom ·))) = true := by kernel_rfl
theorem FnExactBoxSplit_k18 : (Rows.fnExactBoxSplitSpec.vars.all (Try.prog.varReadable ·)) = true := by kernel_rfl
theorem FnExactBoxSplit_k19 : (Try.f3.resultTypes.all (fun t => Try.prog.readableRec t && decide (t < Try.prog.types.size))) = true := by kernel_rfl
theorem FnExactBoxSplit_k20 : ((Rows.fnExactBoxSplitRow.ifacesOut == Try.f3.resultTypes.toList.any (Try.prog.ifacesRec ·))) = true := by kernel_rfl
theorem FnExactBoxSplit_k21 : ((Rows.fnExactBoxSplitRow.loopsOut == Try.f3.resultTypes.toList.any (Try.prog.loopsFrom ·))) = true := by kernel_rfl
theorem FnExactBoxSplit_k23 : (Rows.fnExactBoxSplitRow.shortTexts.isNone) = true := by kernel_rfl
theorem FnExactBoxSplit_k28 : ((Rows.fnExactBoxSplitRow.kinds == (if Rows.fnExactBoxSplitRow.domain.isEmpty then [] else Try.f3.params.toList.map fun t => match Try.prog.underlying t with | some (.int k) => some k | _ => none))) = true := by kernel_rfl
theorem FnExactBoxSplit_k29 : ((Rows.fnExactBoxSplitRow.pinned == Rows.fnExactBoxSplitRow.pinnedBy)) = true := by kernel_rfl
theorem FnExactBoxSplit_k30 : ((Rows.fnExactBoxSplitRow.veiled == (Try.f3.params.toList ++ Rows.fnExactBoxSplitSpec.plain.varTypes Try.prog ++ Try.f3.resultTypes.toList).any (Try.prog.veiledRec ·))) = true := by kernel_rfl
theorem FnExactBoxSplit_k31 : (Rows.fnExactBoxSplitRow.veiledFits Try.prog Try.f3.params.toList (Try.f3.params.toList ++ Rows.fnExactBoxSplitSpec.plain.varTypes Try.prog ++ Try.f3.resultTypes.toList)) = true := by kernel_rfl
set_option maxRecDepth 100000 in
theorem FnExactBoxSplit_closed : joinedFacts Try.prog 3 Try.f3 Rows.fnExactBoxSplitSpec Rows.fnExactBoxSplitRow = true := (and2 (and2 (and2 (and2 (and2 (and2 (and2 (and2 (and2 (and2 (and2 (and2 (and2 (and2 (and2 (and2 (and2 (and2 (and2 (and2 (and2 (and2 (and2 (and2 (and2 (and2 (and2 (and2 (and2 (and2 (and2 FnExactBoxSplit_k0 jf1) jf2) FnExactBoxSplit_k3) FnExactBoxSplit_k4) FnExactBoxSplit_k5) jf6) FnExactBoxSplit_k7) jf8) FnExactBoxSplit_k9) FnExactBoxSplit_k10) FnExactBoxSplit_k11) FnExactBoxSplit_k12) FnExactBoxSplit_k13) FnExactBoxSplit_k14) FnExactBoxSplit_k15) FnExactBoxSplit_k16) FnExactBoxSplit_k17) FnExactBoxSplit_k18) FnExactBoxSplit_k19) FnExactBoxSplit_k20) FnExactBoxSplit_k21) jf22) FnExactBoxSplit_k23) jf24) jf25) jf26) jf27) FnExactBoxSplit_k28) FnExactBoxSplit_k29) FnExactBoxSplit_k30) FnExactBoxSplit_k31)
theorem FnExactBoxSplit_over : Rows.fnExactBoxSplitRow.holds Try.pinned (OpenSpec.ofChange Rows.fnExactBoxSplitSpec) :=
  OpenClaim.holds_of_wide 3 Try.f3 rfl rfl rfl rfl rfl rfl rfl ⟨rfl, rfl, rfl, rfl, rfl⟩ rfl rfl rfl rfl rfl (by kernel_rfl) Try.func3 FnExactBoxSplit_closed
    (of_decide_eq_true (by kernel_rfl)) (by unfold Func.isWrapper; first | (rw [if_pos (by decide +kernel)]; kernel_rfl) | (rw [if_neg (by decide +kernel)]; exact ⟨rfl, rfl⟩))
    (fun os started H enc _ => FnExactBoxSplit_lifted os started H enc)

theorem FnExactBoxSplit_proved : Rows.FnExactBoxSplitSaid := FnExactBoxSplit_over
end Go.Proofs.Ytmofapcoaolndaa
