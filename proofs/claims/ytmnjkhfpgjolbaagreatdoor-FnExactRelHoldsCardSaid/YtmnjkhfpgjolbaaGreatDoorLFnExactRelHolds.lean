/- The program's RelHolds answers as the specification's RelHolds at every argument; it writes into no argument, and what it answers is its own. Condition: the library's tables and its handle of errors hold what their texts lay (the card ties them). -/
import Derived.Test.YtmnjkhfpgjolbaaGreatDoorRows
import Derived.Test.YtmnjkhfpgjolbaaGreatDoorTie
import Derived.Test.YtmnjkhfpgjolbaaGreatDoorCards
import Derived.WalkKit
import Derived.ProofKit
import Derived.OpenShut
import Derived.Below
import Derived.Carry
import Derived.Test.YtmnjkhfpgjolbaaGreatDoorN0
import Derived.Test.YtmnjkhfpgjolbaaGreatDoorLH
import Derived.Test.YtmnjkhfpgjolbaaGreatDoorFL
import Derived.Test.YtmnjkhfpgjolbaaGreatDoorFI
import Derived.Test.YtmnjkhfpgjolbaaGreatDoorRH
import Derived.Test.YtmnjkhfpgjolbaaGreatDoorBJ
namespace Go.Proofs.YtmnjkhfpgjolbaaGreatDoor
open Go.ChangeShapes Go.WideShapes Go.ChangeAt Go.RowKit
set_option linter.unusedVariables false
set_option maxRecDepth 100000

set_option maxRecDepth 100000 in
set_option maxHeartbeats 16000000 in
theorem FnExactRelHolds_walk (rl : Int) (b0 : Bool) (a0 : Option Addr) (len0 cap0 : Nat) (xs0 : List Int) (a0' : Option Addr) (len0' cap0' : Nat) (ys0 : List Int) (b1 : Bool) (a1 : Option Addr) (len1 cap1 : Nat) (xs1 : List Int) (a1' : Option Addr) (len1' cap1' : Nat) (ys1 : List Int) (w : World) (wb0 : InI w a0 len0 cap0 xs0) (wb0' : InI w a0' len0' cap0' ys0) (wb1 : InI w a1 len1 cap1 xs1) (wb1' : InI w a1' len1' cap1' ys1) (hT : Tab w ∧ ET w) :
    Calls Tryz.prog 3 #[.int .i64 rl, .agg #[.bool b0, .slice a0 len0 cap0, .slice a0' len0' cap0'], .agg #[.bool b1, .slice a1 len1 cap1, .slice a1' len1' cap1']] w fun e w' => e = .returned (.bool true) ∧ Below w.heap.size w w' := by
  obtain rfl := wb0.1
  obtain rfl := wb0'.1
  have hlen0 : xs0.length ≤ maxLen := Nat.le_trans wb0.2.1 wb0.2.2.1
  have hlen0' : ys0.length ≤ maxLen := Nat.le_trans wb0'.2.1 wb0'.2.2.1
  obtain rfl := wb1.1
  obtain rfl := wb1'.1
  have hlen1 : xs1.length ≤ maxLen := Nat.le_trans wb1.2.1 wb1.2.2.1
  have hlen1' : ys1.length ≤ maxLen := Nat.le_trans wb1'.2.1 wb1'.2.2.1
  have SZ := hd (fun w' => lSzFrac b0 a0 a0' xs0.length ys0.length cap0 cap0' 1048576 w' hlen0 hlen0' (by omega) (by omega))
  unfold szF at SZ
  have e00 : Below w.heap.size w ((w.alloc (.cells #[.bool b0, .slice a0 xs0.length cap0, .slice a0' ys0.length cap0'] 24)).alloc (.cells #[.bool b1, .slice a1 xs1.length cap1, .slice a1' ys1.length cap1'] 24)) := (by repeat (first | exact Below.refl _ _ | refine Below.drew ?_ | refine old_alloc ?_ _ | refine old_trans ?_ (by assumption)))
  by_cases c : (xs0.length : Int) + ys0.length ≤ 1048576
  case neg =>
    rw [if_neg c] at SZ
    go_enter Tryz.func3, Tryz.ntmps3
    go_wp2_with fail
    refine (SZ.out _).mono ?_
    rintro e w1 ⟨rfl, hb1⟩
    go_wp2
    go_ret
    exact ⟨rfl, old_trans e00 hb1⟩
  rw [if_pos c] at SZ
  have hl0 : xs0.length ≤ 1048576 := by omega
  have hl0' : ys0.length ≤ 1048576 := by omega
  have c' : ¬ (1048576 - (xs0.length : Int) - (ys0.length : Int) < 0) := by omega
  have SY := hd (fun w' => lSzFrac b1 a1 a1' xs1.length ys1.length cap1 cap1' (1048576 - (xs0.length : Int) - (ys0.length : Int)) w' hlen1 hlen1' (by omega) (by omega))
  unfold szF at SY
  have KA := (Cel3.new w (.bool b0) (.slice a0 xs0.length cap0) (.slice a0' ys0.length cap0') 24).old (old_alloc (Below.refl _ _) (.cells #[.bool b1, .slice a1 xs1.length cap1, .slice a1' ys1.length cap1'] 24))
  have KB := Cel3.new (w.alloc (.cells #[.bool b0, .slice a0 xs0.length cap0, .slice a0' ys0.length cap0'] 24)) (.bool b1) (.slice a1 xs1.length cap1) (.slice a1' ys1.length cap1') 24
  simp only [World.size_alloc] at KB
  by_cases c1 : (xs1.length : Int) + ys1.length ≤ 1048576 - (xs0.length : Int) - (ys0.length : Int)
  case neg =>
    rw [if_neg c1] at SY
    go_enter Tryz.func3, Tryz.ntmps3
    go_wp2_with fail
    refine (SZ.out _).mono ?_
    rintro e w1 ⟨rfl, hb1⟩
    obtain ⟨k1, ⟨k2, k3, k4⟩, -⟩ := KB.old hb1
    go_wp2_with fail
    refine (SY.out _).mono ?_
    rintro e w2 ⟨rfl, hb2⟩
    go_wp2
    go_ret
    exact ⟨rfl, old_trans (old_trans e00 hb1) hb2⟩
  rw [if_pos c1] at SY
  have hl1 : xs1.length ≤ 1048576 := by omega
  have hl1' : ys1.length ≤ 1048576 := by omega
  have c1' : ¬ (1048576 - (xs0.length : Int) - (ys0.length : Int) - (xs1.length : Int) - (ys1.length : Int) < 0) := by omega
  have S := hd (fun a b la lb ca cb c d lc ld cc cd w (h1 : InI w a la ca xs0) (h2 : InI w b lb cb ys0) (h3 : InI w c lc cc xs1) (h4 : InI w d ld cd ys1) => sRelHolds rl b0 a b la lb ca cb xs0 ys0 b1 c d lc ld cc cd xs1 ys1 w h1 h2 h3 h4)
  have I := hd (fun a b la lb ca cb c d lc ld cc cd w (h1 : InI w a la ca xs0) (h2 : InI w b lb cb ys0) (h3 : InI w c lc cc xs1) (h4 : InI w d ld cd ys1) (hT : Tab w ∧ ET w) => iRelHolds rl b0 a b la lb ca cb xs0 ys0 b1 c d lc ld cc cd xs1 ys1 w h1 h2 h3 h4 hT.1 hT.2)
  generalize relH rl (cmpF (fracOk b0 xs0 ys0 && fracOk b1 xs1 ys1) (sumS b0 (!b1) (val xs0 * val ys1) (val xs1 * val ys0)) (sumN b0 (!b1) (val xs0 * val ys1) (val xs1 * val ys0))) = r at *
  have hTT := hd (fun (w' : World) (h : Below w.heap.size w w') => (⟨hT.1.old h, hT.2.old h⟩ : Tab w' ∧ ET w'))
  have hB := e00
  have R0 := wb0.old hB
  have R0' := wb0'.old hB
  have R1 := wb1.old hB
  have R1' := wb1'.old hB
  clear hT wb0 wb0' wb1 wb1' hlen0 hlen0' hlen1 hlen1' c c1 e00
  go_enter Tryz.func3, Tryz.ntmps3
  obtain ⟨KAa, ⟨KAb, KAc, KAd⟩, -⟩ := id KA
  obtain ⟨KBa, ⟨KBb, KBc, KBd⟩, -⟩ := id KB
  go_wp2_with fail
  refine (SZ.out _).mono ?_
  rintro e w1 ⟨rfl, hb1⟩
  clear KAa KAb KAc KAd KBa KBb KBc KBd
  replace R0 := R0.old hb1
  replace R0' := R0'.old hb1
  replace R1 := R1.old hb1
  replace R1' := R1'.old hb1
  replace KA := KA.old hb1
  replace KB := KB.old hb1
  replace hB := old_trans hB hb1
  clear hb1
  obtain ⟨KAa, ⟨KAb, KAc, KAd⟩, -⟩ := id KA
  obtain ⟨KBa, ⟨KBb, KBc, KBd⟩, -⟩ := id KB
  go_wp2_with fail
  refine (SY.out _).mono ?_
  rintro e w2 ⟨rfl, hb2⟩
  clear KAa KAb KAc KAd KBa KBb KBc KBd
  replace R0 := R0.old hb2
  replace R0' := R0'.old hb2
  replace R1 := R1.old hb2
  replace R1' := R1'.old hb2
  replace KA := KA.old hb2
  replace KB := KB.old hb2
  replace hB := old_trans hB hb2
  clear hb2
  obtain ⟨KAa, ⟨KAb, KAc, KAd⟩, -⟩ := id KA
  obtain ⟨KBa, ⟨KBb, KBc, KBd⟩, -⟩ := id KB
  have hc0_3 : w2.cell? ⟨w.heap.size, 0, none⟩ = some (.bool b0) ∧ w2.cell? ⟨w.heap.size, 1, none⟩ = some (.slice a0 xs0.length cap0) ∧ w2.cell? ⟨w.heap.size, 2, none⟩ = some (.slice a0' ys0.length cap0') ∧ w2.cell? ⟨w.heap.size + 1, 0, none⟩ = some (.bool b1) ∧ w2.cell? ⟨w.heap.size + 1, 1, none⟩ = some (.slice a1 xs1.length cap1) ∧ w2.cell? ⟨w.heap.size + 1, 2, none⟩ = some (.slice a1' ys1.length cap1') := ⟨KAb, KAc, KAd, KBb, KBc, KBd⟩
  have TF0_3 := hd (fun w' (hS : w'.cell? ⟨w.heap.size, 0, none⟩ = some (.bool b0) ∧ w'.cell? ⟨w.heap.size, 1, none⟩ = some (.slice a0 xs0.length cap0) ∧ w'.cell? ⟨w.heap.size, 2, none⟩ = some (.slice a0' ys0.length cap0') ∧ w'.cell? ⟨w.heap.size + 1, 0, none⟩ = some (.bool b1) ∧ w'.cell? ⟨w.heap.size + 1, 1, none⟩ = some (.slice a1 xs1.length cap1) ∧ w'.cell? ⟨w.heap.size + 1, 2, none⟩ = some (.slice a1' ys1.length cap1')) (h : Below w2.heap.size w2 w') => (toFracO b0 a0 a0' cap0 cap0' xs0 ys0 w' (R0.old h) (R0'.old h) hl0 hl0').mono (fun e w'' (k : _ ∧ _) => (⟨k, six_old hS k.2⟩ : (_ ∧ _) ∧ (w''.cell? ⟨w.heap.size, 0, none⟩ = some (.bool b0) ∧ w''.cell? ⟨w.heap.size, 1, none⟩ = some (.slice a0 xs0.length cap0) ∧ w''.cell? ⟨w.heap.size, 2, none⟩ = some (.slice a0' ys0.length cap0') ∧ w''.cell? ⟨w.heap.size + 1, 0, none⟩ = some (.bool b1) ∧ w''.cell? ⟨w.heap.size + 1, 1, none⟩ = some (.slice a1 xs1.length cap1) ∧ w''.cell? ⟨w.heap.size + 1, 2, none⟩ = some (.slice a1' ys1.length cap1')))))
  have TF1_3 := hd (fun w' (hS : w'.cell? ⟨w.heap.size, 0, none⟩ = some (.bool b0) ∧ w'.cell? ⟨w.heap.size, 1, none⟩ = some (.slice a0 xs0.length cap0) ∧ w'.cell? ⟨w.heap.size, 2, none⟩ = some (.slice a0' ys0.length cap0') ∧ w'.cell? ⟨w.heap.size + 1, 0, none⟩ = some (.bool b1) ∧ w'.cell? ⟨w.heap.size + 1, 1, none⟩ = some (.slice a1 xs1.length cap1) ∧ w'.cell? ⟨w.heap.size + 1, 2, none⟩ = some (.slice a1' ys1.length cap1')) (h : Below w2.heap.size w2 w') => (toFracO b1 a1 a1' cap1 cap1' xs1 ys1 w' (R1.old h) (R1'.old h) hl1 hl1').mono (fun e w'' (k : _ ∧ _) => (⟨k, six_old hS k.2⟩ : (_ ∧ _) ∧ (w''.cell? ⟨w.heap.size, 0, none⟩ = some (.bool b0) ∧ w''.cell? ⟨w.heap.size, 1, none⟩ = some (.slice a0 xs0.length cap0) ∧ w''.cell? ⟨w.heap.size, 2, none⟩ = some (.slice a0' ys0.length cap0') ∧ w''.cell? ⟨w.heap.size + 1, 0, none⟩ = some (.bool b1) ∧ w''.cell? ⟨w.heap.size + 1, 1, none⟩ = some (.slice a1 xs1.length cap1) ∧ w''.cell? ⟨w.heap.size + 1, 2, none⟩ = some (.slice a1' ys1.length cap1')))))
  have CT_3 := hd (fun a b ca cb c d cc cd w' (hS : w'.cell? ⟨w.heap.size, 0, none⟩ = some (.bool b0) ∧ w'.cell? ⟨w.heap.size, 1, none⟩ = some (.slice a0 xs0.length cap0) ∧ w'.cell? ⟨w.heap.size, 2, none⟩ = some (.slice a0' ys0.length cap0') ∧ w'.cell? ⟨w.heap.size + 1, 0, none⟩ = some (.bool b1) ∧ w'.cell? ⟨w.heap.size + 1, 1, none⟩ = some (.slice a1 xs1.length cap1) ∧ w'.cell? ⟨w.heap.size + 1, 2, none⟩ = some (.slice a1' ys1.length cap1')) (h : Below w2.heap.size w2 w') (h1 : InI w' a xs0.length ca xs0) (h2 : InI w' b ys0.length cb ys0) (h3 : InI w' c xs1.length cc xs1) (h4 : InI w' d ys1.length cd ys1) => (S.out _ _ _ _ _ _ _ _ _ _ _ _ _ h1 h2 h3 h4).mono (fun e w'' (k : _ ∧ _) => (⟨k, six_old hS k.2⟩ : (_ ∧ _) ∧ (w''.cell? ⟨w.heap.size, 0, none⟩ = some (.bool b0) ∧ w''.cell? ⟨w.heap.size, 1, none⟩ = some (.slice a0 xs0.length cap0) ∧ w''.cell? ⟨w.heap.size, 2, none⟩ = some (.slice a0' ys0.length cap0') ∧ w''.cell? ⟨w.heap.size + 1, 0, none⟩ = some (.bool b1) ∧ w''.cell? ⟨w.heap.size + 1, 1, none⟩ = some (.slice a1 xs1.length cap1) ∧ w''.cell? ⟨w.heap.size + 1, 2, none⟩ = some (.slice a1' ys1.length cap1')))))
  go_upto_region 8 with fail
  go_cut [8] (fun s wx => s = .bool r ∧ Below w2.heap.size w2 wx)
  case first =>
    go_wp2_with fail
    go_region_held3 (fun w' => w'.cell? ⟨w.heap.size, 0, none⟩ = some (.bool b0) ∧ w'.cell? ⟨w.heap.size, 1, none⟩ = some (.slice a0 xs0.length cap0) ∧ w'.cell? ⟨w.heap.size, 2, none⟩ = some (.slice a0' ys0.length cap0') ∧ w'.cell? ⟨w.heap.size + 1, 0, none⟩ = some (.bool b1) ∧ w'.cell? ⟨w.heap.size + 1, 1, none⟩ = some (.slice a1 xs1.length cap1) ∧ w'.cell? ⟨w.heap.size + 1, 2, none⟩ = some (.slice a1' ys1.length cap1')) (go_keep) (first | (go_at_call_of 6 (Value.agg #[.bool b0, .slice a0 xs0.length cap0, .slice a0' ys0.length cap0']); refine (TF0_3.out _ (by assumption) (by repeat (first | exact Below.refl _ _ | assumption | refine Below.drew ?_ | refine old_alloc ?_ _ | refine old_trans ?_ (by assumption)))).mono ?_; rintro e wx0 ⟨⟨⟨avPa, cvPa, avPa', cvPa', rfl, Pa, Pa', -⟩, hbx0⟩, hcx⟩) | (go_at_call_of 6 (Value.agg #[.bool b1, .slice a1 xs1.length cap1, .slice a1' ys1.length cap1']); refine (TF1_3.out _ (by assumption) (by repeat (first | exact Below.refl _ _ | assumption | refine Below.drew ?_ | refine old_alloc ?_ _ | refine old_trans ?_ (by assumption)))).mono ?_; rintro e wx1 ⟨⟨⟨avPb, cvPb, avPb', cvPb', rfl, Pb, Pb', -⟩, hbx1⟩, hcx⟩) | (go_at_call 5; refine (CT_3.out _ _ _ _ _ _ _ _ _ (by assumption) (by repeat (first | exact Below.refl _ _ | assumption | refine Below.drew ?_ | refine old_alloc ?_ _ | refine old_trans ?_ (by assumption))) (by with_reducible first | exact Pa.inI | exact (Pa.later hbx1).inI | exact (Pa.later hbx0).inI) (by with_reducible first | exact Pa'.inI | exact (Pa'.later hbx1).inI | exact (Pa'.later hbx0).inI) (by with_reducible first | exact Pb.inI | exact (Pb.later hbx1).inI | exact (Pb.later hbx0).inI) (by with_reducible first | exact Pb'.inI | exact (Pb'.later hbx1).inI | exact (Pb'.later hbx0).inI)).mono ?_; rintro e wx2 ⟨⟨rfl, hbx2⟩, hcx⟩))
    all_goals
      go_wp2_with fail
      go_meet
      exact ⟨rfl, (by repeat (first | exact Below.refl _ _ | assumption | refine Below.drew ?_ | refine old_alloc ?_ _ | refine old_trans ?_ (by assumption)))⟩
  case rest =>
    clear KAa KAb KAc KAd KBa KBb KBc KBd
    obtain ⟨w3, hw3⟩ : ∃ x, x = wc := ⟨_, rfl⟩
    subst hw3
    obtain ⟨rfl, hb3⟩ := hcut
    clear hc0_3 TF0_3 TF1_3 CT_3
    replace R0 := R0.old hb3
    replace R0' := R0'.old hb3
    replace R1 := R1.old hb3
    replace R1' := R1'.old hb3
    replace KA := KA.old hb3
    replace KB := KB.old hb3
    replace hB := old_trans hB hb3
    clear hb3
    obtain ⟨KAa, ⟨KAb, KAc, KAd⟩, -⟩ := id KA
    obtain ⟨KBa, ⟨KBb, KBc, KBd⟩, -⟩ := id KB
    have l_R0_X := R0.far
    have l_R0'_X := R0'.far
    have l_R1_X := R1.far
    have l_R1'_X := R1'.far
    have l_KA_X := KA.1
    have l_KB_X := KB.1
    have n_X := hB.size
    have l_R0_X' := R0.far
    have l_R0'_X' := R0'.far
    have l_R1_X' := R1.far
    have l_R1'_X' := R1'.far
    have l_KA_X' := KA.1
    have l_KB_X' := KB.1
    have n_X' := hB.size
    go_wp2_with fail
    refine (toFracO b0 a0 a0' cap0 cap0' xs0 ys0 _ R0 R0' hl0 hl0').mono ?_
    rintro e w4 ⟨⟨avX, cvX, avX', cvX', rfl, X, X', sX⟩, hb4⟩
    clear KAa KAb KAc KAd KBa KBb KBc KBd
    replace R0 := R0.old hb4
    replace R0' := R0'.old hb4
    replace R1 := R1.old hb4
    replace R1' := R1'.old hb4
    replace KA := KA.old hb4
    replace KB := KB.old hb4
    replace hB := old_trans hB hb4
    clear hb4
    obtain ⟨KAa, ⟨KAb, KAc, KAd⟩, -⟩ := id KA
    obtain ⟨KBa, ⟨KBb, KBc, KBd⟩, -⟩ := id KB
    clear KAa KAb KAc KAd KBa KBb KBc KBd
    have y_X_KX := X.lt
    have y_X'_KX := X'.lt
    have KX_ := Cel3.new w4 (.bool b0) (.slice avX xs0.length cvX) (.slice avX' ys0.length cvX') 27
    have halKX : Below w4.heap.size w4 (w4.alloc (.cells #[.bool b0, .slice avX xs0.length cvX, .slice avX' ys0.length cvX'] 27)) := old_alloc (Below.refl _ _) _
    replace X := X.later halKX
    replace X' := X'.later halKX
    replace R0 := R0.old halKX
    replace R0' := R0'.old halKX
    replace R1 := R1.old halKX
    replace R1' := R1'.old halKX
    replace KA := KA.old halKX
    replace KB := KB.old halKX
    replace hB := old_trans hB halKX
    clear halKX
    have KX := KX_
    clear KX_
    obtain ⟨KAa, ⟨KAb, KAc, KAd⟩, -⟩ := id KA
    obtain ⟨KBa, ⟨KBb, KBc, KBd⟩, -⟩ := id KB
    obtain ⟨KXa, ⟨KXb, KXc, KXd⟩, -⟩ := id KX
    have l_X_Y := X.lt
    have l_X'_Y := X'.lt
    have l_R0_Y := R0.far
    have l_R0'_Y := R0'.far
    have l_R1_Y := R1.far
    have l_R1'_Y := R1'.far
    have l_KA_Y := KA.1
    have l_KB_Y := KB.1
    have l_KX_Y := KX.1
    have n_Y := hB.size
    have l_X_Y' := X.lt
    have l_X'_Y' := X'.lt
    have l_R0_Y' := R0.far
    have l_R0'_Y' := R0'.far
    have l_R1_Y' := R1.far
    have l_R1'_Y' := R1'.far
    have l_KA_Y' := KA.1
    have l_KB_Y' := KB.1
    have l_KX_Y' := KX.1
    have n_Y' := hB.size
    go_wp2_with fail
    refine (toFracO b1 a1 a1' cap1 cap1' xs1 ys1 _ R1 R1' hl1 hl1').mono ?_
    rintro e w5 ⟨⟨avY, cvY, avY', cvY', rfl, Y, Y', sY⟩, hb5⟩
    clear KAa KAb KAc KAd KBa KBb KBc KBd KXa KXb KXc KXd
    replace X := X.later hb5
    replace X' := X'.later hb5
    replace R0 := R0.old hb5
    replace R0' := R0'.old hb5
    replace R1 := R1.old hb5
    replace R1' := R1'.old hb5
    replace KA := KA.old hb5
    replace KB := KB.old hb5
    replace KX := KX.old hb5
    replace hB := old_trans hB hb5
    clear hb5
    obtain ⟨KAa, ⟨KAb, KAc, KAd⟩, -⟩ := id KA
    obtain ⟨KBa, ⟨KBb, KBc, KBd⟩, -⟩ := id KB
    obtain ⟨KXa, ⟨KXb, KXc, KXd⟩, -⟩ := id KX
    clear KAa KAb KAc KAd KBa KBb KBc KBd KXa KXb KXc KXd
    have y_X_KY := X.lt
    have y_X'_KY := X'.lt
    have y_Y_KY := Y.lt
    have y_Y'_KY := Y'.lt
    have KY_ := Cel3.new w5 (.bool b1) (.slice avY xs1.length cvY) (.slice avY' ys1.length cvY') 27
    have halKY : Below w5.heap.size w5 (w5.alloc (.cells #[.bool b1, .slice avY xs1.length cvY, .slice avY' ys1.length cvY'] 27)) := old_alloc (Below.refl _ _) _
    replace X := X.later halKY
    replace X' := X'.later halKY
    replace Y := Y.later halKY
    replace Y' := Y'.later halKY
    replace R0 := R0.old halKY
    replace R0' := R0'.old halKY
    replace R1 := R1.old halKY
    replace R1' := R1'.old halKY
    replace KA := KA.old halKY
    replace KB := KB.old halKY
    replace KX := KX.old halKY
    replace hB := old_trans hB halKY
    clear halKY
    have KY := KY_
    clear KY_
    obtain ⟨KAa, ⟨KAb, KAc, KAd⟩, -⟩ := id KA
    obtain ⟨KBa, ⟨KBb, KBc, KBd⟩, -⟩ := id KB
    obtain ⟨KXa, ⟨KXb, KXc, KXd⟩, -⟩ := id KX
    obtain ⟨KYa, ⟨KYb, KYc, KYd⟩, -⟩ := id KY
    go_wp2_with fail
    refine (I.out _ _ _ _ _ _ _ _ _ _ _ _ _ X.inI X'.inI Y.inI Y'.inI (hTT.out _ hB)).mono ?_
    rintro e w6 ⟨rfl, hb6⟩
    clear KAa KAb KAc KAd KBa KBb KBc KBd KXa KXb KXc KXd KYa KYb KYc KYd
    replace X := X.later hb6
    replace X' := X'.later hb6
    replace Y := Y.later hb6
    replace Y' := Y'.later hb6
    replace R0 := R0.old hb6
    replace R0' := R0'.old hb6
    replace R1 := R1.old hb6
    replace R1' := R1'.old hb6
    replace KA := KA.old hb6
    replace KB := KB.old hb6
    replace KX := KX.old hb6
    replace KY := KY.old hb6
    replace hB := old_trans hB hb6
    clear hb6
    obtain ⟨KAa, ⟨KAb, KAc, KAd⟩, -⟩ := id KA
    obtain ⟨KBa, ⟨KBb, KBc, KBd⟩, -⟩ := id KB
    obtain ⟨KXa, ⟨KXb, KXc, KXd⟩, -⟩ := id KX
    obtain ⟨KYa, ⟨KYb, KYc, KYd⟩, -⟩ := id KY
    cases r
    all_goals
      have TG7 := hd (fun w' (hS : w'.cell? ⟨w.heap.size, 0, none⟩ = some (.bool b0) ∧ w'.cell? ⟨w.heap.size, 1, none⟩ = some (.slice a0 xs0.length cap0) ∧ w'.cell? ⟨w.heap.size, 2, none⟩ = some (.slice a0' ys0.length cap0') ∧ w'.cell? ⟨w4.heap.size, 0, none⟩ = some (.bool b0) ∧ w'.cell? ⟨w4.heap.size, 1, none⟩ = some (.slice avX xs0.length cvX) ∧ w'.cell? ⟨w4.heap.size, 2, none⟩ = some (.slice avX' ys0.length cvX')) (h : Below w6.heap.size w6 w') => (toFracO b0 a0 a0' cap0 cap0' xs0 ys0 w' (R0.old h) (R0'.old h) hl0 hl0').mono (fun e w'' (k : _ ∧ _) => (⟨k, six_old hS k.2⟩ : (_ ∧ _) ∧ (w''.cell? ⟨w.heap.size, 0, none⟩ = some (.bool b0) ∧ w''.cell? ⟨w.heap.size, 1, none⟩ = some (.slice a0 xs0.length cap0) ∧ w''.cell? ⟨w.heap.size, 2, none⟩ = some (.slice a0' ys0.length cap0') ∧ w''.cell? ⟨w4.heap.size, 0, none⟩ = some (.bool b0) ∧ w''.cell? ⟨w4.heap.size, 1, none⟩ = some (.slice avX xs0.length cvX) ∧ w''.cell? ⟨w4.heap.size, 2, none⟩ = some (.slice avX' ys0.length cvX')))))
      have EQ7 := hd (fun a b ca cb n n' w' (hS : w'.cell? ⟨w.heap.size, 0, none⟩ = some (.bool b0) ∧ w'.cell? ⟨w.heap.size, 1, none⟩ = some (.slice a0 xs0.length cap0) ∧ w'.cell? ⟨w.heap.size, 2, none⟩ = some (.slice a0' ys0.length cap0') ∧ w'.cell? ⟨w4.heap.size, 0, none⟩ = some (.bool b0) ∧ w'.cell? ⟨w4.heap.size, 1, none⟩ = some (.slice avX xs0.length cvX) ∧ w'.cell? ⟨w4.heap.size, 2, none⟩ = some (.slice avX' ys0.length cvX')) (h : Below w6.heap.size w6 w') (hA : OI w' n a ca xs0) (hA' : OI w' n' b cb ys0) => (lEqF b0 avX avX' a b cvX cvX' ca cb _ _ n n' xs0 ys0 w' (X.later h) (X'.later h) hA hA').mono (fun e w'' (k : _ ∧ _) => (⟨k, six_old hS k.2⟩ : (_ ∧ _) ∧ (w''.cell? ⟨w.heap.size, 0, none⟩ = some (.bool b0) ∧ w''.cell? ⟨w.heap.size, 1, none⟩ = some (.slice a0 xs0.length cap0) ∧ w''.cell? ⟨w.heap.size, 2, none⟩ = some (.slice a0' ys0.length cap0') ∧ w''.cell? ⟨w4.heap.size, 0, none⟩ = some (.bool b0) ∧ w''.cell? ⟨w4.heap.size, 1, none⟩ = some (.slice avX xs0.length cvX) ∧ w''.cell? ⟨w4.heap.size, 2, none⟩ = some (.slice avX' ys0.length cvX')))))
      go_wp2_with fail
      go_region_held3 (fun w' => w'.cell? ⟨w.heap.size, 0, none⟩ = some (.bool b0) ∧ w'.cell? ⟨w.heap.size, 1, none⟩ = some (.slice a0 xs0.length cap0) ∧ w'.cell? ⟨w.heap.size, 2, none⟩ = some (.slice a0' ys0.length cap0') ∧ w'.cell? ⟨w4.heap.size, 0, none⟩ = some (.bool b0) ∧ w'.cell? ⟨w4.heap.size, 1, none⟩ = some (.slice avX xs0.length cvX) ∧ w'.cell? ⟨w4.heap.size, 2, none⟩ = some (.slice avX' ys0.length cvX')) (go_keep) (first | (go_at_call 6; refine (TG7.out _ (by assumption) (by repeat (first | exact Below.refl _ _ | refine Below.drew ?_ | refine old_trans ?_ (by assumption)))).mono ?_; rintro e w7a ⟨⟨⟨avZ, cvZ, avZ', cvZ', rfl, Z, Z', -⟩, hb7a⟩, hc7a⟩) | (go_at_call 8; refine (EQ7.out _ _ _ _ _ _ _ (by assumption) (by repeat (first | exact Below.refl _ _ | refine Below.drew ?_ | refine old_trans ?_ (by assumption))) Z Z').mono ?_; rintro e w7b ⟨⟨rfl, hb7b⟩, hc7b⟩))
      clear KAa KAb KAc KAd KBa KBb KBc KBd KXa KXb KXc KXd KYa KYb KYc KYd
      have hb7 : Below w6.heap.size w6 w7b := (by repeat (first | exact Below.refl _ _ | refine Below.drew ?_ | refine old_trans ?_ (by assumption)))
      clear TG7 EQ7 hc7a hc7b Z Z'
      replace X := X.later hb7
      replace X' := X'.later hb7
      replace Y := Y.later hb7
      replace Y' := Y'.later hb7
      replace R0 := R0.old hb7
      replace R0' := R0'.old hb7
      replace R1 := R1.old hb7
      replace R1' := R1'.old hb7
      replace KA := KA.old hb7
      replace KB := KB.old hb7
      replace KX := KX.old hb7
      replace KY := KY.old hb7
      replace hB := old_trans hB hb7
      clear hb7
      obtain ⟨KAa, ⟨KAb, KAc, KAd⟩, -⟩ := id KA
      obtain ⟨KBa, ⟨KBb, KBc, KBd⟩, -⟩ := id KB
      obtain ⟨KXa, ⟨KXb, KXc, KXd⟩, -⟩ := id KX
      obtain ⟨KYa, ⟨KYb, KYc, KYd⟩, -⟩ := id KY
      have TG8 := hd (fun w' (hS : w'.cell? ⟨(w.heap.size + 1), 0, none⟩ = some (.bool b1) ∧ w'.cell? ⟨(w.heap.size + 1), 1, none⟩ = some (.slice a1 xs1.length cap1) ∧ w'.cell? ⟨(w.heap.size + 1), 2, none⟩ = some (.slice a1' ys1.length cap1') ∧ w'.cell? ⟨w5.heap.size, 0, none⟩ = some (.bool b1) ∧ w'.cell? ⟨w5.heap.size, 1, none⟩ = some (.slice avY xs1.length cvY) ∧ w'.cell? ⟨w5.heap.size, 2, none⟩ = some (.slice avY' ys1.length cvY')) (h : Below w7b.heap.size w7b w') => (toFracO b1 a1 a1' cap1 cap1' xs1 ys1 w' (R1.old h) (R1'.old h) hl1 hl1').mono (fun e w'' (k : _ ∧ _) => (⟨k, six_old hS k.2⟩ : (_ ∧ _) ∧ (w''.cell? ⟨(w.heap.size + 1), 0, none⟩ = some (.bool b1) ∧ w''.cell? ⟨(w.heap.size + 1), 1, none⟩ = some (.slice a1 xs1.length cap1) ∧ w''.cell? ⟨(w.heap.size + 1), 2, none⟩ = some (.slice a1' ys1.length cap1') ∧ w''.cell? ⟨w5.heap.size, 0, none⟩ = some (.bool b1) ∧ w''.cell? ⟨w5.heap.size, 1, none⟩ = some (.slice avY xs1.length cvY) ∧ w''.cell? ⟨w5.heap.size, 2, none⟩ = some (.slice avY' ys1.length cvY')))))
      have EQ8 := hd (fun a b ca cb n n' w' (hS : w'.cell? ⟨(w.heap.size + 1), 0, none⟩ = some (.bool b1) ∧ w'.cell? ⟨(w.heap.size + 1), 1, none⟩ = some (.slice a1 xs1.length cap1) ∧ w'.cell? ⟨(w.heap.size + 1), 2, none⟩ = some (.slice a1' ys1.length cap1') ∧ w'.cell? ⟨w5.heap.size, 0, none⟩ = some (.bool b1) ∧ w'.cell? ⟨w5.heap.size, 1, none⟩ = some (.slice avY xs1.length cvY) ∧ w'.cell? ⟨w5.heap.size, 2, none⟩ = some (.slice avY' ys1.length cvY')) (h : Below w7b.heap.size w7b w') (hA : OI w' n a ca xs1) (hA' : OI w' n' b cb ys1) => (lEqF b1 avY avY' a b cvY cvY' ca cb _ _ n n' xs1 ys1 w' (Y.later h) (Y'.later h) hA hA').mono (fun e w'' (k : _ ∧ _) => (⟨k, six_old hS k.2⟩ : (_ ∧ _) ∧ (w''.cell? ⟨(w.heap.size + 1), 0, none⟩ = some (.bool b1) ∧ w''.cell? ⟨(w.heap.size + 1), 1, none⟩ = some (.slice a1 xs1.length cap1) ∧ w''.cell? ⟨(w.heap.size + 1), 2, none⟩ = some (.slice a1' ys1.length cap1') ∧ w''.cell? ⟨w5.heap.size, 0, none⟩ = some (.bool b1) ∧ w''.cell? ⟨w5.heap.size, 1, none⟩ = some (.slice avY xs1.length cvY) ∧ w''.cell? ⟨w5.heap.size, 2, none⟩ = some (.slice avY' ys1.length cvY')))))
      go_wp2_with fail
      go_region_held3 (fun w' => w'.cell? ⟨(w.heap.size + 1), 0, none⟩ = some (.bool b1) ∧ w'.cell? ⟨(w.heap.size + 1), 1, none⟩ = some (.slice a1 xs1.length cap1) ∧ w'.cell? ⟨(w.heap.size + 1), 2, none⟩ = some (.slice a1' ys1.length cap1') ∧ w'.cell? ⟨w5.heap.size, 0, none⟩ = some (.bool b1) ∧ w'.cell? ⟨w5.heap.size, 1, none⟩ = some (.slice avY xs1.length cvY) ∧ w'.cell? ⟨w5.heap.size, 2, none⟩ = some (.slice avY' ys1.length cvY')) (go_keep) (first | (go_at_call 6; refine (TG8.out _ (by assumption) (by repeat (first | exact Below.refl _ _ | refine Below.drew ?_ | refine old_trans ?_ (by assumption)))).mono ?_; rintro e w8a ⟨⟨⟨avZ, cvZ, avZ', cvZ', rfl, Z, Z', -⟩, hb8a⟩, hc8a⟩) | (go_at_call 8; refine (EQ8.out _ _ _ _ _ _ _ (by assumption) (by repeat (first | exact Below.refl _ _ | refine Below.drew ?_ | refine old_trans ?_ (by assumption))) Z Z').mono ?_; rintro e w8b ⟨⟨rfl, hb8b⟩, hc8b⟩))
      clear KAa KAb KAc KAd KBa KBb KBc KBd KXa KXb KXc KXd KYa KYb KYc KYd
      have hb8 : Below w7b.heap.size w7b w8b := (by repeat (first | exact Below.refl _ _ | refine Below.drew ?_ | refine old_trans ?_ (by assumption)))
      clear TG8 EQ8 hc8a hc8b Z Z'
      replace X := X.later hb8
      replace X' := X'.later hb8
      replace Y := Y.later hb8
      replace Y' := Y'.later hb8
      replace R0 := R0.old hb8
      replace R0' := R0'.old hb8
      replace R1 := R1.old hb8
      replace R1' := R1'.old hb8
      replace KA := KA.old hb8
      replace KB := KB.old hb8
      replace KX := KX.old hb8
      replace KY := KY.old hb8
      replace hB := old_trans hB hb8
      clear hb8
      obtain ⟨KAa, ⟨KAb, KAc, KAd⟩, -⟩ := id KA
      obtain ⟨KBa, ⟨KBb, KBc, KBd⟩, -⟩ := id KB
      obtain ⟨KXa, ⟨KXb, KXc, KXd⟩, -⟩ := id KX
      obtain ⟨KYa, ⟨KYb, KYc, KYd⟩, -⟩ := id KY
      go_wp2
      go_ret
      exact ⟨rfl, hB⟩

set_option maxRecDepth 100000 in
theorem FnExactRelHolds_lifted (os : Os) (started : os.Started) (H : Type) (enc : TypeId × Value → H) :
    ReturnsInHanded {} Tryz.checked os 3 .any (fun w args => (Rows.fnExactRelHoldsSpec.pre enc Tryz.prog Tryz.f3 [] false w args ∧ laidMetH Tryz.prog LHL w) ∧ sizedMet enc Tryz.prog Tryz.f3 (OpenSpec.ofChange Rows.fnExactRelHoldsSpec) false w args)
      (Rows.fnExactRelHoldsSpec.post enc Tryz.prog Tryz.f3 false true false false) := by
  refine returnsInHanded_of_change_and (C := Tryz.checked) (X := fun w _ => laidMetH Tryz.prog LHL w) (fun _ _ _ hh h => h.of_heap hh) LH_own started (by kernel_rfl) Tryz.func3
    (ChangeSpec.witness_shaped (enc := enc) (C := Tryz.checked) (os := os) (X := fun w _ => laidMetH Tryz.prog LHL w) false (World.doorLaid Tryz.prog LH_fuel os) #[.int .i64 0, .agg #[.bool false, .slice none 0 0, .slice none 0 0], .agg #[.bool false, .slice none 0 0, .slice none 0 0]] 8 rfl (LH_shaped os _) (by kernel_rfl) (by kernel_rfl) (by kernel_rfl) (LH_met os _)) ?_
  intro W base args ds gs before hval0 hW _ _ hL _
  have hval : ∀ (j : Nat) t v, Tryz.f3.params[j]? = some t → args[j]? = some v → Value.okWide Tryz.prog W .any base t v := hval0
  have hW' := hW
  obtain ⟨p, q, hA0, hV, rfl, hfz, hnd⟩ := hW
  have hA : DataW.TrodAll enc Tryz.prog W 0 (fun _ => true) true Tryz.f3.params.toList args.toList ds p := hA0
  rw [Tryz.params3] at hA hval
  obtain ⟨v0, vs0, d0, ds0, p0, q0, hargs, rfl, rfl, h0, r0⟩ := trodAll_cons hA
  obtain ⟨v1, vs1, d1, ds1, p1, q1, rfl, rfl, rfl, h1, r1⟩ := trodAll_cons r0
  obtain ⟨v2, vs2, d2, ds2, p2, q2, rfl, rfl, rfl, h2, r2⟩ := trodAll_cons r1
  obtain ⟨rfl, rfl, rfl⟩ := trodAll_nil r2
  obtain rfl : args = #[v0, v1, v2] := by cases args; simp_all
  obtain ⟨rfl, rfl⟩ := trodVars_none hV
  have k0 := h0
  have lt0 : ∀ x ∈ p0, x.block < W.heap.size := by obtain ⟨m, hm⟩ := k0; exact DataW.trod_lt m _ _ _ hm
  obtain ⟨rl, rfl, -, -, wf0⟩ := open_int Tryz.underlying3 (hval 0 3 v0 rfl rfl) h0
  have k1 := h1
  have lt1 : ∀ x ∈ p1, x.block < W.heap.size := by obtain ⟨m, hm⟩ := k1; exact DataW.trod_lt m _ _ _ hm
  obtain ⟨b0, a0, len0, cap0, xs0, a0', len0', cap0', ys0, rfl, wb0, wb0'⟩ := open_lfrac (hval 1 24 v1 rfl rfl) h1
  have k2 := h2
  have lt2 : ∀ x ∈ p2, x.block < W.heap.size := by obtain ⟨m, hm⟩ := k2; exact DataW.trod_lt m _ _ _ hm
  obtain ⟨b1, a1, len1, cap1, xs1, a1', len1', cap1', ys1, rfl, wb1, wb1'⟩ := open_lfrac (hval 2 24 v2 rfl rfl) h2
  clear hA0 hval0
  refine (FnExactRelHolds_walk rl b0 a0 len0 cap0 xs0 a0' len0' cap0' ys0 b1 a1 len1 cap1 xs1 a1' len1' cap1' ys1 W wb0 wb0' wb1 wb1' (both_of hL)).mono fun e W' ⟨he, bel⟩ => ?_
  subst he
  exact ⟨_, rfl, _, _, _, [], _, [], hW', trodAll_mk1 (shut_bool Tryz.underlying4 _), (trodAll_cons_mk (Below.trod jf1 (by kernel_rfl) (of_decide_eq_true (by kernel_rfl)) k0 bel lt0) (trodAll_cons_mk (Below.trod jf1 (by kernel_rfl) (of_decide_eq_true (by kernel_rfl)) k1 bel lt1) (trodAll_cons_mk (Below.trod jf1 (by kernel_rfl) (of_decide_eq_true (by kernel_rfl)) k2 bel lt2) trodAll_mk0))), rfl, bel.frame _, fun h => by cases h⟩

theorem FnExactRelHolds_k0 : (Rows.fnExactRelHoldsRow.wf (OpenSpec.ofChange Rows.fnExactRelHoldsSpec)) = true := by kernel_rfl
theorem FnExactRelHolds_k3 : (Tryz.f3.params.all (Tryz.prog.readableRec ·)) = true := by kernel_rfl
theorem FnExactRelHolds_k4 : (namedTie Tryz.prog Rows.fnExactRelHoldsRow.named Rows.fnExactRelHoldsSpec.vars) = true := by kernel_rfl
theorem FnExactRelHolds_k5 : ((Rows.fnExactRelHoldsRow.stops == [])) = true := by kernel_rfl
theorem FnExactRelHolds_k7 : ((Rows.fnExactRelHoldsRow.knobs == [])) = true := by kernel_rfl
theorem FnExactRelHolds_k9 : ((Rows.fnExactRelHoldsRow.inPlace == Tryz.prog.inPlace 3)) = true := by kernel_rfl
theorem FnExactRelHolds_k10 : ((Rows.fnExactRelHoldsRow.unfollowed == Tryz.prog.unfollowed 3)) = true := by kernel_rfl
theorem FnExactRelHolds_k11 : ((Rows.fnExactRelHoldsRow.recurses == Tryz.prog.recurses 3)) = true := by kernel_rfl
theorem FnExactRelHolds_k12 : ((Rows.fnExactRelHoldsRow.named == Tryz.prog.varsNamed 3)) = true := by kernel_rfl
theorem FnExactRelHolds_k13 : ((Rows.fnExactRelHoldsRow.maps == (Tryz.f3.params.toList ++ Rows.fnExactRelHoldsSpec.plain.varTypes Tryz.prog).any (Tryz.prog.mapsRec ·))) = true := by kernel_rfl
theorem FnExactRelHolds_k14 : ((Rows.fnExactRelHoldsRow.ifaces == (Tryz.f3.params.toList ++ Rows.fnExactRelHoldsSpec.plain.varTypes Tryz.prog).any (Tryz.prog.ifacesRec ·))) = true := by kernel_rfl
theorem FnExactRelHolds_k15 : ((Rows.fnExactRelHoldsRow.mapsOut == Tryz.prog.mapsAmong Tryz.f3.resultTypes.toList)) = true := by kernel_rfl
theorem FnExactRelHolds_k16 : ((Rows.fnExactRelHoldsRow.loops == (Tryz.f3.params.toList ++ Rows.fnExactRelHoldsSpec.plain.varTypes Tryz.prog).any (Tryz.prog.loopsFrom ·))) = true := by kernel_rfl
theorem FnExactRelHolds_k17 : ((Rows.fnExactRelHoldsRow.wideKeys == (Tryz.f3.params.toList ++ Rows.fnExactRelHoldsSpec.plain.varTypes Tryz.prog ++ Tryz.f3.resultTypes.toList).any (Tryz.prog.wideKeysFrom ·))) = true := by kernel_rfl
theorem FnExactRelHolds_k18 : (Rows.fnExactRelHoldsSpec.vars.all (Tryz.prog.varReadable ·)) = true := by kernel_rfl
theorem FnExactRelHolds_k19 : (Tryz.f3.resultTypes.all (fun t => Tryz.prog.readableRec t && decide (t < Tryz.prog.types.size))) = true := by kernel_rfl
theorem FnExactRelHolds_k20 : ((Rows.fnExactRelHoldsRow.ifacesOut == Tryz.f3.resultTypes.toList.any (Tryz.prog.ifacesRec ·))) = true := by kernel_rfl
theorem FnExactRelHolds_k21 : ((Rows.fnExactRelHoldsRow.loopsOut == Tryz.f3.resultTypes.toList.any (Tryz.prog.loopsFrom ·))) = true := by kernel_rfl
theorem FnExactRelHolds_k23 : (Rows.fnExactRelHoldsRow.shortTexts.isNone) = true := by kernel_rfl
theorem FnExactRelHolds_k28 : ((Rows.fnExactRelHoldsRow.kinds == (if Rows.fnExactRelHoldsRow.domain.isEmpty then [] else Tryz.f3.params.toList.map fun t => match Tryz.prog.underlying t with | some (.int k) => some k | _ => none))) = true := by kernel_rfl
theorem FnExactRelHolds_k29 : ((Rows.fnExactRelHoldsRow.pinned == Rows.fnExactRelHoldsRow.pinnedBy)) = true := by kernel_rfl
theorem FnExactRelHolds_k30 : ((Rows.fnExactRelHoldsRow.veiled == (Tryz.f3.params.toList ++ Rows.fnExactRelHoldsSpec.plain.varTypes Tryz.prog ++ Tryz.f3.resultTypes.toList).any (Tryz.prog.veiledRec ·))) = true := by kernel_rfl
theorem FnExactRelHolds_k31 : (Rows.fnExactRelHoldsRow.veiledFits Tryz.prog Tryz.f3.params.toList (Tryz.f3.params.toList ++ Rows.fnExactRelHoldsSpec.plain.varTypes Tryz.prog ++ Tryz.f3.resultTypes.toList)) = true := by kernel_rfl
set_option maxRecDepth 100000 in
theorem FnExactRelHolds_closed : joinedFacts Tryz.prog 3 Tryz.f3 Rows.fnExactRelHoldsSpec Rows.fnExactRelHoldsRow = true := (and2 (and2 (and2 (and2 (and2 (and2 (and2 (and2 (and2 (and2 (and2 (and2 (and2 (and2 (and2 (and2 (and2 (and2 (and2 (and2 (and2 (and2 (and2 (and2 (and2 (and2 (and2 (and2 (and2 (and2 (and2 FnExactRelHolds_k0 jf1) jf2) FnExactRelHolds_k3) FnExactRelHolds_k4) FnExactRelHolds_k5) jf6) FnExactRelHolds_k7) jf8) FnExactRelHolds_k9) FnExactRelHolds_k10) FnExactRelHolds_k11) FnExactRelHolds_k12) FnExactRelHolds_k13) FnExactRelHolds_k14) FnExactRelHolds_k15) FnExactRelHolds_k16) FnExactRelHolds_k17) FnExactRelHolds_k18) FnExactRelHolds_k19) FnExactRelHolds_k20) FnExactRelHolds_k21) jf22) FnExactRelHolds_k23) jf24) jf25) jf26) jf27) FnExactRelHolds_k28) FnExactRelHolds_k29) FnExactRelHolds_k30) FnExactRelHolds_k31)
theorem FnExactRelHolds_row : Rows.FnExactRelHoldsSaid :=
  OpenClaim.holds_of_wide 3 Tryz.f3 rfl rfl rfl rfl rfl rfl rfl ⟨rfl, rfl, rfl, rfl, rfl⟩ rfl rfl rfl rfl rfl (by kernel_rfl) Tryz.func3 FnExactRelHolds_closed
    (of_decide_eq_true (by kernel_rfl)) (by unfold Func.isWrapper; first | (rw [if_pos (by decide +kernel)]; kernel_rfl) | (rw [if_neg (by decide +kernel)]; exact ⟨rfl, rfl⟩))
    (fun os started H enc _ => FnExactRelHolds_lifted os started H enc)

theorem FnExactRelHolds_proved : Rows.FnExactRelHoldsCardSaid :=
  Claim7.holds_tied_plain_at .later [] [.data, .data, .handle] true (true, "73731316417543b93353f5041577f3a934df0596798adc1b24a0eed35377ba90") true
    FnExactRelHolds_row (fun _ h => by cases h) (by kernel_rfl) (fun _ h => by cases h) fnExactRelHolds_row_tie rfl ⟨rfl, rfl⟩ (by kernel_rfl) rfl
    (fun f fn hf hfn => by
      obtain rfl : f = 3 := Option.some.inj ((show Tryz.prog.funcNamed "loop.example/pinfold/laws.FnExactRelHolds" = some 3 by kernel_rfl).symm.trans hf) |>.symm
      obtain rfl : fn = Tryz.f3 := (Option.some.inj (Tryz.func3.symm.trans hfn)).symm
      exact ⟨by kernel_rfl, fun j t ht => by
        rw [Tryz.params3] at ht
        have hm : t ∈ [3, 24, 24] := by simpa using Array.mem_of_getElem? ht
        have hall : ([3, 24, 24].all fun u => !Tryz.prog.wantsStandIn u) = true := by kernel_rfl
        exact (show Tryz.prog.wantsStandIn t = false by simpa using List.all_eq_true.1 hall t hm)⟩)
    (by kernel_rfl)
end Go.Proofs.YtmnjkhfpgjolbaaGreatDoor
