/- The program's FracRoot answers as the specification's FracRoot at every argument; it writes into no argument, and what it answers is its own. Condition: the library's tables and its handle of errors hold what their texts lay (the card ties them). -/
import Derived.Test.YtbcdeddbkckaeaaGreatDoorRows
import Derived.Test.YtbcdeddbkckaeaaGreatDoorTie
import Derived.Test.YtbcdeddbkckaeaaGreatDoorCards
import Derived.WalkKit
import Derived.ProofKit
import Derived.OpenShut
import Derived.Below
import Derived.Carry
import Derived.Test.YtbcdeddbkckaeaaGreatDoorN0
import Derived.Test.YtbcdeddbkckaeaaGreatDoorBJ
import Derived.Test.YtbcdeddbkckaeaaGreatDoorFL
import Derived.Test.YtbcdeddbkckaeaaGreatDoorUE
namespace Go.Proofs.YtbcdeddbkckaeaaGreatDoor
open Go.ChangeShapes Go.WideShapes Go.ChangeAt Go.RowKit
set_option linter.unusedVariables false
set_option maxRecDepth 100000

set_option maxRecDepth 100000 in
set_option maxHeartbeats 8000000 in
theorem FnExactFracRoot_walk (b0 : Bool) (a0 : Option Addr) (len0 cap0 : Nat) (xs0 : List Int) (a0' : Option Addr) (len0' cap0' : Nat) (ys0 : List Int) (w : World) (wb0 : InI w a0 len0 cap0 xs0) (wb0' : InI w a0' len0' cap0' ys0) (hT : Tab w ∧ ET w) :
    Calls Tryz.prog 3 #[.agg #[.bool b0, .slice a0 len0 cap0, .slice a0' len0' cap0']] w fun e w' => e = .returned (.bool true) ∧ Below w.heap.size w w' := by
  obtain ⟨r, hr⟩ := root_is (val xs0)
  obtain ⟨s, hs⟩ := root_is (val ys0)
  obtain rfl := wb0.1
  obtain rfl := wb0'.1
  have hlen0 : xs0.length ≤ maxLen := Nat.le_trans wb0.2.1 wb0.2.2.1
  have hlen0' : ys0.length ≤ maxLen := Nat.le_trans wb0'.2.1 wb0'.2.2.1
  have SZ := hd (fun w' => lSzFrac b0 a0 a0' xs0.length ys0.length cap0 cap0' 1048576 w' hlen0 hlen0' (by omega) (by omega))
  unfold szF at SZ
  by_cases c : (xs0.length : Int) + ys0.length ≤ 1048576
  case neg =>
    rw [if_neg c] at SZ
    go_enter Tryz.func3, Tryz.ntmps3
    go_wp2_with fail
    refine (SZ.out _).mono ?_
    rintro e w1 ⟨rfl, hb1⟩
    go_wp2
    go_ret
    exact ⟨rfl, old_trans (old_alloc (Below.refl _ _) _) hb1⟩
  rw [if_pos c] at SZ
  have hl0 : xs0.length ≤ 1048576 := by omega
  have hl0' : ys0.length ≤ 1048576 := by omega
  have c' : ¬ (1048576 - (xs0.length : Int) - (ys0.length : Int) < 0) := by omega
  have S := hd (fun a b la lb ca cb w (h : InI w a la ca xs0) (h' : InI w b lb cb ys0) => sFracRoot b0 a b la lb ca cb xs0 ys0 r s hr hs w h h')
  have I := hd (fun a b la lb ca cb w (h : InI w a la ca xs0) (h' : InI w b lb cb ys0) (hT : Tab w ∧ ET w) => iFracRoot b0 a b la lb ca cb xs0 ys0 r s hr hs w h h' hT.1 hT.2)
  simp only [FRes] at S I
  have htl : (fT (fracOk b0 xs0 ys0 && (rtOk b0 xs0 ys0 r s && lowB (r) (s))) (r) (s)).length ≤ 1048576 := fT_len (fun h => ((Bool.and_eq_true _ _).mp ((Bool.and_eq_true _ _).mp h).2).2)
  have hul : (fU (fracOk b0 xs0 ys0 && (rtOk b0 xs0 ys0 r s && lowB (r) (s))) (r) (s)).length ≤ 1048576 := fU_len (fun h => ((Bool.and_eq_true _ _).mp ((Bool.and_eq_true _ _).mp h).2).2)
  generalize fT (fracOk b0 xs0 ys0 && (rtOk b0 xs0 ys0 r s && lowB (r) (s))) (r) (s) = tl at *
  generalize fU (fracOk b0 xs0 ys0 && (rtOk b0 xs0 ys0 r s && lowB (r) (s))) (r) (s) = ul at *
  generalize fS (fracOk b0 xs0 ys0 && (rtOk b0 xs0 ys0 r s && lowB (r) (s))) (false) (r) = sg at *
  generalize (fracOk b0 xs0 ys0 && (rtOk b0 xs0 ys0 r s && lowB (r) (s))) = r at *
  have hx1 : ¬ (1 + (xs0.length : Int) + (ys0.length : Int) < 0) := by omega
  have hx2 : ¬ (1 + (tl.length : Int) + (ul.length : Int) < 0) := by omega
  have hTT := hd (fun (w' : World) (h : Below w.heap.size w w') => (⟨hT.1.old h, hT.2.old h⟩ : Tab w' ∧ ET w'))
  have KB := Cel3.new w (.bool b0) (.slice a0 xs0.length cap0) (.slice a0' ys0.length cap0') 24
  have hB : Below w.heap.size w (w.alloc (.cells #[.bool b0, .slice a0 xs0.length cap0, .slice a0' ys0.length cap0'] 24)) := old_alloc (Below.refl _ _) _
  have R0 := wb0.old hB
  have R0' := wb0'.old hB
  clear hT wb0 wb0' c hlen0 hlen0'
  go_enter Tryz.func3, Tryz.ntmps3
  obtain ⟨KBa, ⟨KBb, KBc, KBd⟩, -⟩ := id KB
  go_wp2_with fail
  refine (SZ.out _).mono ?_
  rintro e w1 ⟨rfl, hb1⟩
  clear KBa KBb KBc KBd
  replace R0 := R0.old hb1
  replace R0' := R0'.old hb1
  replace KB := KB.old hb1
  replace hB := old_trans hB hb1
  clear hb1
  obtain ⟨KBa, ⟨KBb, KBc, KBd⟩, -⟩ := id KB
  have l_R0_P := R0.far
  have l_R0'_P := R0'.far
  have l_KB_P := KB.1
  have n_P := hB.size
  have l_R0_P' := R0.far
  have l_R0'_P' := R0'.far
  have l_KB_P' := KB.1
  have n_P' := hB.size
  go_wp2_with fail
  refine (toFracO b0 a0 a0' cap0 cap0' xs0 ys0 _ R0 R0' hl0 hl0').mono ?_
  rintro e w2 ⟨⟨avP, cvP, avP', cvP', rfl, P, P', sP⟩, hb2⟩
  clear KBa KBb KBc KBd
  replace R0 := R0.old hb2
  replace R0' := R0'.old hb2
  replace KB := KB.old hb2
  replace hB := old_trans hB hb2
  clear hb2
  obtain ⟨KBa, ⟨KBb, KBc, KBd⟩, -⟩ := id KB
  have l_P_W := P.lt
  have l_P'_W := P'.lt
  have l_R0_W := R0.far
  have l_R0'_W := R0'.far
  have l_KB_W := KB.1
  have n_W := hB.size
  have l_P_W' := P.lt
  have l_P'_W' := P'.lt
  have l_R0_W' := R0.far
  have l_R0'_W' := R0'.far
  have l_KB_W' := KB.1
  have n_W' := hB.size
  go_wp2_with fail
  refine (S.out _ _ _ _ _ _ _ P.inI P'.inI).mono ?_
  rintro e w3 ⟨⟨avW, cvW, avW', cvW', rfl, W, W', sW⟩, hb3⟩
  clear KBa KBb KBc KBd
  replace P := P.later hb3
  replace P' := P'.later hb3
  replace R0 := R0.old hb3
  replace R0' := R0'.old hb3
  replace KB := KB.old hb3
  replace hB := old_trans hB hb3
  clear hb3
  obtain ⟨KBa, ⟨KBb, KBc, KBd⟩, -⟩ := id KB
  clear P
  clear P'
  clear KBa KBb KBc KBd
  have y_W_KW := W.lt
  have y_W'_KW := W'.lt
  have KW_ := Cel3.new w3 (.bool sg) (.slice avW tl.length cvW) (.slice avW' ul.length cvW') 26
  have halKW : Below w3.heap.size w3 (w3.alloc (.cells #[.bool sg, .slice avW tl.length cvW, .slice avW' ul.length cvW'] 26)) := old_alloc (Below.refl _ _) _
  replace W := W.later halKW
  replace W' := W'.later halKW
  replace R0 := R0.old halKW
  replace R0' := R0'.old halKW
  replace KB := KB.old halKW
  replace hB := old_trans hB halKW
  clear halKW
  have KW := KW_
  clear KW_
  obtain ⟨KBa, ⟨KBb, KBc, KBd⟩, -⟩ := id KB
  obtain ⟨KWa, ⟨KWb, KWc, KWd⟩, -⟩ := id KW
  have l_W_X := W.lt
  have l_W'_X := W'.lt
  have l_R0_X := R0.far
  have l_R0'_X := R0'.far
  have l_KB_X := KB.1
  have l_KW_X := KW.1
  have n_X := hB.size
  have l_W_X' := W.lt
  have l_W'_X' := W'.lt
  have l_R0_X' := R0.far
  have l_R0'_X' := R0'.far
  have l_KB_X' := KB.1
  have l_KW_X' := KW.1
  have n_X' := hB.size
  go_wp2_with fail
  refine (toFracO b0 a0 a0' cap0 cap0' xs0 ys0 _ R0 R0' hl0 hl0').mono ?_
  rintro e w4 ⟨⟨avX, cvX, avX', cvX', rfl, X, X', sX⟩, hb4⟩
  clear KBa KBb KBc KBd KWa KWb KWc KWd
  replace W := W.later hb4
  replace W' := W'.later hb4
  replace R0 := R0.old hb4
  replace R0' := R0'.old hb4
  replace KB := KB.old hb4
  replace KW := KW.old hb4
  replace hB := old_trans hB hb4
  clear hb4
  obtain ⟨KBa, ⟨KBb, KBc, KBd⟩, -⟩ := id KB
  obtain ⟨KWa, ⟨KWb, KWc, KWd⟩, -⟩ := id KW
  clear KBa KBb KBc KBd KWa KWb KWc KWd
  have y_W_KX := W.lt
  have y_W'_KX := W'.lt
  have y_X_KX := X.lt
  have y_X'_KX := X'.lt
  have KX_ := Cel3.new w4 (.bool b0) (.slice avX xs0.length cvX) (.slice avX' ys0.length cvX') 26
  have halKX : Below w4.heap.size w4 (w4.alloc (.cells #[.bool b0, .slice avX xs0.length cvX, .slice avX' ys0.length cvX'] 26)) := old_alloc (Below.refl _ _) _
  replace W := W.later halKX
  replace W' := W'.later halKX
  replace X := X.later halKX
  replace X' := X'.later halKX
  replace R0 := R0.old halKX
  replace R0' := R0'.old halKX
  replace KB := KB.old halKX
  replace KW := KW.old halKX
  replace hB := old_trans hB halKX
  clear halKX
  have KX := KX_
  clear KX_
  obtain ⟨KBa, ⟨KBb, KBc, KBd⟩, -⟩ := id KB
  obtain ⟨KWa, ⟨KWb, KWc, KWd⟩, -⟩ := id KW
  obtain ⟨KXa, ⟨KXb, KXc, KXd⟩, -⟩ := id KX
  have l_W_G := W.lt
  have l_W'_G := W'.lt
  have l_X_G := X.lt
  have l_X'_G := X'.lt
  have l_R0_G := R0.far
  have l_R0'_G := R0'.far
  have l_KB_G := KB.1
  have l_KW_G := KW.1
  have l_KX_G := KX.1
  have n_G := hB.size
  have l_W_G' := W.lt
  have l_W'_G' := W'.lt
  have l_X_G' := X.lt
  have l_X'_G' := X'.lt
  have l_R0_G' := R0.far
  have l_R0'_G' := R0'.far
  have l_KB_G' := KB.1
  have l_KW_G' := KW.1
  have l_KX_G' := KX.1
  have n_G' := hB.size
  go_wp2_with fail
  refine (I.out _ _ _ _ _ _ _ X.inI X'.inI (hTT.out _ hB)).mono ?_
  rintro e w5 ⟨⟨avG, cvG, avG', cvG', rfl, G, G', sG⟩, hb5⟩
  clear KBa KBb KBc KBd KWa KWb KWc KWd KXa KXb KXc KXd
  replace W := W.later hb5
  replace W' := W'.later hb5
  replace X := X.later hb5
  replace X' := X'.later hb5
  replace R0 := R0.old hb5
  replace R0' := R0'.old hb5
  replace KB := KB.old hb5
  replace KW := KW.old hb5
  replace KX := KX.old hb5
  replace hB := old_trans hB hb5
  clear hb5
  obtain ⟨KBa, ⟨KBb, KBc, KBd⟩, -⟩ := id KB
  obtain ⟨KWa, ⟨KWb, KWc, KWd⟩, -⟩ := id KW
  obtain ⟨KXa, ⟨KXb, KXc, KXd⟩, -⟩ := id KX
  clear KBa KBb KBc KBd KWa KWb KWc KWd KXa KXb KXc KXd
  have y_W_KG := W.lt
  have y_W'_KG := W'.lt
  have y_X_KG := X.lt
  have y_X'_KG := X'.lt
  have y_G_KG := G.lt
  have y_G'_KG := G'.lt
  have KG_ := Cel3.new w5 (.bool sg) (.slice avG tl.length cvG) (.slice avG' ul.length cvG') 26
  have halKG : Below w5.heap.size w5 (w5.alloc (.cells #[.bool sg, .slice avG tl.length cvG, .slice avG' ul.length cvG'] 26)) := old_alloc (Below.refl _ _) _
  replace W := W.later halKG
  replace W' := W'.later halKG
  replace X := X.later halKG
  replace X' := X'.later halKG
  replace G := G.later halKG
  replace G' := G'.later halKG
  replace R0 := R0.old halKG
  replace R0' := R0'.old halKG
  replace KB := KB.old halKG
  replace KW := KW.old halKG
  replace KX := KX.old halKG
  replace hB := old_trans hB halKG
  clear halKG
  have KG := KG_
  clear KG_
  obtain ⟨KBa, ⟨KBb, KBc, KBd⟩, -⟩ := id KB
  obtain ⟨KWa, ⟨KWb, KWc, KWd⟩, -⟩ := id KW
  obtain ⟨KXa, ⟨KXb, KXc, KXd⟩, -⟩ := id KX
  obtain ⟨KGa, ⟨KGb, KGc, KGd⟩, -⟩ := id KG
  go_wp2_with fail
  refine (lEqF sg avG avG' avW avW' cvG cvG' cvW cvW' _ _ _ _ tl ul _ G G' W W').mono ?_
  rintro e w6 ⟨rfl, hb6⟩
  clear KBa KBb KBc KBd KWa KWb KWc KWd KXa KXb KXc KXd KGa KGb KGc KGd
  replace W := W.later hb6
  replace W' := W'.later hb6
  replace X := X.later hb6
  replace X' := X'.later hb6
  replace G := G.later hb6
  replace G' := G'.later hb6
  replace R0 := R0.old hb6
  replace R0' := R0'.old hb6
  replace KB := KB.old hb6
  replace KW := KW.old hb6
  replace KX := KX.old hb6
  replace KG := KG.old hb6
  replace hB := old_trans hB hb6
  clear hb6
  obtain ⟨KBa, ⟨KBb, KBc, KBd⟩, -⟩ := id KB
  obtain ⟨KWa, ⟨KWb, KWc, KWd⟩, -⟩ := id KW
  obtain ⟨KXa, ⟨KXb, KXc, KXd⟩, -⟩ := id KX
  obtain ⟨KGa, ⟨KGb, KGc, KGd⟩, -⟩ := id KG
  have TG7 := hd (fun w' (hS : w'.cell? ⟨w.heap.size, 0, none⟩ = some (.bool b0) ∧ w'.cell? ⟨w.heap.size, 1, none⟩ = some (.slice a0 xs0.length cap0) ∧ w'.cell? ⟨w.heap.size, 2, none⟩ = some (.slice a0' ys0.length cap0') ∧ w'.cell? ⟨w4.heap.size, 0, none⟩ = some (.bool b0) ∧ w'.cell? ⟨w4.heap.size, 1, none⟩ = some (.slice avX xs0.length cvX) ∧ w'.cell? ⟨w4.heap.size, 2, none⟩ = some (.slice avX' ys0.length cvX')) (h : Below w6.heap.size w6 w') => (toFracO b0 a0 a0' cap0 cap0' xs0 ys0 w' (R0.old h) (R0'.old h) hl0 hl0').mono (fun e w'' (k : _ ∧ _) => (⟨k, six_old hS k.2⟩ : (_ ∧ _) ∧ (w''.cell? ⟨w.heap.size, 0, none⟩ = some (.bool b0) ∧ w''.cell? ⟨w.heap.size, 1, none⟩ = some (.slice a0 xs0.length cap0) ∧ w''.cell? ⟨w.heap.size, 2, none⟩ = some (.slice a0' ys0.length cap0') ∧ w''.cell? ⟨w4.heap.size, 0, none⟩ = some (.bool b0) ∧ w''.cell? ⟨w4.heap.size, 1, none⟩ = some (.slice avX xs0.length cvX) ∧ w''.cell? ⟨w4.heap.size, 2, none⟩ = some (.slice avX' ys0.length cvX')))))
  have EQ7 := hd (fun a b ca cb n n' w' (hS : w'.cell? ⟨w.heap.size, 0, none⟩ = some (.bool b0) ∧ w'.cell? ⟨w.heap.size, 1, none⟩ = some (.slice a0 xs0.length cap0) ∧ w'.cell? ⟨w.heap.size, 2, none⟩ = some (.slice a0' ys0.length cap0') ∧ w'.cell? ⟨w4.heap.size, 0, none⟩ = some (.bool b0) ∧ w'.cell? ⟨w4.heap.size, 1, none⟩ = some (.slice avX xs0.length cvX) ∧ w'.cell? ⟨w4.heap.size, 2, none⟩ = some (.slice avX' ys0.length cvX')) (h : Below w6.heap.size w6 w') (hA : OI w' n a ca xs0) (hA' : OI w' n' b cb ys0) => (lEqF b0 avX avX' a b cvX cvX' ca cb _ _ n n' xs0 ys0 w' (X.later h) (X'.later h) hA hA').mono (fun e w'' (k : _ ∧ _) => (⟨k, six_old hS k.2⟩ : (_ ∧ _) ∧ (w''.cell? ⟨w.heap.size, 0, none⟩ = some (.bool b0) ∧ w''.cell? ⟨w.heap.size, 1, none⟩ = some (.slice a0 xs0.length cap0) ∧ w''.cell? ⟨w.heap.size, 2, none⟩ = some (.slice a0' ys0.length cap0') ∧ w''.cell? ⟨w4.heap.size, 0, none⟩ = some (.bool b0) ∧ w''.cell? ⟨w4.heap.size, 1, none⟩ = some (.slice avX xs0.length cvX) ∧ w''.cell? ⟨w4.heap.size, 2, none⟩ = some (.slice avX' ys0.length cvX')))))
  go_wp2_with fail
  go_region_held3 (fun w' => w'.cell? ⟨w.heap.size, 0, none⟩ = some (.bool b0) ∧ w'.cell? ⟨w.heap.size, 1, none⟩ = some (.slice a0 xs0.length cap0) ∧ w'.cell? ⟨w.heap.size, 2, none⟩ = some (.slice a0' ys0.length cap0') ∧ w'.cell? ⟨w4.heap.size, 0, none⟩ = some (.bool b0) ∧ w'.cell? ⟨w4.heap.size, 1, none⟩ = some (.slice avX xs0.length cvX) ∧ w'.cell? ⟨w4.heap.size, 2, none⟩ = some (.slice avX' ys0.length cvX')) (go_keep) (first | (go_at_call 7; refine (TG7.out _ (by assumption) (by repeat (first | exact Below.refl _ _ | refine Below.drew ?_ | refine old_trans ?_ (by assumption)))).mono ?_; rintro e w7a ⟨⟨⟨avZ, cvZ, avZ', cvZ', rfl, Z, Z', -⟩, hb7a⟩, hc7a⟩) | (go_at_call 9; refine (EQ7.out _ _ _ _ _ _ _ (by assumption) (by repeat (first | exact Below.refl _ _ | refine Below.drew ?_ | refine old_trans ?_ (by assumption))) Z Z').mono ?_; rintro e w7b ⟨⟨rfl, hb7b⟩, hc7b⟩))
  clear KBa KBb KBc KBd KWa KWb KWc KWd KXa KXb KXc KXd KGa KGb KGc KGd
  have hb7 : Below w6.heap.size w6 w7b := (by repeat (first | exact Below.refl _ _ | refine Below.drew ?_ | refine old_trans ?_ (by assumption)))
  clear TG7 EQ7 hc7a hc7b Z Z'
  replace W := W.later hb7
  replace W' := W'.later hb7
  replace X := X.later hb7
  replace X' := X'.later hb7
  replace G := G.later hb7
  replace G' := G'.later hb7
  replace R0 := R0.old hb7
  replace R0' := R0'.old hb7
  replace KB := KB.old hb7
  replace KW := KW.old hb7
  replace KX := KX.old hb7
  replace KG := KG.old hb7
  replace hB := old_trans hB hb7
  clear hb7
  obtain ⟨KBa, ⟨KBb, KBc, KBd⟩, -⟩ := id KB
  obtain ⟨KWa, ⟨KWb, KWc, KWd⟩, -⟩ := id KW
  obtain ⟨KXa, ⟨KXb, KXc, KXd⟩, -⟩ := id KX
  obtain ⟨KGa, ⟨KGb, KGc, KGd⟩, -⟩ := id KG
  go_wp2_with fail
  refine (lMarkF b0 _ _ avX avX' cvX cvX' xs0 ys0 (1) _ X X' sX hl0 hl0' (by omega) (by omega)).mono ?_
  rintro e w8 ⟨rfl, Xn, Xm, wm8, hg8, hk8⟩
  clear KBa KBb KBc KBd KWa KWb KWc KWd KXa KXb KXc KXd KGa KGb KGc KGd
  have Xs := X
  have X's := X'
  replace W := W.kept hg8 (Xs.sep l_W_X)
  replace W' := W'.kept hg8 (Xs.sep l_W'_X)
  replace X' := X'.kept hg8 (sepB sX.symm)
  replace G := G.kept hg8 (G.sep' l_X_G)
  replace G' := G'.kept hg8 (G'.sep' l_X_G')
  replace R0 := R0.kept hg8 (fun h0 => Xs.sep (l_R0_X h0))
  replace R0' := R0'.kept hg8 (fun h0 => Xs.sep (l_R0'_X h0))
  replace KB := KB.kept hg8 (oi_ne_old Xs l_KB_X)
  replace KW := KW.kept hg8 (oi_ne_old Xs l_KW_X)
  replace KX := KX.kept hg8 (oi_ne_young y_X_KX)
  replace KG := KG.kept hg8 (oi_ne_young y_X_KG)
  replace X's := X'
  replace hB := Below.marked hB Xs hg8 n_X hB.size
  replace W := W.kept hk8 (X's.sep l_W_X')
  replace W' := W'.kept hk8 (X's.sep l_W'_X')
  replace G := G.kept hk8 (G.sep' l_X'_G)
  replace G' := G'.kept hk8 (G'.sep' l_X'_G')
  replace R0 := R0.kept hk8 (fun h0 => X's.sep (l_R0_X' h0))
  replace R0' := R0'.kept hk8 (fun h0 => X's.sep (l_R0'_X' h0))
  replace KB := KB.kept hk8 (oi_ne_old X's l_KB_X')
  replace KW := KW.kept hk8 (oi_ne_old X's l_KW_X')
  replace KX := KX.kept hk8 (oi_ne_young y_X'_KX)
  replace KG := KG.kept hk8 (oi_ne_young y_X'_KG)
  replace hB := Below.marked hB X's hk8 n_X' hB.size
  clear X Xs X' X's
  have X := Xn
  have X' := Xm
  clear Xn Xm hg8 hk8
  obtain ⟨KBa, ⟨KBb, KBc, KBd⟩, -⟩ := id KB
  obtain ⟨KWa, ⟨KWb, KWc, KWd⟩, -⟩ := id KW
  obtain ⟨KXa, ⟨KXb, KXc, KXd⟩, -⟩ := id KX
  obtain ⟨KGa, ⟨KGb, KGc, KGd⟩, -⟩ := id KG
  go_wp2_with fail
  refine (lEqF sg avG avG' avW avW' cvG cvG' cvW cvW' _ _ _ _ tl ul _ G G' W W').mono ?_
  rintro e w9 ⟨rfl, hb9⟩
  clear KBa KBb KBc KBd KWa KWb KWc KWd KXa KXb KXc KXd KGa KGb KGc KGd
  replace W := W.later hb9
  replace W' := W'.later hb9
  replace X := X.later hb9
  replace X' := X'.later hb9
  replace G := G.later hb9
  replace G' := G'.later hb9
  replace R0 := R0.old hb9
  replace R0' := R0'.old hb9
  replace KB := KB.old hb9
  replace KW := KW.old hb9
  replace KX := KX.old hb9
  replace KG := KG.old hb9
  replace hB := old_trans hB hb9
  clear hb9
  obtain ⟨KBa, ⟨KBb, KBc, KBd⟩, -⟩ := id KB
  obtain ⟨KWa, ⟨KWb, KWc, KWd⟩, -⟩ := id KW
  obtain ⟨KXa, ⟨KXb, KXc, KXd⟩, -⟩ := id KX
  obtain ⟨KGa, ⟨KGb, KGc, KGd⟩, -⟩ := id KG
  clear X
  clear X'
  go_wp2_with fail
  refine (lMarkF sg _ _ avG avG' cvG cvG' tl ul (1) _ G G' sG htl hul (by omega) (by omega)).mono ?_
  rintro e w10 ⟨rfl, Gn, Gm, wm10, hg10, hk10⟩
  clear KBa KBb KBc KBd KWa KWb KWc KWd KXa KXb KXc KXd KGa KGb KGc KGd
  have Gs := G
  have G's := G'
  replace W := W.kept hg10 (Gs.sep l_W_G)
  replace W' := W'.kept hg10 (Gs.sep l_W'_G)
  replace G' := G'.kept hg10 (sepB sG.symm)
  replace R0 := R0.kept hg10 (fun h0 => Gs.sep (l_R0_G h0))
  replace R0' := R0'.kept hg10 (fun h0 => Gs.sep (l_R0'_G h0))
  replace KB := KB.kept hg10 (oi_ne_old Gs l_KB_G)
  replace KW := KW.kept hg10 (oi_ne_old Gs l_KW_G)
  replace KX := KX.kept hg10 (oi_ne_old Gs l_KX_G)
  replace KG := KG.kept hg10 (oi_ne_young y_G_KG)
  replace G's := G'
  replace hB := Below.marked hB Gs hg10 n_G hB.size
  replace W := W.kept hk10 (G's.sep l_W_G')
  replace W' := W'.kept hk10 (G's.sep l_W'_G')
  replace R0 := R0.kept hk10 (fun h0 => G's.sep (l_R0_G' h0))
  replace R0' := R0'.kept hk10 (fun h0 => G's.sep (l_R0'_G' h0))
  replace KB := KB.kept hk10 (oi_ne_old G's l_KB_G')
  replace KW := KW.kept hk10 (oi_ne_old G's l_KW_G')
  replace KX := KX.kept hk10 (oi_ne_old G's l_KX_G')
  replace KG := KG.kept hk10 (oi_ne_young y_G'_KG)
  replace hB := Below.marked hB G's hk10 n_G' hB.size
  clear G Gs G' G's
  have G := Gn
  have G' := Gm
  clear Gn Gm hg10 hk10
  obtain ⟨KBa, ⟨KBb, KBc, KBd⟩, -⟩ := id KB
  obtain ⟨KWa, ⟨KWb, KWc, KWd⟩, -⟩ := id KW
  obtain ⟨KXa, ⟨KXb, KXc, KXd⟩, -⟩ := id KX
  obtain ⟨KGa, ⟨KGb, KGc, KGd⟩, -⟩ := id KG
  go_wp2_with fail
  refine (lHeldF sg _ _ avG avG' cvG cvG' tl.length ul.length (1) _ G G' htl hul (by omega) (by omega)).mono ?_
  rintro e w11 ⟨rfl, hb11⟩
  clear KBa KBb KBc KBd KWa KWb KWc KWd KXa KXb KXc KXd KGa KGb KGc KGd
  replace W := W.later hb11
  replace W' := W'.later hb11
  replace G := G.later hb11
  replace G' := G'.later hb11
  replace R0 := R0.old hb11
  replace R0' := R0'.old hb11
  replace KB := KB.old hb11
  replace KW := KW.old hb11
  replace KX := KX.old hb11
  replace KG := KG.old hb11
  replace hB := old_trans hB hb11
  clear hb11
  obtain ⟨KBa, ⟨KBb, KBc, KBd⟩, -⟩ := id KB
  obtain ⟨KWa, ⟨KWb, KWc, KWd⟩, -⟩ := id KW
  obtain ⟨KXa, ⟨KXb, KXc, KXd⟩, -⟩ := id KX
  obtain ⟨KGa, ⟨KGb, KGc, KGd⟩, -⟩ := id KG
  have l_W_P := W.lt
  have l_W'_P := W'.lt
  have l_G_P := G.lt
  have l_G'_P := G'.lt
  have l_R0_P := R0.far
  have l_R0'_P := R0'.far
  have l_KB_P := KB.1
  have l_KW_P := KW.1
  have l_KX_P := KX.1
  have l_KG_P := KG.1
  have n_P := hB.size
  have l_W_P' := W.lt
  have l_W'_P' := W'.lt
  have l_G_P' := G.lt
  have l_G'_P' := G'.lt
  have l_R0_P' := R0.far
  have l_R0'_P' := R0'.far
  have l_KB_P' := KB.1
  have l_KW_P' := KW.1
  have l_KX_P' := KX.1
  have l_KG_P' := KG.1
  have n_P' := hB.size
  go_wp2_with fail
  refine (toFracO b0 a0 a0' cap0 cap0' xs0 ys0 _ R0 R0' hl0 hl0').mono ?_
  rintro e w12 ⟨⟨avP, cvP, avP', cvP', rfl, P, P', sP⟩, hb12⟩
  clear KBa KBb KBc KBd KWa KWb KWc KWd KXa KXb KXc KXd KGa KGb KGc KGd
  replace W := W.later hb12
  replace W' := W'.later hb12
  replace G := G.later hb12
  replace G' := G'.later hb12
  replace R0 := R0.old hb12
  replace R0' := R0'.old hb12
  replace KB := KB.old hb12
  replace KW := KW.old hb12
  replace KX := KX.old hb12
  replace KG := KG.old hb12
  replace hB := old_trans hB hb12
  clear hb12
  obtain ⟨KBa, ⟨KBb, KBc, KBd⟩, -⟩ := id KB
  obtain ⟨KWa, ⟨KWb, KWc, KWd⟩, -⟩ := id KW
  obtain ⟨KXa, ⟨KXb, KXc, KXd⟩, -⟩ := id KX
  obtain ⟨KGa, ⟨KGb, KGc, KGd⟩, -⟩ := id KG
  have l_W_H := W.lt
  have l_W'_H := W'.lt
  have l_G_H := G.lt
  have l_G'_H := G'.lt
  have l_P_H := P.lt
  have l_P'_H := P'.lt
  have l_R0_H := R0.far
  have l_R0'_H := R0'.far
  have l_KB_H := KB.1
  have l_KW_H := KW.1
  have l_KX_H := KX.1
  have l_KG_H := KG.1
  have n_H := hB.size
  have l_W_H' := W.lt
  have l_W'_H' := W'.lt
  have l_G_H' := G.lt
  have l_G'_H' := G'.lt
  have l_P_H' := P.lt
  have l_P'_H' := P'.lt
  have l_R0_H' := R0.far
  have l_R0'_H' := R0'.far
  have l_KB_H' := KB.1
  have l_KW_H' := KW.1
  have l_KX_H' := KX.1
  have l_KG_H' := KG.1
  have n_H' := hB.size
  go_wp2_with fail
  refine (I.out _ _ _ _ _ _ _ P.inI P'.inI (hTT.out _ hB)).mono ?_
  rintro e w13 ⟨⟨avH, cvH, avH', cvH', rfl, H, H', sH⟩, hb13⟩
  clear KBa KBb KBc KBd KWa KWb KWc KWd KXa KXb KXc KXd KGa KGb KGc KGd
  replace W := W.later hb13
  replace W' := W'.later hb13
  replace G := G.later hb13
  replace G' := G'.later hb13
  replace P := P.later hb13
  replace P' := P'.later hb13
  replace R0 := R0.old hb13
  replace R0' := R0'.old hb13
  replace KB := KB.old hb13
  replace KW := KW.old hb13
  replace KX := KX.old hb13
  replace KG := KG.old hb13
  replace hB := old_trans hB hb13
  clear hb13
  obtain ⟨KBa, ⟨KBb, KBc, KBd⟩, -⟩ := id KB
  obtain ⟨KWa, ⟨KWb, KWc, KWd⟩, -⟩ := id KW
  obtain ⟨KXa, ⟨KXb, KXc, KXd⟩, -⟩ := id KX
  obtain ⟨KGa, ⟨KGb, KGc, KGd⟩, -⟩ := id KG
  clear P
  clear P'
  clear KBa KBb KBc KBd KWa KWb KWc KWd KXa KXb KXc KXd KGa KGb KGc KGd
  have y_W_KH := W.lt
  have y_W'_KH := W'.lt
  have y_G_KH := G.lt
  have y_G'_KH := G'.lt
  have y_H_KH := H.lt
  have y_H'_KH := H'.lt
  have KH_ := Cel3.new w13 (.bool sg) (.slice avH tl.length cvH) (.slice avH' ul.length cvH') 26
  have halKH : Below w13.heap.size w13 (w13.alloc (.cells #[.bool sg, .slice avH tl.length cvH, .slice avH' ul.length cvH'] 26)) := old_alloc (Below.refl _ _) _
  replace W := W.later halKH
  replace W' := W'.later halKH
  replace G := G.later halKH
  replace G' := G'.later halKH
  replace H := H.later halKH
  replace H' := H'.later halKH
  replace R0 := R0.old halKH
  replace R0' := R0'.old halKH
  replace KB := KB.old halKH
  replace KW := KW.old halKH
  replace KX := KX.old halKH
  replace KG := KG.old halKH
  replace hB := old_trans hB halKH
  clear halKH
  have KH := KH_
  clear KH_
  obtain ⟨KBa, ⟨KBb, KBc, KBd⟩, -⟩ := id KB
  obtain ⟨KWa, ⟨KWb, KWc, KWd⟩, -⟩ := id KW
  obtain ⟨KXa, ⟨KXb, KXc, KXd⟩, -⟩ := id KX
  obtain ⟨KGa, ⟨KGb, KGc, KGd⟩, -⟩ := id KG
  obtain ⟨KHa, ⟨KHb, KHc, KHd⟩, -⟩ := id KH
  go_wp2_with fail
  refine (lEqF sg avH avH' avW avW' cvH cvH' cvW cvW' _ _ _ _ tl ul _ H H' W W').mono ?_
  rintro e w14 ⟨rfl, hb14⟩
  clear KBa KBb KBc KBd KWa KWb KWc KWd KXa KXb KXc KXd KGa KGb KGc KGd KHa KHb KHc KHd
  replace W := W.later hb14
  replace W' := W'.later hb14
  replace G := G.later hb14
  replace G' := G'.later hb14
  replace H := H.later hb14
  replace H' := H'.later hb14
  replace R0 := R0.old hb14
  replace R0' := R0'.old hb14
  replace KB := KB.old hb14
  replace KW := KW.old hb14
  replace KX := KX.old hb14
  replace KG := KG.old hb14
  replace KH := KH.old hb14
  replace hB := old_trans hB hb14
  clear hb14
  obtain ⟨KBa, ⟨KBb, KBc, KBd⟩, -⟩ := id KB
  obtain ⟨KWa, ⟨KWb, KWc, KWd⟩, -⟩ := id KW
  obtain ⟨KXa, ⟨KXb, KXc, KXd⟩, -⟩ := id KX
  obtain ⟨KGa, ⟨KGb, KGc, KGd⟩, -⟩ := id KG
  obtain ⟨KHa, ⟨KHb, KHc, KHd⟩, -⟩ := id KH
  go_wp2_with fail
  refine (lHeldF sg _ _ avG avG' cvG cvG' tl.length ul.length (1) _ G G' htl hul (by omega) (by omega)).mono ?_
  rintro e w15 ⟨rfl, hb15⟩
  clear KBa KBb KBc KBd KWa KWb KWc KWd KXa KXb KXc KXd KGa KGb KGc KGd KHa KHb KHc KHd
  replace W := W.later hb15
  replace W' := W'.later hb15
  replace G := G.later hb15
  replace G' := G'.later hb15
  replace H := H.later hb15
  replace H' := H'.later hb15
  replace R0 := R0.old hb15
  replace R0' := R0'.old hb15
  replace KB := KB.old hb15
  replace KW := KW.old hb15
  replace KX := KX.old hb15
  replace KG := KG.old hb15
  replace KH := KH.old hb15
  replace hB := old_trans hB hb15
  clear hb15
  obtain ⟨KBa, ⟨KBb, KBc, KBd⟩, -⟩ := id KB
  obtain ⟨KWa, ⟨KWb, KWc, KWd⟩, -⟩ := id KW
  obtain ⟨KXa, ⟨KXb, KXc, KXd⟩, -⟩ := id KX
  obtain ⟨KGa, ⟨KGb, KGc, KGd⟩, -⟩ := id KG
  obtain ⟨KHa, ⟨KHb, KHc, KHd⟩, -⟩ := id KH
  go_wp2
  go_ret
  exact ⟨rfl, hB⟩

set_option maxRecDepth 100000 in
theorem FnExactFracRoot_lifted (os : Os) (started : os.Started) (H : Type) (enc : TypeId × Value → H) :
    ReturnsInHanded {} Tryz.checked os 3 .any (fun w args => (Rows.fnExactFracRootSpec.pre enc Tryz.prog Tryz.f3 [] false w args ∧ laidMetH Tryz.prog LHL w) ∧ sizedMet enc Tryz.prog Tryz.f3 (OpenSpec.ofChange Rows.fnExactFracRootSpec) false w args)
      (Rows.fnExactFracRootSpec.post enc Tryz.prog Tryz.f3 false true false false) := by
  refine returnsInHanded_of_change_and (C := Tryz.checked) (X := fun w _ => laidMetH Tryz.prog LHL w) (fun _ _ _ hh h => h.of_heap hh) LH_own started (by kernel_rfl) Tryz.func3
    (ChangeSpec.witness_shaped (enc := enc) (C := Tryz.checked) (os := os) (X := fun w _ => laidMetH Tryz.prog LHL w) false (World.doorLaid Tryz.prog LH_fuel os) #[.agg #[.bool false, .slice none 0 0, .slice none 0 0]] 8 rfl (LH_shaped os _) (by kernel_rfl) (by kernel_rfl) (by kernel_rfl) (LH_met os _)) ?_
  intro W base args ds gs before hval0 hW _ _ hL _
  have hval : ∀ (j : Nat) t v, Tryz.f3.params[j]? = some t → args[j]? = some v → Value.okWide Tryz.prog W .any base t v := hval0
  have hW' := hW
  obtain ⟨p, q, hA0, hV, rfl, hfz, hnd⟩ := hW
  have hA : DataW.TrodAll enc Tryz.prog W 0 (fun _ => true) true Tryz.f3.params.toList args.toList ds p := hA0
  rw [Tryz.params3] at hA hval
  obtain ⟨v0, vs0, d0, ds0, p0, q0, hargs, rfl, rfl, h0, r0⟩ := trodAll_cons hA
  obtain ⟨rfl, rfl, rfl⟩ := trodAll_nil r0
  obtain rfl : args = #[v0] := by cases args; simp_all
  obtain ⟨rfl, rfl⟩ := trodVars_none hV
  have k0 := h0
  have lt0 : ∀ x ∈ p0, x.block < W.heap.size := by obtain ⟨m, hm⟩ := k0; exact DataW.trod_lt m _ _ _ hm
  obtain ⟨b0, a0, len0, cap0, xs0, a0', len0', cap0', ys0, rfl, wb0, wb0'⟩ := open_lfrac (hval 0 24 v0 rfl rfl) h0
  clear hA0 hval0
  refine (FnExactFracRoot_walk b0 a0 len0 cap0 xs0 a0' len0' cap0' ys0 W wb0 wb0' (both_of hL)).mono fun e W' ⟨he, bel⟩ => ?_
  subst he
  exact ⟨_, rfl, _, _, _, [], _, [], hW', trodAll_mk1 (shut_bool Tryz.underlying4 _), (trodAll_cons_mk (Below.trod jf1 (by kernel_rfl) (of_decide_eq_true (by kernel_rfl)) k0 bel lt0) trodAll_mk0), rfl, bel.frame _, fun h => by cases h⟩

theorem FnExactFracRoot_k0 : (Rows.fnExactFracRootRow.wf (OpenSpec.ofChange Rows.fnExactFracRootSpec)) = true := by kernel_rfl
theorem FnExactFracRoot_k3 : (Tryz.f3.params.all (Tryz.prog.readableRec ·)) = true := by kernel_rfl
theorem FnExactFracRoot_k4 : (namedTie Tryz.prog Rows.fnExactFracRootRow.named Rows.fnExactFracRootSpec.vars) = true := by kernel_rfl
theorem FnExactFracRoot_k5 : ((Rows.fnExactFracRootRow.stops == [])) = true := by kernel_rfl
theorem FnExactFracRoot_k7 : ((Rows.fnExactFracRootRow.knobs == [])) = true := by kernel_rfl
theorem FnExactFracRoot_k9 : ((Rows.fnExactFracRootRow.inPlace == Tryz.prog.inPlace 3)) = true := by kernel_rfl
theorem FnExactFracRoot_k10 : ((Rows.fnExactFracRootRow.unfollowed == Tryz.prog.unfollowed 3)) = true := by kernel_rfl
theorem FnExactFracRoot_k11 : ((Rows.fnExactFracRootRow.recurses == Tryz.prog.recurses 3)) = true := by kernel_rfl
theorem FnExactFracRoot_k12 : ((Rows.fnExactFracRootRow.named == Tryz.prog.varsNamed 3)) = true := by kernel_rfl
theorem FnExactFracRoot_k13 : ((Rows.fnExactFracRootRow.maps == (Tryz.f3.params.toList ++ Rows.fnExactFracRootSpec.plain.varTypes Tryz.prog).any (Tryz.prog.mapsRec ·))) = true := by kernel_rfl
theorem FnExactFracRoot_k14 : ((Rows.fnExactFracRootRow.ifaces == (Tryz.f3.params.toList ++ Rows.fnExactFracRootSpec.plain.varTypes Tryz.prog).any (Tryz.prog.ifacesRec ·))) = true := by kernel_rfl
theorem FnExactFracRoot_k15 : ((Rows.fnExactFracRootRow.mapsOut == Tryz.prog.mapsAmong Tryz.f3.resultTypes.toList)) = true := by kernel_rfl
theorem FnExactFracRoot_k16 : ((Rows.fnExactFracRootRow.loops == (Tryz.f3.params.toList ++ Rows.fnExactFracRootSpec.plain.varTypes Tryz.prog).any (Tryz.prog.loopsFrom ·))) = true := by kernel_rfl
theorem FnExactFracRoot_k17 : ((Rows.fnExactFracRootRow.wideKeys == (Tryz.f3.params.toList ++ Rows.fnExactFracRootSpec.plain.varTypes Tryz.prog ++ Tryz.f3.resultTypes.toList).any (Tryz.prog.wideKeysFrom ·))) = true := by kernel_rfl
theorem FnExactFracRoot_k18 : (Rows.fnExactFracRootSpec.vars.all (Tryz.prog.varReadable ·)) = true := by kernel_rfl
theorem FnExactFracRoot_k19 : (Tryz.f3.resultTypes.all (fun t => Tryz.prog.readableRec t && decide (t < Tryz.prog.types.size))) = true := by kernel_rfl
theorem FnExactFracRoot_k20 : ((Rows.fnExactFracRootRow.ifacesOut == Tryz.f3.resultTypes.toList.any (Tryz.prog.ifacesRec ·))) = true := by kernel_rfl
theorem FnExactFracRoot_k21 : ((Rows.fnExactFracRootRow.loopsOut == Tryz.f3.resultTypes.toList.any (Tryz.prog.loopsFrom ·))) = true := by kernel_rfl
theorem FnExactFracRoot_k23 : (Rows.fnExactFracRootRow.shortTexts.isNone) = true := by kernel_rfl
theorem FnExactFracRoot_k28 : ((Rows.fnExactFracRootRow.kinds == (if Rows.fnExactFracRootRow.domain.isEmpty then [] else Tryz.f3.params.toList.map fun t => match Tryz.prog.underlying t with | some (.int k) => some k | _ => none))) = true := by kernel_rfl
theorem FnExactFracRoot_k29 : ((Rows.fnExactFracRootRow.pinned == Rows.fnExactFracRootRow.pinnedBy)) = true := by kernel_rfl
theorem FnExactFracRoot_k30 : ((Rows.fnExactFracRootRow.veiled == (Tryz.f3.params.toList ++ Rows.fnExactFracRootSpec.plain.varTypes Tryz.prog ++ Tryz.f3.resultTypes.toList).any (Tryz.prog.veiledRec ·))) = true := by kernel_rfl
theorem FnExactFracRoot_k31 : (Rows.fnExactFracRootRow.veiledFits Tryz.prog Tryz.f3.params.toList (Tryz.f3.params.toList ++ Rows.fnExactFracRootSpec.plain.varTypes Tryz.prog ++ Tryz.f3.resultTypes.toList)) = true := by kernel_rfl
set_option maxRecDepth 100000 in
theorem FnExactFracRoot_closed : joinedFacts Tryz.prog 3 Tryz.f3 Rows.fnExactFracRootSpec Rows.fnExactFracRootRow = true := (and2 (and2 (and2 (and2 (and2 (and2 (and2 (and2 (and2 (and2 (and2 (and2 (and2 (and2 (and2 (and2 (and2 (and2 (and2 (and2 (and2 (and2 (and2 (and2 (and2 (and2 (and2 (and2 (and2 (and2 (and2 FnExactFracRoot_k0 jf1) jf2) FnExactFracRoot_k3) FnExactFracRoot_k4) FnExactFracRoot_k5) jf6) FnExactFracRoot_k7) jf8) FnExactFracRoot_k9) FnExactFracRoot_k10) FnExactFracRoot_k11) FnExactFracRoot_k12) FnExactFracRoot_k13) FnExactFracRoot_k14) FnExactFracRoot_k15) FnExactFracRoot_k16) FnExactFracRoot_k17) FnExactFracRoot_k18) FnExactFracRoot_k19) FnExactFracRoot_k20) FnExactFracRoot_k21) jf22) FnExactFracRoot_k23) jf24) jf25) jf26) jf27) FnExactFracRoot_k28) FnExactFracRoot_k29) FnExactFracRoot_k30) FnExactFracRoot_k31)
theorem FnExactFracRoot_row : Rows.FnExactFracRootSaid :=
  OpenClaim.holds_of_wide 3 Tryz.f3 rfl rfl rfl rfl rfl rfl rfl ⟨rfl, rfl, rfl, rfl, rfl⟩ rfl rfl rfl rfl rfl (by kernel_rfl) Tryz.func3 FnExactFracRoot_closed
    (of_decide_eq_true (by kernel_rfl)) (by unfold Func.isWrapper; first | (rw [if_pos (by decide +kernel)]; kernel_rfl) | (rw [if_neg (by decide +kernel)]; exact ⟨rfl, rfl⟩))
    (fun os started H enc _ => FnExactFracRoot_lifted os started H enc)

theorem FnExactFracRoot_proved : Rows.FnExactFracRootCardSaid :=
  Claim7.holds_tied_plain_at .later [] [.data, .data, .handle] true (true, "d08cfaf9a017bd42d346fa062d4d4be3538dd4a9b00f40430ae896b55ebc9905") true
    FnExactFracRoot_row (fun _ h => by cases h) (by kernel_rfl) (fun _ h => by cases h) fnExactFracRoot_row_tie rfl ⟨rfl, rfl⟩ (by kernel_rfl) rfl
    (fun f fn hf hfn => by
      obtain rfl : f = 3 := Option.some.inj ((show Tryz.prog.funcNamed "loop.example/pinfold/laws.FnExactFracRoot" = some 3 by kernel_rfl).symm.trans hf) |>.symm
      obtain rfl : fn = Tryz.f3 := (Option.some.inj (Tryz.func3.symm.trans hfn)).symm
      exact ⟨by kernel_rfl, fun j t ht => by
        rw [Tryz.params3] at ht
        have hm : t ∈ [24] := by simpa using Array.mem_of_getElem? ht
        have hall : ([24].all fun u => !Tryz.prog.wantsStandIn u) = true := by kernel_rfl
        exact (show Tryz.prog.wantsStandIn t = false by simpa using List.all_eq_true.1 hall t hm)⟩)
    (by kernel_rfl)
end Go.Proofs.YtbcdeddbkckaeaaGreatDoor
