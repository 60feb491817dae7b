/- The program's FracSub answers as the specification's FracSub at every argument; it writes into no argument, and what it answers is its own. Condition: the library's tables and its handle of errors hold what their texts lay (the card ties them). -/
import Derived.Test.YtpamnpdigoikoaaGreatDoorRows
import Derived.Test.YtpamnpdigoikoaaGreatDoorTie
import Derived.Test.YtpamnpdigoikoaaGreatDoorCards
import Derived.WalkKit
import Derived.ProofKit
import Derived.OpenShut
import Derived.Below
import Derived.Carry
import Derived.Test.YtpamnpdigoikoaaGreatDoorN0
import Derived.Test.YtpamnpdigoikoaaGreatDoorLH
import Derived.Test.YtpamnpdigoikoaaGreatDoorFL
import Derived.Test.YtpamnpdigoikoaaGreatDoorFX
import Derived.Test.YtpamnpdigoikoaaGreatDoorBJ
namespace Go.Proofs.YtpamnpdigoikoaaGreatDoor
open Go.ChangeShapes Go.WideShapes Go.ChangeAt Go.RowKit
set_option linter.unusedVariables false
set_option maxRecDepth 100000

set_option maxRecDepth 100000 in
set_option maxHeartbeats 16000000 in
theorem FnExactFracSub_walk (b0 : Bool) (a0 : Option Addr) (len0 cap0 : Nat) (xs0 : List Int) (a0' : Option Addr) (len0' cap0' : Nat) (ys0 : List Int) (b1 : Bool) (a1 : Option Addr) (len1 cap1 : Nat) (xs1 : List Int) (a1' : Option Addr) (len1' cap1' : Nat) (ys1 : List Int) (w : World) (wb0 : InI w a0 len0 cap0 xs0) (wb0' : InI w a0' len0' cap0' ys0) (wb1 : InI w a1 len1 cap1 xs1) (wb1' : InI w a1' len1' cap1' ys1) (hT : Tab w ∧ ET w) :
    Calls Tryz.prog 4 #[.agg #[.bool b0, .slice a0 len0 cap0, .slice a0' len0' cap0'], .agg #[.bool b1, .slice a1 len1 cap1, .slice a1' len1' cap1']] w fun e w' => e = .returned (.bool true) ∧ Below w.heap.size w w' := by
  obtain rfl := wb0.1
  obtain rfl := wb0'.1
  have hlen0 : xs0.length ≤ maxLen := Nat.le_trans wb0.2.1 wb0.2.2.1
  have hlen0' : ys0.length ≤ maxLen := Nat.le_trans wb0'.2.1 wb0'.2.2.1
  obtain rfl := wb1.1
  obtain rfl := wb1'.1
  have hlen1 : xs1.length ≤ maxLen := Nat.le_trans wb1.2.1 wb1.2.2.1
  have hlen1' : ys1.length ≤ maxLen := Nat.le_trans wb1'.2.1 wb1'.2.2.1
  have SZ := hd (fun w' => lSzFrac b0 a0 a0' xs0.length ys0.length cap0 cap0' 1048576 w' hlen0 hlen0' (by omega) (by omega))
  unfold szF at SZ
  have e00 : Below w.heap.size w ((w.alloc (.cells #[.bool b0, .slice a0 xs0.length cap0, .slice a0' ys0.length cap0'] 24)).alloc (.cells #[.bool b1, .slice a1 xs1.length cap1, .slice a1' ys1.length cap1'] 24)) := (by repeat (first | exact Below.refl _ _ | refine Below.drew ?_ | refine old_alloc ?_ _ | refine old_trans ?_ (by assumption)))
  by_cases c : (xs0.length : Int) + ys0.length ≤ 1048576
  case neg =>
    rw [if_neg c] at SZ
    go_enter Tryz.func4, Tryz.ntmps4
    go_wp2_with fail
    refine (SZ.out _).mono ?_
    rintro e w1 ⟨rfl, hb1⟩
    go_wp2
    go_ret
    exact ⟨rfl, old_trans e00 hb1⟩
  rw [if_pos c] at SZ
  have hl0 : xs0.length ≤ 1048576 := by omega
  have hl0' : ys0.length ≤ 1048576 := by omega
  have c' : ¬ (1048576 - (xs0.length : Int) - (ys0.length : Int) < 0) := by omega
  have SY := hd (fun w' => lSzFrac b1 a1 a1' xs1.length ys1.length cap1 cap1' (1048576 - (xs0.length : Int) - (ys0.length : Int)) w' hlen1 hlen1' (by omega) (by omega))
  unfold szF at SY
  have KA := (Cel3.new w (.bool b0) (.slice a0 xs0.length cap0) (.slice a0' ys0.length cap0') 24).old (old_alloc (Below.refl _ _) (.cells #[.bool b1, .slice a1 xs1.length cap1, .slice a1' ys1.length cap1'] 24))
  have KB := Cel3.new (w.alloc (.cells #[.bool b0, .slice a0 xs0.length cap0, .slice a0' ys0.length cap0'] 24)) (.bool b1) (.slice a1 xs1.length cap1) (.slice a1' ys1.length cap1') 24
  simp only [World.size_alloc] at KB
  by_cases c1 : (xs1.length : Int) + ys1.length ≤ 1048576 - (xs0.length : Int) - (ys0.length : Int)
  case neg =>
    rw [if_neg c1] at SY
    go_enter Tryz.func4, Tryz.ntmps4
    go_wp2_with fail
    refine (SZ.out _).mono ?_
    rintro e w1 ⟨rfl, hb1⟩
    obtain ⟨k1, ⟨k2, k3, k4⟩, -⟩ := KB.old hb1
    go_wp2_with fail
    refine (SY.out _).mono ?_
    rintro e w2 ⟨rfl, hb2⟩
    go_wp2
    go_ret
    exact ⟨rfl, old_trans (old_trans e00 hb1) hb2⟩
  rw [if_pos c1] at SY
  have hl1 : xs1.length ≤ 1048576 := by omega
  have hl1' : ys1.length ≤ 1048576 := by omega
  have c1' : ¬ (1048576 - (xs0.length : Int) - (ys0.length : Int) - (xs1.length : Int) - (ys1.length : Int) < 0) := by omega
  have S := hd (fun a b la lb ca cb c d lc ld cc cd w (h1 : InI w a la ca xs0) (h2 : InI w b lb cb ys0) (h3 : InI w c lc cc xs1) (h4 : InI w d ld cd ys1) => sFracSub b0 a b la lb ca cb xs0 ys0 b1 c d lc ld cc cd xs1 ys1 w h1 h2 h3 h4)
  have I := hd (fun a b la lb ca cb c d lc ld cc cd w (h1 : InI w a la ca xs0) (h2 : InI w b lb cb ys0) (h3 : InI w c lc cc xs1) (h4 : InI w d ld cd ys1) (hT : Tab w ∧ ET w) => iFracSub b0 a b la lb ca cb xs0 ys0 b1 c d lc ld cc cd xs1 ys1 w h1 h2 h3 h4 hT.1 hT.2)
  simp only [FRes] at S I
  have htl : (fT (fracOk b0 xs0 ys0 && (fracOk b1 xs1 ys1 && lowB (sumN b0 (!b1) (val xs0 * val ys1) (val xs1 * val ys0)) (val ys0 * val ys1))) (sumN b0 (!b1) (val xs0 * val ys1) (val xs1 * val ys0)) (val ys0 * val ys1)).length ≤ 1048576 := fT_len ok2_low
  have hul : (fU (fracOk b0 xs0 ys0 && (fracOk b1 xs1 ys1 && lowB (sumN b0 (!b1) (val xs0 * val ys1) (val xs1 * val ys0)) (val ys0 * val ys1))) (sumN b0 (!b1) (val xs0 * val ys1) (val xs1 * val ys0)) (val ys0 * val ys1)).length ≤ 1048576 := fU_len ok2_low
  generalize fT (fracOk b0 xs0 ys0 && (fracOk b1 xs1 ys1 && lowB (sumN b0 (!b1) (val xs0 * val ys1) (val xs1 * val ys0)) (val ys0 * val ys1))) (sumN b0 (!b1) (val xs0 * val ys1) (val xs1 * val ys0)) (val ys0 * val ys1) = tl at *
  generalize fU (fracOk b0 xs0 ys0 && (fracOk b1 xs1 ys1 && lowB (sumN b0 (!b1) (val xs0 * val ys1) (val xs1 * val ys0)) (val ys0 * val ys1))) (sumN b0 (!b1) (val xs0 * val ys1) (val xs1 * val ys0)) (val ys0 * val ys1) = ul at *
  generalize fS (fracOk b0 xs0 ys0 && (fracOk b1 xs1 ys1 && lowB (sumN b0 (!b1) (val xs0 * val ys1) (val xs1 * val ys0)) (val ys0 * val ys1))) (sumS b0 (!b1) (val xs0 * val ys1) (val xs1 * val ys0)) (sumN b0 (!b1) (val xs0 * val ys1) (val xs1 * val ys0)) = sg at *
  generalize (fracOk b0 xs0 ys0 && (fracOk b1 xs1 ys1 && lowB (sumN b0 (!b1) (val xs0 * val ys1) (val xs1 * val ys0)) (val ys0 * val ys1))) = r at *
  have hx1 : ¬ (1 + (xs0.length : Int) + (ys0.length : Int) + (xs1.length : Int) + (ys1.length : Int) < 0) := by omega
  have hx2 : ¬ (1 + (tl.length : Int) + (ul.length : Int) < 0) := by omega
  have hTT := hd (fun (w' : World) (h : Below w.heap.size w w') => (⟨hT.1.old h, hT.2.old h⟩ : Tab w' ∧ ET w'))
  have hB := e00
  have R0 := wb0.old hB
  have R0' := wb0'.old hB
  have R1 := wb1.old hB
  have R1' := wb1'.old hB
  clear hT wb0 wb0' wb1 wb1' hlen0 hlen0' hlen1 hlen1' c c1 e00
  go_enter Tryz.func4, Tryz.ntmps4
  obtain ⟨KAa, ⟨KAb, KAc, KAd⟩, -⟩ := id KA
  obtain ⟨KBa, ⟨KBb, KBc, KBd⟩, -⟩ := id KB
  go_wp2_with fail
  refine (SZ.out _).mono ?_
  rintro e w1 ⟨rfl, hb1⟩
  clear KAa KAb KAc KAd KBa KBb KBc KBd
  replace R0 := R0.old hb1
  replace R0' := R0'.old hb1
  replace R1 := R1.old hb1
  replace R1' := R1'.old hb1
  replace KA := KA.old hb1
  replace KB := KB.old hb1
  replace hB := old_trans hB hb1
  clear hb1
  obtain ⟨KAa, ⟨KAb, KAc, KAd⟩, -⟩ := id KA
  obtain ⟨KBa, ⟨KBb, KBc, KBd⟩, -⟩ := id KB
  go_wp2_with fail
  refine (SY.out _).mono ?_
  rintro e w2 ⟨rfl, hb2⟩
  clear KAa KAb KAc KAd KBa KBb KBc KBd
  replace R0 := R0.old hb2
  replace R0' := R0'.old hb2
  replace R1 := R1.old hb2
  replace R1' := R1'.old hb2
  replace KA := KA.old hb2
  replace KB := KB.old hb2
  replace hB := old_trans hB hb2
  clear hb2
  obtain ⟨KAa, ⟨KAb, KAc, KAd⟩, -⟩ := id KA
  obtain ⟨KBa, ⟨KBb, KBc, KBd⟩, -⟩ := id KB
  have l_R0_W := R0.far
  have l_R0'_W := R0'.far
  have l_R1_W := R1.far
  have l_R1'_W := R1'.far
  have l_KA_W := KA.1
  have l_KB_W := KB.1
  have n_W := hB.size
  have l_R0_W' := R0.far
  have l_R0'_W' := R0'.far
  have l_R1_W' := R1.far
  have l_R1'_W' := R1'.far
  have l_KA_W' := KA.1
  have l_KB_W' := KB.1
  have n_W' := hB.size
  have hc0_3 : w2.cell? ⟨w.heap.size, 0, none⟩ = some (.bool b0) ∧ w2.cell? ⟨w.heap.size, 1, none⟩ = some (.slice a0 xs0.length cap0) ∧ w2.cell? ⟨w.heap.size, 2, none⟩ = some (.slice a0' ys0.length cap0') ∧ w2.cell? ⟨w.heap.size + 1, 0, none⟩ = some (.bool b1) ∧ w2.cell? ⟨w.heap.size + 1, 1, none⟩ = some (.slice a1 xs1.length cap1) ∧ w2.cell? ⟨w.heap.size + 1, 2, none⟩ = some (.slice a1' ys1.length cap1') := ⟨KAb, KAc, KAd, KBb, KBc, KBd⟩
  have TF0_3 := hd (fun w' (hS : w'.cell? ⟨w.heap.size, 0, none⟩ = some (.bool b0) ∧ w'.cell? ⟨w.heap.size, 1, none⟩ = some (.slice a0 xs0.length cap0) ∧ w'.cell? ⟨w.heap.size, 2, none⟩ = some (.slice a0' ys0.length cap0') ∧ w'.cell? ⟨w.heap.size + 1, 0, none⟩ = some (.bool b1) ∧ w'.cell? ⟨w.heap.size + 1, 1, none⟩ = some (.slice a1 xs1.length cap1) ∧ w'.cell? ⟨w.heap.size + 1, 2, none⟩ = some (.slice a1' ys1.length cap1')) (h : Below w2.heap.size w2 w') => (toFracO b0 a0 a0' cap0 cap0' xs0 ys0 w' (R0.old h) (R0'.old h) hl0 hl0').mono (fun e w'' (k : _ ∧ _) => (⟨k, six_old hS k.2⟩ : (_ ∧ _) ∧ (w''.cell? ⟨w.heap.size, 0, none⟩ = some (.bool b0) ∧ w''.cell? ⟨w.heap.size, 1, none⟩ = some (.slice a0 xs0.length cap0) ∧ w''.cell? ⟨w.heap.size, 2, none⟩ = some (.slice a0' ys0.length cap0') ∧ w''.cell? ⟨w.heap.size + 1, 0, none⟩ = some (.bool b1) ∧ w''.cell? ⟨w.heap.size + 1, 1, none⟩ = some (.slice a1 xs1.length cap1) ∧ w''.cell? ⟨w.heap.size + 1, 2, none⟩ = some (.slice a1' ys1.length cap1')))))
  have TF1_3 := hd (fun w' (hS : w'.cell? ⟨w.heap.size, 0, none⟩ = some (.bool b0) ∧ w'.cell? ⟨w.heap.size, 1, none⟩ = some (.slice a0 xs0.length cap0) ∧ w'.cell? ⟨w.heap.size, 2, none⟩ = some (.slice a0' ys0.length cap0') ∧ w'.cell? ⟨w.heap.size + 1, 0, none⟩ = some (.bool b1) ∧ w'.cell? ⟨w.heap.size + 1, 1, none⟩ = some (.slice a1 xs1.length cap1) ∧ w'.cell? ⟨w.heap.size + 1, 2, none⟩ = some (.slice a1' ys1.length cap1')) (h : Below w2.heap.size w2 w') => (toFracO b1 a1 a1' cap1 cap1' xs1 ys1 w' (R1.old h) (R1'.old h) hl1 hl1').mono (fun e w'' (k : _ ∧ _) => (⟨k, six_old hS k.2⟩ : (_ ∧ _) ∧ (w''.cell? ⟨w.heap.size, 0, none⟩ = some (.bool b0) ∧ w''.cell? ⟨w.heap.size, 1, none⟩ = some (.slice a0 xs0.length cap0) ∧ w''.cell? ⟨w.heap.size, 2, none⟩ = some (.slice a0' ys0.length cap0') ∧ w''.cell? ⟨w.heap.size + 1, 0, none⟩ = some (.bool b1) ∧ w''.cell? ⟨w.heap.size + 1, 1, none⟩ = some (.slice a1 xs1.length cap1) ∧ w''.cell? ⟨w.heap.size + 1, 2, none⟩ = some (.slice a1' ys1.length cap1')))))
  have CT_3 := hd (fun a b ca cb c d cc cd w' (hS : w'.cell? ⟨w.heap.size, 0, none⟩ = some (.bool b0) ∧ w'.cell? ⟨w.heap.size, 1, none⟩ = some (.slice a0 xs0.length cap0) ∧ w'.cell? ⟨w.heap.size, 2, none⟩ = some (.slice a0' ys0.length cap0') ∧ w'.cell? ⟨w.heap.size + 1, 0, none⟩ = some (.bool b1) ∧ w'.cell? ⟨w.heap.size + 1, 1, none⟩ = some (.slice a1 xs1.length cap1) ∧ w'.cell? ⟨w.heap.size + 1, 2, none⟩ = some (.slice a1' ys1.length cap1')) (h : Below w2.heap.size w2 w') (h1 : InI w' a xs0.length ca xs0) (h2 : InI w' b ys0.length cb ys0) (h3 : InI w' c xs1.length cc xs1) (h4 : InI w' d ys1.length cd ys1) => (S.out _ _ _ _ _ _ _ _ _ _ _ _ _ h1 h2 h3 h4).mono (fun e w'' (k : _ ∧ _) => (⟨k, six_old hS k.2, h.size⟩ : (_ ∧ _) ∧ (w''.cell? ⟨w.heap.size, 0, none⟩ = some (.bool b0) ∧ w''.cell? ⟨w.heap.size, 1, none⟩ = some (.slice a0 xs0.length cap0) ∧ w''.cell? ⟨w.heap.size, 2, none⟩ = some (.slice a0' ys0.length cap0') ∧ w''.cell? ⟨w.heap.size + 1, 0, none⟩ = some (.bool b1) ∧ w''.cell? ⟨w.heap.size + 1, 1, none⟩ = some (.slice a1 xs1.length cap1) ∧ w''.cell? ⟨w.heap.size + 1, 2, none⟩ = some (.slice a1' ys1.length cap1')) ∧ w2.heap.size ≤ w'.heap.size)))
  have nwB_3 : w.heap.size < w2.heap.size := cell_lt hc0_3.1
  have nwC_3 : w.heap.size + 1 < w2.heap.size := cell_lt hc0_3.2.2.2.1
  have nw0_3 := World.new_ne w2 ⟨w.heap.size, 0, none⟩ KAb
  have nv0_3 := World.new_ne w2 ⟨w.heap.size + 1, 0, none⟩ KBb
  have nw1_3 := World.new_ne w2 ⟨w.heap.size, 1, none⟩ KAc
  have nv1_3 := World.new_ne w2 ⟨w.heap.size + 1, 1, none⟩ KBc
  have nw2_3 := World.new_ne w2 ⟨w.heap.size, 2, none⟩ KAd
  have nv2_3 := World.new_ne w2 ⟨w.heap.size + 1, 2, none⟩ KBd
  go_upto_region 8 with fail
  go_cut [6, 7] (fun s t wx => ∃ pb av cv av' cv', s = .pointer (some ⟨pb, 0, none⟩) ∧ t = .bool r ∧ Cel3 wx pb (.bool sg) (.slice av tl.length cv) (.slice av' ul.length cv') ∧ OI wx w2.heap.size av cv tl ∧ OI wx w2.heap.size av' cv' ul ∧ Sep av av' ∧ Below w2.heap.size w2 wx)
  case first =>
    go_wp2_with fail
    go_region_held3 (fun w' => w'.cell? ⟨w.heap.size, 0, none⟩ = some (.bool b0) ∧ w'.cell? ⟨w.heap.size, 1, none⟩ = some (.slice a0 xs0.length cap0) ∧ w'.cell? ⟨w.heap.size, 2, none⟩ = some (.slice a0' ys0.length cap0') ∧ w'.cell? ⟨w.heap.size + 1, 0, none⟩ = some (.bool b1) ∧ w'.cell? ⟨w.heap.size + 1, 1, none⟩ = some (.slice a1 xs1.length cap1) ∧ w'.cell? ⟨w.heap.size + 1, 2, none⟩ = some (.slice a1' ys1.length cap1')) (go_keep) (first | (go_at_call_of 9 (Value.agg #[.bool b0, .slice a0 xs0.length cap0, .slice a0' ys0.length cap0']); refine (TF0_3.out _ (by assumption) (by repeat (first | exact Below.refl _ _ | assumption | refine Below.drew ?_ | refine old_alloc ?_ _ | refine old_trans ?_ (by assumption)))).mono ?_; rintro e wx0 ⟨⟨⟨avPa, cvPa, avPa', cvPa', rfl, Pa, Pa', -⟩, hbx⟩, hcx⟩; have hbx0 := hbx; (with_reducible first | (have lN := N.lts; have N := N.old hbx) | (have lN := N.drew.lts; have N := N.drew.old hbx) | (have pN := newN (R := w2) (by repeat (first | exact Below.refl _ _ | assumption | refine Below.drew ?_ | refine old_alloc ?_ _ | refine old_trans ?_ (by assumption))) hbx; have lN := And.right (And.right pN); have hpN := And.left (And.right pN); have N := And.left pN) | (have pN := newN' (R := w2) (by repeat (first | exact Below.refl _ _ | assumption | refine Below.drew ?_ | refine old_alloc ?_ _ | refine old_trans ?_ (by assumption))) hbx; have lN := And.right (And.right pN); have hpN := And.left (And.right pN); have N := And.left pN) | skip); (first | (have N0 := N.c0; have N1 := N.c1; have N2 := N.c2; have N3 := N.f0; have N4 := N.f1; have N5 := N.f2; have q1 := Nat.ne_of_gt (Nat.lt_of_lt_of_le nwB_3 hpN); have q2 := Nat.ne_of_gt (Nat.lt_of_lt_of_le nwC_3 hpN)) | skip)) | (go_at_call_of 9 (Value.agg #[.bool b1, .slice a1 xs1.length cap1, .slice a1' ys1.length cap1']); refine (TF1_3.out _ (by assumption) (by repeat (first | exact Below.refl _ _ | assumption | refine Below.drew ?_ | refine old_alloc ?_ _ | refine old_trans ?_ (by assumption)))).mono ?_; rintro e wx1 ⟨⟨⟨avPb, cvPb, avPb', cvPb', rfl, Pb, Pb', -⟩, hbx⟩, hcx⟩; have hbx1 := hbx; (with_reducible first | (have lN := N.lts; have N := N.old hbx) | (have lN := N.drew.lts; have N := N.drew.old hbx) | (have pN := newN (R := w2) (by repeat (first | exact Below.refl _ _ | assumption | refine Below.drew ?_ | refine old_alloc ?_ _ | refine old_trans ?_ (by assumption))) hbx; have lN := And.right (And.right pN); have hpN := And.left (And.right pN); have N := And.left pN) | (have pN := newN' (R := w2) (by repeat (first | exact Below.refl _ _ | assumption | refine Below.drew ?_ | refine old_alloc ?_ _ | refine old_trans ?_ (by assumption))) hbx; have lN := And.right (And.right pN); have hpN := And.left (And.right pN); have N := And.left pN) | skip); (first | (have N0 := N.c0; have N1 := N.c1; have N2 := N.c2; have N3 := N.f0; have N4 := N.f1; have N5 := N.f2; have q1 := Nat.ne_of_gt (Nat.lt_of_lt_of_le nwB_3 hpN); have q2 := Nat.ne_of_gt (Nat.lt_of_lt_of_le nwC_3 hpN)) | skip)) | (go_at_call 14; refine (CT_3.out _ _ _ _ _ _ _ _ _ (by assumption) (by repeat (first | exact Below.refl _ _ | assumption | refine Below.drew ?_ | refine old_alloc ?_ _ | refine old_trans ?_ (by assumption))) (by with_reducible first | exact (Pa.later hbx1).inI | exact ((Pa.alloc _).later hbx1).inI | exact ((Pa.later hbx1).alloc _).inI) (by with_reducible first | exact (Pa'.later hbx1).inI | exact ((Pa'.alloc _).later hbx1).inI | exact ((Pa'.later hbx1).alloc _).inI) (by with_reducible first | exact Pb.inI | exact (Pb.alloc _).inI) (by with_reducible first | exact Pb'.inI | exact (Pb'.alloc _).inI)).mono ?_; rintro e wx2 ⟨⟨⟨av, cv, av', cv', rfl, hO, hO', hS⟩, hbx⟩, hcx, hbs⟩; have hbx2 := hbx; (with_reducible first | (have lN := N.lts; have N := N.old hbx) | (have lN := N.drew.lts; have N := N.drew.old hbx) | (have pN := newN (R := w2) (by repeat (first | exact Below.refl _ _ | assumption | refine Below.drew ?_ | refine old_alloc ?_ _ | refine old_trans ?_ (by assumption))) hbx; have lN := And.right (And.right pN); have hpN := And.left (And.right pN); have N := And.left pN) | (have pN := newN' (R := w2) (by repeat (first | exact Below.refl _ _ | assumption | refine Below.drew ?_ | refine old_alloc ?_ _ | refine old_trans ?_ (by assumption))) hbx; have lN := And.right (And.right pN); have hpN := And.left (And.right pN); have N := And.left pN) | skip); (first | (have N0 := N.c0; have N1 := N.c1; have N2 := N.c2; have N3 := N.f0; have N4 := N.f1; have N5 := N.f2; have q1 := Nat.ne_of_gt (Nat.lt_of_lt_of_le nwB_3 hpN); have q2 := Nat.ne_of_gt (Nat.lt_of_lt_of_le nwC_3 hpN)) | skip)))
    all_goals
      go_wp2_with fail
      go_meet
      first | exact ⟨_, av, cv, av', cv', rfl, rfl, N.setAll _ _ _, (oi_set3 hO lN).mono hbs, (oi_set3 hO' lN).mono hbs, hS, below_set (below_set (below_set (by repeat (first | exact Below.refl _ _ | assumption | refine Below.drew ?_ | refine old_alloc ?_ _ | refine old_trans ?_ (by assumption))) hpN _) hpN _) hpN _⟩ | exact ⟨_, av, cv, av', cv', rfl, rfl, Cel3.new _ _ _ _ _, (hO.alloc _).mono hbs, (hO'.alloc _).mono hbs, hS, (by repeat (first | exact Below.refl _ _ | assumption | refine Below.drew ?_ | refine old_alloc ?_ _ | refine old_trans ?_ (by assumption)))⟩
  case rest =>
    clear KAa KAb KAc KAd KBa KBb KBc KBd
    obtain ⟨w3, hw3⟩ : ∃ x, x = wc := ⟨_, rfl⟩
    subst hw3
    obtain ⟨pbKW, avW, cvW, avW', cvW', rfl, rfl, KW_, W_, W'_, sW, hb3⟩ := hcut
    clear hc0_3 TF0_3 TF1_3 CT_3 nwB_3 nwC_3 nw0_3 nv0_3 nw1_3 nv1_3 nw2_3 nv2_3
    replace R0 := R0.old hb3
    replace R0' := R0'.old hb3
    replace R1 := R1.old hb3
    replace R1' := R1'.old hb3
    replace KA := KA.old hb3
    replace KB := KB.old hb3
    replace hB := old_trans hB hb3
    clear hb3
    have W := W_
    have W' := W'_
    have KW := KW_
    clear KW_ W_ W'_
    obtain ⟨KAa, ⟨KAb, KAc, KAd⟩, -⟩ := id KA
    obtain ⟨KBa, ⟨KBb, KBc, KBd⟩, -⟩ := id KB
    obtain ⟨KWa, ⟨KWb, KWc, KWd⟩, -⟩ := id KW
    have l_W_X := W.lt
    have l_W'_X := W'.lt
    have l_R0_X := R0.far
    have l_R0'_X := R0'.far
    have l_R1_X := R1.far
    have l_R1'_X := R1'.far
    have l_KA_X := KA.1
    have l_KB_X := KB.1
    have l_KW_X := KW.1
    have n_X := hB.size
    have l_W_X' := W.lt
    have l_W'_X' := W'.lt
    have l_R0_X' := R0.far
    have l_R0'_X' := R0'.far
    have l_R1_X' := R1.far
    have l_R1'_X' := R1'.far
    have l_KA_X' := KA.1
    have l_KB_X' := KB.1
    have l_KW_X' := KW.1
    have n_X' := hB.size
    go_wp2_with fail
    refine (toFracO b0 a0 a0' cap0 cap0' xs0 ys0 _ R0 R0' hl0 hl0').mono ?_
    rintro e w4 ⟨⟨avX, cvX, avX', cvX', rfl, X, X', sX⟩, hb4⟩
    clear KAa KAb KAc KAd KBa KBb KBc KBd KWa KWb KWc KWd
    replace W := W.later hb4
    replace W' := W'.later hb4
    replace R0 := R0.old hb4
    replace R0' := R0'.old hb4
    replace R1 := R1.old hb4
    replace R1' := R1'.old hb4
    replace KA := KA.old hb4
    replace KB := KB.old hb4
    replace KW := KW.old hb4
    replace hB := old_trans hB hb4
    clear hb4
    obtain ⟨KAa, ⟨KAb, KAc, KAd⟩, -⟩ := id KA
    obtain ⟨KBa, ⟨KBb, KBc, KBd⟩, -⟩ := id KB
    obtain ⟨KWa, ⟨KWb, KWc, KWd⟩, -⟩ := id KW
    clear KAa KAb KAc KAd KBa KBb KBc KBd KWa KWb KWc KWd
    have y_W_KX := W.lt
    have y_W'_KX := W'.lt
    have y_X_KX := X.lt
    have y_X'_KX := X'.lt
    have KX_ := Cel3.new w4 (.bool b0) (.slice avX xs0.length cvX) (.slice avX' ys0.length cvX') 26
    have halKX : Below w4.heap.size w4 (w4.alloc (.cells #[.bool b0, .slice avX xs0.length cvX, .slice avX' ys0.length cvX'] 26)) := old_alloc (Below.refl _ _) _
    replace W := W.later halKX
    replace W' := W'.later halKX
    replace X := X.later halKX
    replace X' := X'.later halKX
    replace R0 := R0.old halKX
    replace R0' := R0'.old halKX
    replace R1 := R1.old halKX
    replace R1' := R1'.old halKX
    replace KA := KA.old halKX
    replace KB := KB.old halKX
    replace KW := KW.old halKX
    replace hB := old_trans hB halKX
    clear halKX
    have KX := KX_
    clear KX_
    obtain ⟨KAa, ⟨KAb, KAc, KAd⟩, -⟩ := id KA
    obtain ⟨KBa, ⟨KBb, KBc, KBd⟩, -⟩ := id KB
    obtain ⟨KWa, ⟨KWb, KWc, KWd⟩, -⟩ := id KW
    obtain ⟨KXa, ⟨KXb, KXc, KXd⟩, -⟩ := id KX
    have l_W_Y := W.lt
    have l_W'_Y := W'.lt
    have l_X_Y := X.lt
    have l_X'_Y := X'.lt
    have l_R0_Y := R0.far
    have l_R0'_Y := R0'.far
    have l_R1_Y := R1.far
    have l_R1'_Y := R1'.far
    have l_KA_Y := KA.1
    have l_KB_Y := KB.1
    have l_KW_Y := KW.1
    have l_KX_Y := KX.1
    have n_Y := hB.size
    have l_W_Y' := W.lt
    have l_W'_Y' := W'.lt
    have l_X_Y' := X.lt
    have l_X'_Y' := X'.lt
    have l_R0_Y' := R0.far
    have l_R0'_Y' := R0'.far
    have l_R1_Y' := R1.far
    have l_R1'_Y' := R1'.far
    have l_KA_Y' := KA.1
    have l_KB_Y' := KB.1
    have l_KW_Y' := KW.1
    have l_KX_Y' := KX.1
    have n_Y' := hB.size
    go_wp2_with fail
    refine (toFracO b1 a1 a1' cap1 cap1' xs1 ys1 _ R1 R1' hl1 hl1').mono ?_
    rintro e w5 ⟨⟨avY, cvY, avY', cvY', rfl, Y, Y', sY⟩, hb5⟩
    clear KAa KAb KAc KAd KBa KBb KBc KBd KWa KWb KWc KWd KXa KXb KXc KXd
    replace W := W.later hb5
    replace W' := W'.later hb5
    replace X := X.later hb5
    replace X' := X'.later hb5
    replace R0 := R0.old hb5
    replace R0' := R0'.old hb5
    replace R1 := R1.old hb5
    replace R1' := R1'.old hb5
    replace KA := KA.old hb5
    replace KB := KB.old hb5
    replace KW := KW.old hb5
    replace KX := KX.old hb5
    replace hB := old_trans hB hb5
    clear hb5
    obtain ⟨KAa, ⟨KAb, KAc, KAd⟩, -⟩ := id KA
    obtain ⟨KBa, ⟨KBb, KBc, KBd⟩, -⟩ := id KB
    obtain ⟨KWa, ⟨KWb, KWc, KWd⟩, -⟩ := id KW
    obtain ⟨KXa, ⟨KXb, KXc, KXd⟩, -⟩ := id KX
    clear KAa KAb KAc KAd KBa KBb KBc KBd KWa KWb KWc KWd KXa KXb KXc KXd
    have y_W_KY := W.lt
    have y_W'_KY := W'.lt
    have y_X_KY := X.lt
    have y_X'_KY := X'.lt
    have y_Y_KY := Y.lt
    have y_Y'_KY := Y'.lt
    have KY_ := Cel3.new w5 (.bool b1) (.slice avY xs1.length cvY) (.slice avY' ys1.length cvY') 26
    have halKY : Below w5.heap.size w5 (w5.alloc (.cells #[.bool b1, .slice avY xs1.length cvY, .slice avY' ys1.length cvY'] 26)) := old_alloc (Below.refl _ _) _
    replace W := W.later halKY
    replace W' := W'.later halKY
    replace X := X.later halKY
    replace X' := X'.later halKY
    replace Y := Y.later halKY
    replace Y' := Y'.later halKY
    replace R0 := R0.old halKY
    replace R0' := R0'.old halKY
    replace R1 := R1.old halKY
    replace R1' := R1'.old halKY
    replace KA := KA.old halKY
    replace KB := KB.old halKY
    replace KW := KW.old halKY
    replace KX := KX.old halKY
    replace hB := old_trans hB halKY
    clear halKY
    have KY := KY_
    clear KY_
    obtain ⟨KAa, ⟨KAb, KAc, KAd⟩, -⟩ := id KA
    obtain ⟨KBa, ⟨KBb, KBc, KBd⟩, -⟩ := id KB
    obtain ⟨KWa, ⟨KWb, KWc, KWd⟩, -⟩ := id KW
    obtain ⟨KXa, ⟨KXb, KXc, KXd⟩, -⟩ := id KX
    obtain ⟨KYa, ⟨KYb, KYc, KYd⟩, -⟩ := id KY
    have l_W_G := W.lt
    have l_W'_G := W'.lt
    have l_X_G := X.lt
    have l_X'_G := X'.lt
    have l_Y_G := Y.lt
    have l_Y'_G := Y'.lt
    have l_R0_G := R0.far
    have l_R0'_G := R0'.far
    have l_R1_G := R1.far
    have l_R1'_G := R1'.far
    have l_KA_G := KA.1
    have l_KB_G := KB.1
    have l_KW_G := KW.1
    have l_KX_G := KX.1
    have l_KY_G := KY.1
    have n_G := hB.size
    have l_W_G' := W.lt
    have l_W'_G' := W'.lt
    have l_X_G' := X.lt
    have l_X'_G' := X'.lt
    have l_Y_G' := Y.lt
    have l_Y'_G' := Y'.lt
    have l_R0_G' := R0.far
    have l_R0'_G' := R0'.far
    have l_R1_G' := R1.far
    have l_R1'_G' := R1'.far
    have l_KA_G' := KA.1
    have l_KB_G' := KB.1
    have l_KW_G' := KW.1
    have l_KX_G' := KX.1
    have l_KY_G' := KY.1
    have n_G' := hB.size
    go_wp2_with fail
    refine (I.out _ _ _ _ _ _ _ _ _ _ _ _ _ X.inI X'.inI Y.inI Y'.inI (hTT.out _ hB)).mono ?_
    rintro e w6 ⟨⟨avG, cvG, avG', cvG', rfl, G, G', sG⟩, hb6⟩
    clear KAa KAb KAc KAd KBa KBb KBc KBd KWa KWb KWc KWd KXa KXb KXc KXd KYa KYb KYc KYd
    replace W := W.later hb6
    replace W' := W'.later hb6
    replace X := X.later hb6
    replace X' := X'.later hb6
    replace Y := Y.later hb6
    replace Y' := Y'.later hb6
    replace R0 := R0.old hb6
    replace R0' := R0'.old hb6
    replace R1 := R1.old hb6
    replace R1' := R1'.old hb6
    replace KA := KA.old hb6
    replace KB := KB.old hb6
    replace KW := KW.old hb6
    replace KX := KX.old hb6
    replace KY := KY.old hb6
    replace hB := old_trans hB hb6
    clear hb6
    obtain ⟨KAa, ⟨KAb, KAc, KAd⟩, -⟩ := id KA
    obtain ⟨KBa, ⟨KBb, KBc, KBd⟩, -⟩ := id KB
    obtain ⟨KWa, ⟨KWb, KWc, KWd⟩, -⟩ := id KW
    obtain ⟨KXa, ⟨KXb, KXc, KXd⟩, -⟩ := id KX
    obtain ⟨KYa, ⟨KYb, KYc, KYd⟩, -⟩ := id KY
    clear KAa KAb KAc KAd KBa KBb KBc KBd KWa KWb KWc KWd KXa KXb KXc KXd KYa KYb KYc KYd
    have y_W_KG := W.lt
    have y_W'_KG := W'.lt
    have y_X_KG := X.lt
    have y_X'_KG := X'.lt
    have y_Y_KG := Y.lt
    have y_Y'_KG := Y'.lt
    have y_G_KG := G.lt
    have y_G'_KG := G'.lt
    have KG_ := Cel3.new w6 (.bool sg) (.slice avG tl.length cvG) (.slice avG' ul.length cvG') 26
    have halKG : Below w6.heap.size w6 (w6.alloc (.cells #[.bool sg, .slice avG tl.length cvG, .slice avG' ul.length cvG'] 26)) := old_alloc (Below.refl _ _) _
    replace W := W.later halKG
    replace W' := W'.later halKG
    replace X := X.later halKG
    replace X' := X'.later halKG
    replace Y := Y.later halKG
    replace Y' := Y'.later halKG
    replace G := G.later halKG
    replace G' := G'.later halKG
    replace R0 := R0.old halKG
    replace R0' := R0'.old halKG
    replace R1 := R1.old halKG
    replace R1' := R1'.old halKG
    replace KA := KA.old halKG
    replace KB := KB.old halKG
    replace KW := KW.old halKG
    replace KX := KX.old halKG
    replace KY := KY.old halKG
    replace hB := old_trans hB halKG
    clear halKG
    have KG := KG_
    clear KG_
    obtain ⟨KAa, ⟨KAb, KAc, KAd⟩, -⟩ := id KA
    obtain ⟨KBa, ⟨KBb, KBc, KBd⟩, -⟩ := id KB
    obtain ⟨KWa, ⟨KWb, KWc, KWd⟩, -⟩ := id KW
    obtain ⟨KXa, ⟨KXb, KXc, KXd⟩, -⟩ := id KX
    obtain ⟨KYa, ⟨KYb, KYc, KYd⟩, -⟩ := id KY
    obtain ⟨KGa, ⟨KGb, KGc, KGd⟩, -⟩ := id KG
    go_wp2_with fail
    refine (lEqF sg avG avG' avW avW' cvG cvG' cvW cvW' _ _ _ _ tl ul _ G G' W W').mono ?_
    rintro e w7 ⟨rfl, hb7⟩
    clear KAa KAb KAc KAd KBa KBb KBc KBd KWa KWb KWc KWd KXa KXb KXc KXd KYa KYb KYc KYd KGa KGb KGc KGd
    replace W := W.later hb7
    replace W' := W'.later hb7
    replace X := X.later hb7
    replace X' := X'.later hb7
    replace Y := Y.later hb7
    replace Y' := Y'.later hb7
    replace G := G.later hb7
    replace G' := G'.later hb7
    replace R0 := R0.old hb7
    replace R0' := R0'.old hb7
    replace R1 := R1.old hb7
    replace R1' := R1'.old hb7
    replace KA := KA.old hb7
    replace KB := KB.old hb7
    replace KW := KW.old hb7
    replace KX := KX.old hb7
    replace KY := KY.old hb7
    replace KG := KG.old hb7
    replace hB := old_trans hB hb7
    clear hb7
    obtain ⟨KAa, ⟨KAb, KAc, KAd⟩, -⟩ := id KA
    obtain ⟨KBa, ⟨KBb, KBc, KBd⟩, -⟩ := id KB
    obtain ⟨KWa, ⟨KWb, KWc, KWd⟩, -⟩ := id KW
    obtain ⟨KXa, ⟨KXb, KXc, KXd⟩, -⟩ := id KX
    obtain ⟨KYa, ⟨KYb, KYc, KYd⟩, -⟩ := id KY
    obtain ⟨KGa, ⟨KGb, KGc, KGd⟩, -⟩ := id KG
    have TG8 := hd (fun w' (hS : w'.cell? ⟨w.heap.size, 0, none⟩ = some (.bool b0) ∧ w'.cell? ⟨w.heap.size, 1, none⟩ = some (.slice a0 xs0.length cap0) ∧ w'.cell? ⟨w.heap.size, 2, none⟩ = some (.slice a0' ys0.length cap0') ∧ w'.cell? ⟨w4.heap.size, 0, none⟩ = some (.bool b0) ∧ w'.cell? ⟨w4.heap.size, 1, none⟩ = some (.slice avX xs0.length cvX) ∧ w'.cell? ⟨w4.heap.size, 2, none⟩ = some (.slice avX' ys0.length cvX')) (h : Below w7.heap.size w7 w') => (toFracO b0 a0 a0' cap0 cap0' xs0 ys0 w' (R0.old h) (R0'.old h) hl0 hl0').mono (fun e w'' (k : _ ∧ _) => (⟨k, six_old hS k.2⟩ : (_ ∧ _) ∧ (w''.cell? ⟨w.heap.size, 0, none⟩ = some (.bool b0) ∧ w''.cell? ⟨w.heap.size, 1, none⟩ = some (.slice a0 xs0.length cap0) ∧ w''.cell? ⟨w.heap.size, 2, none⟩ = some (.slice a0' ys0.length cap0') ∧ w''.cell? ⟨w4.heap.size, 0, none⟩ = some (.bool b0) ∧ w''.cell? ⟨w4.heap.size, 1, none⟩ = some (.slice avX xs0.length cvX) ∧ w''.cell? ⟨w4.heap.size, 2, none⟩ = some (.slice avX' ys0.length cvX')))))
    have EQ8 := hd (fun a b ca cb n n' w' (hS : w'.cell? ⟨w.heap.size, 0, none⟩ = some (.bool b0) ∧ w'.cell? ⟨w.heap.size, 1, none⟩ = some (.slice a0 xs0.length cap0) ∧ w'.cell? ⟨w.heap.size, 2, none⟩ = some (.slice a0' ys0.length cap0') ∧ w'.cell? ⟨w4.heap.size, 0, none⟩ = some (.bool b0) ∧ w'.cell? ⟨w4.heap.size, 1, none⟩ = some (.slice avX xs0.length cvX) ∧ w'.cell? ⟨w4.heap.size, 2, none⟩ = some (.slice avX' ys0.length cvX')) (h : Below w7.heap.size w7 w') (hA : OI w' n a ca xs0) (hA' : OI w' n' b cb ys0) => (lEqF b0 avX avX' a b cvX cvX' ca cb _ _ n n' xs0 ys0 w' (X.later h) (X'.later h) hA hA').mono (fun e w'' (k : _ ∧ _) => (⟨k, six_old hS k.2⟩ : (_ ∧ _) ∧ (w''.cell? ⟨w.heap.size, 0, none⟩ = some (.bool b0) ∧ w''.cell? ⟨w.heap.size, 1, none⟩ = some (.slice a0 xs0.length cap0) ∧ w''.cell? ⟨w.heap.size, 2, none⟩ = some (.slice a0' ys0.length cap0') ∧ w''.cell? ⟨w4.heap.size, 0, none⟩ = some (.bool b0) ∧ w''.cell? ⟨w4.heap.size, 1, none⟩ = some (.slice avX xs0.length cvX) ∧ w''.cell? ⟨w4.heap.size, 2, none⟩ = some (.slice avX' ys0.length cvX')))))
    go_wp2_with fail
    go_region_held3 (fun w' => w'.cell? ⟨w.heap.size, 0, none⟩ = some (.bool b0) ∧ w'.cell? ⟨w.heap.size, 1, none⟩ = some (.slice a0 xs0.length cap0) ∧ w'.cell? ⟨w.heap.size, 2, none⟩ = some (.slice a0' ys0.length cap0') ∧ w'.cell? ⟨w4.heap.size, 0, none⟩ = some (.bool b0) ∧ w'.cell? ⟨w4.heap.size, 1, none⟩ = some (.slice avX xs0.length cvX) ∧ w'.cell? ⟨w4.heap.size, 2, none⟩ = some (.slice avX' ys0.length cvX')) (go_keep) (first | (go_at_call 9; refine (TG8.out _ (by assumption) (by repeat (first | exact Below.refl _ _ | refine Below.drew ?_ | refine old_trans ?_ (by assumption)))).mono ?_; rintro e w8a ⟨⟨⟨avZ, cvZ, avZ', cvZ', rfl, Z, Z', -⟩, hb8a⟩, hc8a⟩) | (go_at_call 11; refine (EQ8.out _ _ _ _ _ _ _ (by assumption) (by repeat (first | exact Below.refl _ _ | refine Below.drew ?_ | refine old_trans ?_ (by assumption))) Z Z').mono ?_; rintro e w8b ⟨⟨rfl, hb8b⟩, hc8b⟩))
    clear KAa KAb KAc KAd KBa KBb KBc KBd KWa KWb KWc KWd KXa KXb KXc KXd KYa KYb KYc KYd KGa KGb KGc KGd
    have hb8 : Below w7.heap.size w7 w8b := (by repeat (first | exact Below.refl _ _ | refine Below.drew ?_ | refine old_trans ?_ (by assumption)))
    clear TG8 EQ8 hc8a hc8b Z Z'
    replace W := W.later hb8
    replace W' := W'.later hb8
    replace X := X.later hb8
    replace X' := X'.later hb8
    replace Y := Y.later hb8
    replace Y' := Y'.later hb8
    replace G := G.later hb8
    replace G' := G'.later hb8
    replace R0 := R0.old hb8
    replace R0' := R0'.old hb8
    replace R1 := R1.old hb8
    replace R1' := R1'.old hb8
    replace KA := KA.old hb8
    replace KB := KB.old hb8
    replace KW := KW.old hb8
    replace KX := KX.old hb8
    replace KY := KY.old hb8
    replace KG := KG.old hb8
    replace hB := old_trans hB hb8
    clear hb8
    obtain ⟨KAa, ⟨KAb, KAc, KAd⟩, -⟩ := id KA
    obtain ⟨KBa, ⟨KBb, KBc, KBd⟩, -⟩ := id KB
    obtain ⟨KWa, ⟨KWb, KWc, KWd⟩, -⟩ := id KW
    obtain ⟨KXa, ⟨KXb, KXc, KXd⟩, -⟩ := id KX
    obtain ⟨KYa, ⟨KYb, KYc, KYd⟩, -⟩ := id KY
    obtain ⟨KGa, ⟨KGb, KGc, KGd⟩, -⟩ := id KG
    have TG9 := hd (fun w' (hS : w'.cell? ⟨(w.heap.size + 1), 0, none⟩ = some (.bool b1) ∧ w'.cell? ⟨(w.heap.size + 1), 1, none⟩ = some (.slice a1 xs1.length cap1) ∧ w'.cell? ⟨(w.heap.size + 1), 2, none⟩ = some (.slice a1' ys1.length cap1') ∧ w'.cell? ⟨w5.heap.size, 0, none⟩ = some (.bool b1) ∧ w'.cell? ⟨w5.heap.size, 1, none⟩ = some (.slice avY xs1.length cvY) ∧ w'.cell? ⟨w5.heap.size, 2, none⟩ = some (.slice avY' ys1.length cvY')) (h : Below w8b.heap.size w8b w') => (toFracO b1 a1 a1' cap1 cap1' xs1 ys1 w' (R1.old h) (R1'.old h) hl1 hl1').mono (fun e w'' (k : _ ∧ _) => (⟨k, six_old hS k.2⟩ : (_ ∧ _) ∧ (w''.cell? ⟨(w.heap.size + 1), 0, none⟩ = some (.bool b1) ∧ w''.cell? ⟨(w.heap.size + 1), 1, none⟩ = some (.slice a1 xs1.length cap1) ∧ w''.cell? ⟨(w.heap.size + 1), 2, none⟩ = some (.slice a1' ys1.length cap1') ∧ w''.cell? ⟨w5.heap.size, 0, none⟩ = some (.bool b1) ∧ w''.cell? ⟨w5.heap.size, 1, none⟩ = some (.slice avY xs1.length cvY) ∧ w''.cell? ⟨w5.heap.size, 2, none⟩ = some (.slice avY' ys1.length cvY')))))
    have EQ9 := hd (fun a b ca cb n n' w' (hS : w'.cell? ⟨(w.heap.size + 1), 0, none⟩ = some (.bool b1) ∧ w'.cell? ⟨(w.heap.size + 1), 1, none⟩ = some (.slice a1 xs1.length cap1) ∧ w'.cell? ⟨(w.heap.size + 1), 2, none⟩ = some (.slice a1' ys1.length cap1') ∧ w'.cell? ⟨w5.heap.size, 0, none⟩ = some (.bool b1) ∧ w'.cell? ⟨w5.heap.size, 1, none⟩ = some (.slice avY xs1.length cvY) ∧ w'.cell? ⟨w5.heap.size, 2, none⟩ = some (.slice avY' ys1.length cvY')) (h : Below w8b.heap.size w8b w') (hA : OI w' n a ca xs1) (hA' : OI w' n' b cb ys1) => (lEqF b1 avY avY' a b cvY cvY' ca cb _ _ n n' xs1 ys1 w' (Y.later h) (Y'.later h) hA hA').mono (fun e w'' (k : _ ∧ _) => (⟨k, six_old hS k.2⟩ : (_ ∧ _) ∧ (w''.cell? ⟨(w.heap.size + 1), 0, none⟩ = some (.bool b1) ∧ w''.cell? ⟨(w.heap.size + 1), 1, none⟩ = some (.slice a1 xs1.length cap1) ∧ w''.cell? ⟨(w.heap.size + 1), 2, none⟩ = some (.slice a1' ys1.length cap1') ∧ w''.cell? ⟨w5.heap.size, 0, none⟩ = some (.bool b1) ∧ w''.cell? ⟨w5.heap.size, 1, none⟩ = some (.slice avY xs1.length cvY) ∧ w''.cell? ⟨w5.heap.size, 2, none⟩ = some (.slice avY' ys1.length cvY')))))
    go_wp2_with fail
    go_region_held3 (fun w' => w'.cell? ⟨(w.heap.size + 1), 0, none⟩ = some (.bool b1) ∧ w'.cell? ⟨(w.heap.size + 1), 1, none⟩ = some (.slice a1 xs1.length cap1) ∧ w'.cell? ⟨(w.heap.size + 1), 2, none⟩ = some (.slice a1' ys1.length cap1') ∧ w'.cell? ⟨w5.heap.size, 0, none⟩ = some (.bool b1) ∧ w'.cell? ⟨w5.heap.size, 1, none⟩ = some (.slice avY xs1.length cvY) ∧ w'.cell? ⟨w5.heap.size, 2, none⟩ = some (.slice avY' ys1.length cvY')) (go_keep) (first | (go_at_call 9; refine (TG9.out _ (by assumption) (by repeat (first | exact Below.refl _ _ | refine Below.drew ?_ | refine old_trans ?_ (by assumption)))).mono ?_; rintro e w9a ⟨⟨⟨avZ, cvZ, avZ', cvZ', rfl, Z, Z', -⟩, hb9a⟩, hc9a⟩) | (go_at_call 11; refine (EQ9.out _ _ _ _ _ _ _ (by assumption) (by repeat (first | exact Below.refl _ _ | refine Below.drew ?_ | refine old_trans ?_ (by assumption))) Z Z').mono ?_; rintro e w9b ⟨⟨rfl, hb9b⟩, hc9b⟩))
    clear KAa KAb KAc KAd KBa KBb KBc KBd KWa KWb KWc KWd KXa KXb KXc KXd KYa KYb KYc KYd KGa KGb KGc KGd
    have hb9 : Below w8b.heap.size w8b w9b := (by repeat (first | exact Below.refl _ _ | refine Below.drew ?_ | refine old_trans ?_ (by assumption)))
    clear TG9 EQ9 hc9a hc9b Z Z'
    replace W := W.later hb9
    replace W' := W'.later hb9
    replace X := X.later hb9
    replace X' := X'.later hb9
    replace Y := Y.later hb9
    replace Y' := Y'.later hb9
    replace G := G.later hb9
    replace G' := G'.later hb9
    replace R0 := R0.old hb9
    replace R0' := R0'.old hb9
    replace R1 := R1.old hb9
    replace R1' := R1'.old hb9
    replace KA := KA.old hb9
    replace KB := KB.old hb9
    replace KW := KW.old hb9
    replace KX := KX.old hb9
    replace KY := KY.old hb9
    replace KG := KG.old hb9
    replace hB := old_trans hB hb9
    clear hb9
    obtain ⟨KAa, ⟨KAb, KAc, KAd⟩, -⟩ := id KA
    obtain ⟨KBa, ⟨KBb, KBc, KBd⟩, -⟩ := id KB
    obtain ⟨KWa, ⟨KWb, KWc, KWd⟩, -⟩ := id KW
    obtain ⟨KXa, ⟨KXb, KXc, KXd⟩, -⟩ := id KX
    obtain ⟨KYa, ⟨KYb, KYc, KYd⟩, -⟩ := id KY
    obtain ⟨KGa, ⟨KGb, KGc, KGd⟩, -⟩ := id KG
    go_wp2_with fail
    refine (lMarkF b0 _ _ avX avX' cvX cvX' xs0 ys0 (1) _ X X' sX hl0 hl0' (by omega) (by omega)).mono ?_
    rintro e w10 ⟨rfl, Xn, Xm, wm10, hg10, hk10⟩
    clear KAa KAb KAc KAd KBa KBb KBc KBd KWa KWb KWc KWd KXa KXb KXc KXd KYa KYb KYc KYd KGa KGb KGc KGd
    have Xs := X
    have X's := X'
    replace W := W.kept hg10 (Xs.sep l_W_X)
    replace W' := W'.kept hg10 (Xs.sep l_W'_X)
    replace X' := X'.kept hg10 (sepB sX.symm)
    replace Y := Y.kept hg10 (Y.sep' l_X_Y)
    replace Y' := Y'.kept hg10 (Y'.sep' l_X_Y')
    replace G := G.kept hg10 (G.sep' l_X_G)
    replace G' := G'.kept hg10 (G'.sep' l_X_G')
    replace R0 := R0.kept hg10 (fun h0 => Xs.sep (l_R0_X h0))
    replace R0' := R0'.kept hg10 (fun h0 => Xs.sep (l_R0'_X h0))
    replace R1 := R1.kept hg10 (fun h0 => Xs.sep (l_R1_X h0))
    replace R1' := R1'.kept hg10 (fun h0 => Xs.sep (l_R1'_X h0))
    replace KA := KA.kept hg10 (oi_ne_old Xs l_KA_X)
    replace KB := KB.kept hg10 (oi_ne_old Xs l_KB_X)
    replace KW := KW.kept hg10 (oi_ne_old Xs l_KW_X)
    replace KX := KX.kept hg10 (oi_ne_young y_X_KX)
    replace KY := KY.kept hg10 (oi_ne_young y_X_KY)
    replace KG := KG.kept hg10 (oi_ne_young y_X_KG)
    replace X's := X'
    replace hB := Below.marked hB Xs hg10 n_X hB.size
    replace W := W.kept hk10 (X's.sep l_W_X')
    replace W' := W'.kept hk10 (X's.sep l_W'_X')
    replace Y := Y.kept hk10 (Y.sep' l_X'_Y)
    replace Y' := Y'.kept hk10 (Y'.sep' l_X'_Y')
    replace G := G.kept hk10 (G.sep' l_X'_G)
    replace G' := G'.kept hk10 (G'.sep' l_X'_G')
    replace R0 := R0.kept hk10 (fun h0 => X's.sep (l_R0_X' h0))
    replace R0' := R0'.kept hk10 (fun h0 => X's.sep (l_R0'_X' h0))
    replace R1 := R1.kept hk10 (fun h0 => X's.sep (l_R1_X' h0))
    replace R1' := R1'.kept hk10 (fun h0 => X's.sep (l_R1'_X' h0))
    replace KA := KA.kept hk10 (oi_ne_old X's l_KA_X')
    replace KB := KB.kept hk10 (oi_ne_old X's l_KB_X')
    replace KW := KW.kept hk10 (oi_ne_old X's l_KW_X')
    replace KX := KX.kept hk10 (oi_ne_young y_X'_KX)
    replace KY := KY.kept hk10 (oi_ne_young y_X'_KY)
    replace KG := KG.kept hk10 (oi_ne_young y_X'_KG)
    replace hB := Below.marked hB X's hk10 n_X' hB.size
    clear X Xs X' X's
    have X := Xn
    have X' := Xm
    clear Xn Xm hg10 hk10
    obtain ⟨KAa, ⟨KAb, KAc, KAd⟩, -⟩ := id KA
    obtain ⟨KBa, ⟨KBb, KBc, KBd⟩, -⟩ := id KB
    obtain ⟨KWa, ⟨KWb, KWc, KWd⟩, -⟩ := id KW
    obtain ⟨KXa, ⟨KXb, KXc, KXd⟩, -⟩ := id KX
    obtain ⟨KYa, ⟨KYb, KYc, KYd⟩, -⟩ := id KY
    obtain ⟨KGa, ⟨KGb, KGc, KGd⟩, -⟩ := id KG
    go_wp2_with fail
    refine (lMarkF b1 _ _ avY avY' cvY cvY' xs1 ys1 (1 + (xs0.length : Int) + (ys0.length : Int)) _ Y Y' sY hl1 hl1' (by omega) (by omega)).mono ?_
    rintro e w11 ⟨rfl, Yn, Ym, wm11, hg11, hk11⟩
    clear KAa KAb KAc KAd KBa KBb KBc KBd KWa KWb KWc KWd KXa KXb KXc KXd KYa KYb KYc KYd KGa KGb KGc KGd
    have Ys := Y
    have Y's := Y'
    replace W := W.kept hg11 (Ys.sep l_W_Y)
    replace W' := W'.kept hg11 (Ys.sep l_W'_Y)
    replace X := X.kept hg11 (Ys.sep l_X_Y)
    replace X' := X'.kept hg11 (Ys.sep l_X'_Y)
    replace Y' := Y'.kept hg11 (sepB sY.symm)
    replace G := G.kept hg11 (G.sep' l_Y_G)
    replace G' := G'.kept hg11 (G'.sep' l_Y_G')
    replace R0 := R0.kept hg11 (fun h0 => Ys.sep (l_R0_Y h0))
    replace R0' := R0'.kept hg11 (fun h0 => Ys.sep (l_R0'_Y h0))
    replace R1 := R1.kept hg11 (fun h0 => Ys.sep (l_R1_Y h0))
    replace R1' := R1'.kept hg11 (fun h0 => Ys.sep (l_R1'_Y h0))
    replace KA := KA.kept hg11 (oi_ne_old Ys l_KA_Y)
    replace KB := KB.kept hg11 (oi_ne_old Ys l_KB_Y)
    replace KW := KW.kept hg11 (oi_ne_old Ys l_KW_Y)
    replace KX := KX.kept hg11 (oi_ne_old Ys l_KX_Y)
    replace KY := KY.kept hg11 (oi_ne_young y_Y_KY)
    replace KG := KG.kept hg11 (oi_ne_young y_Y_KG)
    replace Y's := Y'
    replace hB := Below.marked hB Ys hg11 n_Y hB.size
    replace W := W.kept hk11 (Y's.sep l_W_Y')
    replace W' := W'.kept hk11 (Y's.sep l_W'_Y')
    replace X := X.kept hk11 (Y's.sep l_X_Y')
    replace X' := X'.kept hk11 (Y's.sep l_X'_Y')
    replace G := G.kept hk11 (G.sep' l_Y'_G)
    replace G' := G'.kept hk11 (G'.sep' l_Y'_G')
    replace R0 := R0.kept hk11 (fun h0 => Y's.sep (l_R0_Y' h0))
    replace R0' := R0'.kept hk11 (fun h0 => Y's.sep (l_R0'_Y' h0))
    replace R1 := R1.kept hk11 (fun h0 => Y's.sep (l_R1_Y' h0))
    replace R1' := R1'.kept hk11 (fun h0 => Y's.sep (l_R1'_Y' h0))
    replace KA := KA.kept hk11 (oi_ne_old Y's l_KA_Y')
    replace KB := KB.kept hk11 (oi_ne_old Y's l_KB_Y')
    replace KW := KW.kept hk11 (oi_ne_old Y's l_KW_Y')
    replace KX := KX.kept hk11 (oi_ne_old Y's l_KX_Y')
    replace KY := KY.kept hk11 (oi_ne_young y_Y'_KY)
    replace KG := KG.kept hk11 (oi_ne_young y_Y'_KG)
    replace hB := Below.marked hB Y's hk11 n_Y' hB.size
    clear Y Ys Y' Y's
    have Y := Yn
    have Y' := Ym
    clear Yn Ym hg11 hk11
    obtain ⟨KAa, ⟨KAb, KAc, KAd⟩, -⟩ := id KA
    obtain ⟨KBa, ⟨KBb, KBc, KBd⟩, -⟩ := id KB
    obtain ⟨KWa, ⟨KWb, KWc, KWd⟩, -⟩ := id KW
    obtain ⟨KXa, ⟨KXb, KXc, KXd⟩, -⟩ := id KX
    obtain ⟨KYa, ⟨KYb, KYc, KYd⟩, -⟩ := id KY
    obtain ⟨KGa, ⟨KGb, KGc, KGd⟩, -⟩ := id KG
    go_wp2_with fail
    refine (lEqF sg avG avG' avW avW' cvG cvG' cvW cvW' _ _ _ _ tl ul _ G G' W W').mono ?_
    rintro e w12 ⟨rfl, hb12⟩
    clear KAa KAb KAc KAd KBa KBb KBc KBd KWa KWb KWc KWd KXa KXb KXc KXd KYa KYb KYc KYd KGa KGb KGc KGd
    replace W := W.later hb12
    replace W' := W'.later hb12
    replace X := X.later hb12
    replace X' := X'.later hb12
    replace Y := Y.later hb12
    replace Y' := Y'.later hb12
    replace G := G.later hb12
    replace G' := G'.later hb12
    replace R0 := R0.old hb12
    replace R0' := R0'.old hb12
    replace R1 := R1.old hb12
    replace R1' := R1'.old hb12
    replace KA := KA.old hb12
    replace KB := KB.old hb12
    replace KW := KW.old hb12
    replace KX := KX.old hb12
    replace KY := KY.old hb12
    replace KG := KG.old hb12
    replace hB := old_trans hB hb12
    clear hb12
    obtain ⟨KAa, ⟨KAb, KAc, KAd⟩, -⟩ := id KA
    obtain ⟨KBa, ⟨KBb, KBc, KBd⟩, -⟩ := id KB
    obtain ⟨KWa, ⟨KWb, KWc, KWd⟩, -⟩ := id KW
    obtain ⟨KXa, ⟨KXb, KXc, KXd⟩, -⟩ := id KX
    obtain ⟨KYa, ⟨KYb, KYc, KYd⟩, -⟩ := id KY
    obtain ⟨KGa, ⟨KGb, KGc, KGd⟩, -⟩ := id KG
    clear X
    clear X'
    clear Y
    clear Y'
    go_wp2_with fail
    refine (lMarkF sg _ _ avG avG' cvG cvG' tl ul (1) _ G G' sG htl hul (by omega) (by omega)).mono ?_
    rintro e w13 ⟨rfl, Gn, Gm, wm13, hg13, hk13⟩
    clear KAa KAb KAc KAd KBa KBb KBc KBd KWa KWb KWc KWd KXa KXb KXc KXd KYa KYb KYc KYd KGa KGb KGc KGd
    have Gs := G
    have G's := G'
    replace W := W.kept hg13 (Gs.sep l_W_G)
    replace W' := W'.kept hg13 (Gs.sep l_W'_G)
    replace G' := G'.kept hg13 (sepB sG.symm)
    replace R0 := R0.kept hg13 (fun h0 => Gs.sep (l_R0_G h0))
    replace R0' := R0'.kept hg13 (fun h0 => Gs.sep (l_R0'_G h0))
    replace R1 := R1.kept hg13 (fun h0 => Gs.sep (l_R1_G h0))
    replace R1' := R1'.kept hg13 (fun h0 => Gs.sep (l_R1'_G h0))
    replace KA := KA.kept hg13 (oi_ne_old Gs l_KA_G)
    replace KB := KB.kept hg13 (oi_ne_old Gs l_KB_G)
    replace KW := KW.kept hg13 (oi_ne_old Gs l_KW_G)
    replace KX := KX.kept hg13 (oi_ne_old Gs l_KX_G)
    replace KY := KY.kept hg13 (oi_ne_old Gs l_KY_G)
    replace KG := KG.kept hg13 (oi_ne_young y_G_KG)
    replace G's := G'
    replace hB := Below.marked hB Gs hg13 n_G hB.size
    replace W := W.kept hk13 (G's.sep l_W_G')
    replace W' := W'.kept hk13 (G's.sep l_W'_G')
    replace R0 := R0.kept hk13 (fun h0 => G's.sep (l_R0_G' h0))
    replace R0' := R0'.kept hk13 (fun h0 => G's.sep (l_R0'_G' h0))
    replace R1 := R1.kept hk13 (fun h0 => G's.sep (l_R1_G' h0))
    replace R1' := R1'.kept hk13 (fun h0 => G's.sep (l_R1'_G' h0))
    replace KA := KA.kept hk13 (oi_ne_old G's l_KA_G')
    replace KB := KB.kept hk13 (oi_ne_old G's l_KB_G')
    replace KW := KW.kept hk13 (oi_ne_old G's l_KW_G')
    replace KX := KX.kept hk13 (oi_ne_old G's l_KX_G')
    replace KY := KY.kept hk13 (oi_ne_old G's l_KY_G')
    replace KG := KG.kept hk13 (oi_ne_young y_G'_KG)
    replace hB := Below.marked hB G's hk13 n_G' hB.size
    clear G Gs G' G's
    have G := Gn
    have G' := Gm
    clear Gn Gm hg13 hk13
    obtain ⟨KAa, ⟨KAb, KAc, KAd⟩, -⟩ := id KA
    obtain ⟨KBa, ⟨KBb, KBc, KBd⟩, -⟩ := id KB
    obtain ⟨KWa, ⟨KWb, KWc, KWd⟩, -⟩ := id KW
    obtain ⟨KXa, ⟨KXb, KXc, KXd⟩, -⟩ := id KX
    obtain ⟨KYa, ⟨KYb, KYc, KYd⟩, -⟩ := id KY
    obtain ⟨KGa, ⟨KGb, KGc, KGd⟩, -⟩ := id KG
    go_wp2_with fail
    refine (lHeldF sg _ _ avG avG' cvG cvG' tl.length ul.length (1) _ G G' htl hul (by omega) (by omega)).mono ?_
    rintro e w14 ⟨rfl, hb14⟩
    clear KAa KAb KAc KAd KBa KBb KBc KBd KWa KWb KWc KWd KXa KXb KXc KXd KYa KYb KYc KYd KGa KGb KGc KGd
    replace W := W.later hb14
    replace W' := W'.later hb14
    replace G := G.later hb14
    replace G' := G'.later hb14
    replace R0 := R0.old hb14
    replace R0' := R0'.old hb14
    replace R1 := R1.old hb14
    replace R1' := R1'.old hb14
    replace KA := KA.old hb14
    replace KB := KB.old hb14
    replace KW := KW.old hb14
    replace KX := KX.old hb14
    replace KY := KY.old hb14
    replace KG := KG.old hb14
    replace hB := old_trans hB hb14
    clear hb14
    obtain ⟨KAa, ⟨KAb, KAc, KAd⟩, -⟩ := id KA
    obtain ⟨KBa, ⟨KBb, KBc, KBd⟩, -⟩ := id KB
    obtain ⟨KWa, ⟨KWb, KWc, KWd⟩, -⟩ := id KW
    obtain ⟨KXa, ⟨KXb, KXc, KXd⟩, -⟩ := id KX
    obtain ⟨KYa, ⟨KYb, KYc, KYd⟩, -⟩ := id KY
    obtain ⟨KGa, ⟨KGb, KGc, KGd⟩, -⟩ := id KG
    have l_W_H := W.lt
    have l_W'_H := W'.lt
    have l_G_H := G.lt
    have l_G'_H := G'.lt
    have l_R0_H := R0.far
    have l_R0'_H := R0'.far
    have l_R1_H := R1.far
    have l_R1'_H := R1'.far
    have l_KA_H := KA.1
    have l_KB_H := KB.1
    have l_KW_H := KW.1
    have l_KX_H := KX.1
    have l_KY_H := KY.1
    have l_KG_H := KG.1
    have n_H := hB.size
    have l_W_H' := W.lt
    have l_W'_H' := W'.lt
    have l_G_H' := G.lt
    have l_G'_H' := G'.lt
    have l_R0_H' := R0.far
    have l_R0'_H' := R0'.far
    have l_R1_H' := R1.far
    have l_R1'_H' := R1'.far
    have l_KA_H' := KA.1
    have l_KB_H' := KB.1
    have l_KW_H' := KW.1
    have l_KX_H' := KX.1
    have l_KY_H' := KY.1
    have l_KG_H' := KG.1
    have n_H' := hB.size
    have hc0_15 : w14.cell? ⟨w.heap.size, 0, none⟩ = some (.bool b0) ∧ w14.cell? ⟨w.heap.size, 1, none⟩ = some (.slice a0 xs0.length cap0) ∧ w14.cell? ⟨w.heap.size, 2, none⟩ = some (.slice a0' ys0.length cap0') ∧ w14.cell? ⟨w.heap.size + 1, 0, none⟩ = some (.bool b1) ∧ w14.cell? ⟨w.heap.size + 1, 1, none⟩ = some (.slice a1 xs1.length cap1) ∧ w14.cell? ⟨w.heap.size + 1, 2, none⟩ = some (.slice a1' ys1.length cap1') := ⟨KAb, KAc, KAd, KBb, KBc, KBd⟩
    have TF0_15 := hd (fun w' (hS : w'.cell? ⟨w.heap.size, 0, none⟩ = some (.bool b0) ∧ w'.cell? ⟨w.heap.size, 1, none⟩ = some (.slice a0 xs0.length cap0) ∧ w'.cell? ⟨w.heap.size, 2, none⟩ = some (.slice a0' ys0.length cap0') ∧ w'.cell? ⟨w.heap.size + 1, 0, none⟩ = some (.bool b1) ∧ w'.cell? ⟨w.heap.size + 1, 1, none⟩ = some (.slice a1 xs1.length cap1) ∧ w'.cell? ⟨w.heap.size + 1, 2, none⟩ = some (.slice a1' ys1.length cap1')) (h : Below w14.heap.size w14 w') => (toFracO b0 a0 a0' cap0 cap0' xs0 ys0 w' (R0.old h) (R0'.old h) hl0 hl0').mono (fun e w'' (k : _ ∧ _) => (⟨k, six_old hS k.2⟩ : (_ ∧ _) ∧ (w''.cell? ⟨w.heap.size, 0, none⟩ = some (.bool b0) ∧ w''.cell? ⟨w.heap.size, 1, none⟩ = some (.slice a0 xs0.length cap0) ∧ w''.cell? ⟨w.heap.size, 2, none⟩ = some (.slice a0' ys0.length cap0') ∧ w''.cell? ⟨w.heap.size + 1, 0, none⟩ = some (.bool b1) ∧ w''.cell? ⟨w.heap.size + 1, 1, none⟩ = some (.slice a1 xs1.length cap1) ∧ w''.cell? ⟨w.heap.size + 1, 2, none⟩ = some (.slice a1' ys1.length cap1')))))
    have TF1_15 := hd (fun w' (hS : w'.cell? ⟨w.heap.size, 0, none⟩ = some (.bool b0) ∧ w'.cell? ⟨w.heap.size, 1, none⟩ = some (.slice a0 xs0.length cap0) ∧ w'.cell? ⟨w.heap.size, 2, none⟩ = some (.slice a0' ys0.length cap0') ∧ w'.cell? ⟨w.heap.size + 1, 0, none⟩ = some (.bool b1) ∧ w'.cell? ⟨w.heap.size + 1, 1, none⟩ = some (.slice a1 xs1.length cap1) ∧ w'.cell? ⟨w.heap.size + 1, 2, none⟩ = some (.slice a1' ys1.length cap1')) (h : Below w14.heap.size w14 w') => (toFracO b1 a1 a1' cap1 cap1' xs1 ys1 w' (R1.old h) (R1'.old h) hl1 hl1').mono (fun e w'' (k : _ ∧ _) => (⟨k, six_old hS k.2⟩ : (_ ∧ _) ∧ (w''.cell? ⟨w.heap.size, 0, none⟩ = some (.bool b0) ∧ w''.cell? ⟨w.heap.size, 1, none⟩ = some (.slice a0 xs0.length cap0) ∧ w''.cell? ⟨w.heap.size, 2, none⟩ = some (.slice a0' ys0.length cap0') ∧ w''.cell? ⟨w.heap.size + 1, 0, none⟩ = some (.bool b1) ∧ w''.cell? ⟨w.heap.size + 1, 1, none⟩ = some (.slice a1 xs1.length cap1) ∧ w''.cell? ⟨w.heap.size + 1, 2, none⟩ = some (.slice a1' ys1.length cap1')))))
    have CT_15 := hd (fun a b ca cb c d cc cd w' (hS : w'.cell? ⟨w.heap.size, 0, none⟩ = some (.bool b0) ∧ w'.cell? ⟨w.heap.size, 1, none⟩ = some (.slice a0 xs0.length cap0) ∧ w'.cell? ⟨w.heap.size, 2, none⟩ = some (.slice a0' ys0.length cap0') ∧ w'.cell? ⟨w.heap.size + 1, 0, none⟩ = some (.bool b1) ∧ w'.cell? ⟨w.heap.size + 1, 1, none⟩ = some (.slice a1 xs1.length cap1) ∧ w'.cell? ⟨w.heap.size + 1, 2, none⟩ = some (.slice a1' ys1.length cap1')) (h : Below w14.heap.size w14 w') (h1 : InI w' a xs0.length ca xs0) (h2 : InI w' b ys0.length cb ys0) (h3 : InI w' c xs1.length cc xs1) (h4 : InI w' d ys1.length cd ys1) => (I.out _ _ _ _ _ _ _ _ _ _ _ _ _ h1 h2 h3 h4 (hTT.out _ (old_trans hB h))).mono (fun e w'' (k : _ ∧ _) => (⟨k, six_old hS k.2, h.size⟩ : (_ ∧ _) ∧ (w''.cell? ⟨w.heap.size, 0, none⟩ = some (.bool b0) ∧ w''.cell? ⟨w.heap.size, 1, none⟩ = some (.slice a0 xs0.length cap0) ∧ w''.cell? ⟨w.heap.size, 2, none⟩ = some (.slice a0' ys0.length cap0') ∧ w''.cell? ⟨w.heap.size + 1, 0, none⟩ = some (.bool b1) ∧ w''.cell? ⟨w.heap.size + 1, 1, none⟩ = some (.slice a1 xs1.length cap1) ∧ w''.cell? ⟨w.heap.size + 1, 2, none⟩ = some (.slice a1' ys1.length cap1')) ∧ w14.heap.size ≤ w'.heap.size)))
    have nwB_15 : w.heap.size < w14.heap.size := cell_lt hc0_15.1
    have nwC_15 : w.heap.size + 1 < w14.heap.size := cell_lt hc0_15.2.2.2.1
    have nw0_15 := World.new_ne w14 ⟨w.heap.size, 0, none⟩ KAb
    have nv0_15 := World.new_ne w14 ⟨w.heap.size + 1, 0, none⟩ KBb
    have nw1_15 := World.new_ne w14 ⟨w.heap.size, 1, none⟩ KAc
    have nv1_15 := World.new_ne w14 ⟨w.heap.size + 1, 1, none⟩ KBc
    have nw2_15 := World.new_ne w14 ⟨w.heap.size, 2, none⟩ KAd
    have nv2_15 := World.new_ne w14 ⟨w.heap.size + 1, 2, none⟩ KBd
    go_upto_region 31 with fail
    go_cut [15, 16] (fun s t wx => ∃ pb av cv av' cv', s = .pointer (some ⟨pb, 0, none⟩) ∧ t = .bool r ∧ Cel3 wx pb (.bool sg) (.slice av tl.length cv) (.slice av' ul.length cv') ∧ OI wx w14.heap.size av cv tl ∧ OI wx w14.heap.size av' cv' ul ∧ Sep av av' ∧ Below w14.heap.size w14 wx)
    case first =>
      go_wp2_with fail
      go_region_held3 (fun w' => w'.cell? ⟨w.heap.size, 0, none⟩ = some (.bool b0) ∧ w'.cell? ⟨w.heap.size, 1, none⟩ = some (.slice a0 xs0.length cap0) ∧ w'.cell? ⟨w.heap.size, 2, none⟩ = some (.slice a0' ys0.length cap0') ∧ w'.cell? ⟨w.heap.size + 1, 0, none⟩ = some (.bool b1) ∧ w'.cell? ⟨w.heap.size + 1, 1, none⟩ = some (.slice a1 xs1.length cap1) ∧ w'.cell? ⟨w.heap.size + 1, 2, none⟩ = some (.slice a1' ys1.length cap1')) (go_keep) (first | (go_at_call_of 9 (Value.agg #[.bool b0, .slice a0 xs0.length cap0, .slice a0' ys0.length cap0']); refine (TF0_15.out _ (by assumption) (by repeat (first | exact Below.refl _ _ | assumption | refine Below.drew ?_ | refine old_alloc ?_ _ | refine old_trans ?_ (by assumption)))).mono ?_; rintro e wx0 ⟨⟨⟨avPa, cvPa, avPa', cvPa', rfl, Pa, Pa', -⟩, hbx⟩, hcx⟩; have hbx0 := hbx; (with_reducible first | (have lN := N.lts; have N := N.old hbx) | (have lN := N.drew.lts; have N := N.drew.old hbx) | (have pN := newN (R := w14) (by repeat (first | exact Below.refl _ _ | assumption | refine Below.drew ?_ | refine old_alloc ?_ _ | refine old_trans ?_ (by assumption))) hbx; have lN := And.right (And.right pN); have hpN := And.left (And.right pN); have N := And.left pN) | (have pN := newN' (R := w14) (by repeat (first | exact Below.refl _ _ | assumption | refine Below.drew ?_ | refine old_alloc ?_ _ | refine old_trans ?_ (by assumption))) hbx; have lN := And.right (And.right pN); have hpN := And.left (And.right pN); have N := And.left pN) | skip); (first | (have N0 := N.c0; have N1 := N.c1; have N2 := N.c2; have N3 := N.f0; have N4 := N.f1; have N5 := N.f2; have q1 := Nat.ne_of_gt (Nat.lt_of_lt_of_le nwB_15 hpN); have q2 := Nat.ne_of_gt (Nat.lt_of_lt_of_le nwC_15 hpN)) | skip)) | (go_at_call_of 9 (Value.agg #[.bool b1, .slice a1 xs1.length cap1, .slice a1' ys1.length cap1']); refine (TF1_15.out _ (by assumption) (by repeat (first | exact Below.refl _ _ | assumption | refine Below.drew ?_ | refine old_alloc ?_ _ | refine old_trans ?_ (by assumption)))).mono ?_; rintro e wx1 ⟨⟨⟨avPb, cvPb, avPb', cvPb', rfl, Pb, Pb', -⟩, hbx⟩, hcx⟩; have hbx1 := hbx; (with_reducible first | (have lN := N.lts; have N := N.old hbx) | (have lN := N.drew.lts; have N := N.drew.old hbx) | (have pN := newN (R := w14) (by repeat (first | exact Below.refl _ _ | assumption | refine Below.drew ?_ | refine old_alloc ?_ _ | refine old_trans ?_ (by assumption))) hbx; have lN := And.right (And.right pN); have hpN := And.left (And.right pN); have N := And.left pN) | (have pN := newN' (R := w14) (by repeat (first | exact Below.refl _ _ | assumption | refine Below.drew ?_ | refine old_alloc ?_ _ | refine old_trans ?_ (by assumption))) hbx; have lN := And.right (And.right pN); have hpN := And.left (And.right pN); have N := And.left pN) | skip); (first | (have N0 := N.c0; have N1 := N.c1; have N2 := N.c2; have N3 := N.f0; have N4 := N.f1; have N5 := N.f2; have q1 := Nat.ne_of_gt (Nat.lt_of_lt_of_le nwB_15 hpN); have q2 := Nat.ne_of_gt (Nat.lt_of_lt_of_le nwC_15 hpN)) | skip)) | (go_at_call 15; refine (CT_15.out _ _ _ _ _ _ _ _ _ (by assumption) (by repeat (first | exact Below.refl _ _ | assumption | refine Below.drew ?_ | refine old_alloc ?_ _ | refine old_trans ?_ (by assumption))) (by with_reducible first | exact (Pa.later hbx1).inI | exact ((Pa.alloc _).later hbx1).inI | exact ((Pa.later hbx1).alloc _).inI) (by with_reducible first | exact (Pa'.later hbx1).inI | exact ((Pa'.alloc _).later hbx1).inI | exact ((Pa'.later hbx1).alloc _).inI) (by with_reducible first | exact Pb.inI | exact (Pb.alloc _).inI) (by with_reducible first | exact Pb'.inI | exact (Pb'.alloc _).inI)).mono ?_; rintro e wx2 ⟨⟨⟨av, cv, av', cv', rfl, hO, hO', hS⟩, hbx⟩, hcx, hbs⟩; have hbx2 := hbx; (with_reducible first | (have lN := N.lts; have N := N.old hbx) | (have lN := N.drew.lts; have N := N.drew.old hbx) | (have pN := newN (R := w14) (by repeat (first | exact Below.refl _ _ | assumption | refine Below.drew ?_ | refine old_alloc ?_ _ | refine old_trans ?_ (by assumption))) hbx; have lN := And.right (And.right pN); have hpN := And.left (And.right pN); have N := And.left pN) | (have pN := newN' (R := w14) (by repeat (first | exact Below.refl _ _ | assumption | refine Below.drew ?_ | refine old_alloc ?_ _ | refine old_trans ?_ (by assumption))) hbx; have lN := And.right (And.right pN); have hpN := And.left (And.right pN); have N := And.left pN) | skip); (first | (have N0 := N.c0; have N1 := N.c1; have N2 := N.c2; have N3 := N.f0; have N4 := N.f1; have N5 := N.f2; have q1 := Nat.ne_of_gt (Nat.lt_of_lt_of_le nwB_15 hpN); have q2 := Nat.ne_of_gt (Nat.lt_of_lt_of_le nwC_15 hpN)) | skip)))
      all_goals
        go_wp2_with fail
        go_meet
        first | exact ⟨_, av, cv, av', cv', rfl, rfl, N.setAll _ _ _, (oi_set3 hO lN).mono hbs, (oi_set3 hO' lN).mono hbs, hS, below_set (below_set (below_set (by repeat (first | exact Below.refl _ _ | assumption | refine Below.drew ?_ | refine old_alloc ?_ _ | refine old_trans ?_ (by assumption))) hpN _) hpN _) hpN _⟩ | exact ⟨_, av, cv, av', cv', rfl, rfl, Cel3.new _ _ _ _ _, (hO.alloc _).mono hbs, (hO'.alloc _).mono hbs, hS, (by repeat (first | exact Below.refl _ _ | assumption | refine Below.drew ?_ | refine old_alloc ?_ _ | refine old_trans ?_ (by assumption)))⟩
    case rest =>
      clear KAa KAb KAc KAd KBa KBb KBc KBd KWa KWb KWc KWd KXa KXb KXc KXd KYa KYb KYc KYd KGa KGb KGc KGd
      obtain ⟨w15, hw15⟩ : ∃ x, x = wc := ⟨_, rfl⟩
      subst hw15
      obtain ⟨pbKH, avH, cvH, avH', cvH', rfl, rfl, KH_, H_, H'_, sH, hb15⟩ := hcut
      clear hc0_15 TF0_15 TF1_15 CT_15 nwB_15 nwC_15 nw0_15 nv0_15 nw1_15 nv1_15 nw2_15 nv2_15
      replace W := W.later hb15
      replace W' := W'.later hb15
      replace G := G.later hb15
      replace G' := G'.later hb15
      replace R0 := R0.old hb15
      replace R0' := R0'.old hb15
      replace R1 := R1.old hb15
      replace R1' := R1'.old hb15
      replace KA := KA.old hb15
      replace KB := KB.old hb15
      replace KW := KW.old hb15
      replace KX := KX.old hb15
      replace KY := KY.old hb15
      replace KG := KG.old hb15
      replace hB := old_trans hB hb15
      clear hb15
      have H := H_
      have H' := H'_
      have KH := KH_
      clear KH_ H_ H'_
      obtain ⟨KAa, ⟨KAb, KAc, KAd⟩, -⟩ := id KA
      obtain ⟨KBa, ⟨KBb, KBc, KBd⟩, -⟩ := id KB
      obtain ⟨KWa, ⟨KWb, KWc, KWd⟩, -⟩ := id KW
      obtain ⟨KXa, ⟨KXb, KXc, KXd⟩, -⟩ := id KX
      obtain ⟨KYa, ⟨KYb, KYc, KYd⟩, -⟩ := id KY
      obtain ⟨KGa, ⟨KGb, KGc, KGd⟩, -⟩ := id KG
      obtain ⟨KHa, ⟨KHb, KHc, KHd⟩, -⟩ := id KH
      go_wp2_with fail
      refine (lEqF sg avH avH' avW avW' cvH cvH' cvW cvW' _ _ _ _ tl ul _ H H' W W').mono ?_
      rintro e w16 ⟨rfl, hb16⟩
      clear KAa KAb KAc KAd KBa KBb KBc KBd KWa KWb KWc KWd KXa KXb KXc KXd KYa KYb KYc KYd KGa KGb KGc KGd KHa KHb KHc KHd
      replace W := W.later hb16
      replace W' := W'.later hb16
      replace G := G.later hb16
      replace G' := G'.later hb16
      replace H := H.later hb16
      replace H' := H'.later hb16
      replace R0 := R0.old hb16
      replace R0' := R0'.old hb16
      replace R1 := R1.old hb16
      replace R1' := R1'.old hb16
      replace KA := KA.old hb16
      replace KB := KB.old hb16
      replace KW := KW.old hb16
      replace KX := KX.old hb16
      replace KY := KY.old hb16
      replace KG := KG.old hb16
      replace KH := KH.old hb16
      replace hB := old_trans hB hb16
      clear hb16
      obtain ⟨KAa, ⟨KAb, KAc, KAd⟩, -⟩ := id KA
      obtain ⟨KBa, ⟨KBb, KBc, KBd⟩, -⟩ := id KB
      obtain ⟨KWa, ⟨KWb, KWc, KWd⟩, -⟩ := id KW
      obtain ⟨KXa, ⟨KXb, KXc, KXd⟩, -⟩ := id KX
      obtain ⟨KYa, ⟨KYb, KYc, KYd⟩, -⟩ := id KY
      obtain ⟨KGa, ⟨KGb, KGc, KGd⟩, -⟩ := id KG
      obtain ⟨KHa, ⟨KHb, KHc, KHd⟩, -⟩ := id KH
      go_wp2_with fail
      refine (lHeldF sg _ _ avG avG' cvG cvG' tl.length ul.length (1) _ G G' htl hul (by omega) (by omega)).mono ?_
      rintro e w17 ⟨rfl, hb17⟩
      clear KAa KAb KAc KAd KBa KBb KBc KBd KWa KWb KWc KWd KXa KXb KXc KXd KYa KYb KYc KYd KGa KGb KGc KGd KHa KHb KHc KHd
      replace W := W.later hb17
      replace W' := W'.later hb17
      replace G := G.later hb17
      replace G' := G'.later hb17
      replace H := H.later hb17
      replace H' := H'.later hb17
      replace R0 := R0.old hb17
      replace R0' := R0'.old hb17
      replace R1 := R1.old hb17
      replace R1' := R1'.old hb17
      replace KA := KA.old hb17
      replace KB := KB.old hb17
      replace KW := KW.old hb17
      replace KX := KX.old hb17
      replace KY := KY.old hb17
      replace KG := KG.old hb17
      replace KH := KH.old hb17
      replace hB := old_trans hB hb17
      clear hb17
      obtain ⟨KAa, ⟨KAb, KAc, KAd⟩, -⟩ := id KA
      obtain ⟨KBa, ⟨KBb, KBc, KBd⟩, -⟩ := id KB
      obtain ⟨KWa, ⟨KWb, KWc, KWd⟩, -⟩ := id KW
      obtain ⟨KXa, ⟨KXb, KXc, KXd⟩, -⟩ := id KX
      obtain ⟨KYa, ⟨KYb, KYc, KYd⟩, -⟩ := id KY
      obtain ⟨KGa, ⟨KGb, KGc, KGd⟩, -⟩ := id KG
      obtain ⟨KHa, ⟨KHb, KHc, KHd⟩, -⟩ := id KH
      go_wp2
      go_ret
      exact ⟨rfl, hB⟩

set_option maxRecDepth 100000 in
theorem FnExactFracSub_lifted (os : Os) (started : os.Started) (H : Type) (enc : TypeId × Value → H) :
    ReturnsInHanded {} Tryz.checked os 4 .any (fun w args => (Rows.fnExactFracSubSpec.pre enc Tryz.prog Tryz.f4 [] false w args ∧ laidMetH Tryz.prog LHL w) ∧ sizedMet enc Tryz.prog Tryz.f4 (OpenSpec.ofChange Rows.fnExactFracSubSpec) false w args)
      (Rows.fnExactFracSubSpec.post enc Tryz.prog Tryz.f4 false true false false) := by
  refine returnsInHanded_of_change_and (C := Tryz.checked) (X := fun w _ => laidMetH Tryz.prog LHL w) (fun _ _ _ hh h => h.of_heap hh) LH_own started (by kernel_rfl) Tryz.func4
    (ChangeSpec.witness_shaped (enc := enc) (C := Tryz.checked) (os := os) (X := fun w _ => laidMetH Tryz.prog LHL w) false (World.doorLaid Tryz.prog LH_fuel os) #[.agg #[.bool false, .slice none 0 0, .slice none 0 0], .agg #[.bool false, .slice none 0 0, .slice none 0 0]] 8 rfl (LH_shaped os _) (by kernel_rfl) (by kernel_rfl) (by kernel_rfl) (LH_met os _)) ?_
  intro W base args ds gs before hval0 hW _ _ hL _
  have hval : ∀ (j : Nat) t v, Tryz.f4.params[j]? = some t → args[j]? = some v → Value.okWide Tryz.prog W .any base t v := hval0
  have hW' := hW
  obtain ⟨p, q, hA0, hV, rfl, hfz, hnd⟩ := hW
  have hA : DataW.TrodAll enc Tryz.prog W 0 (fun _ => true) true Tryz.f4.params.toList args.toList ds p := hA0
  rw [Tryz.params4] at hA hval
  obtain ⟨v0, vs0, d0, ds0, p0, q0, hargs, rfl, rfl, h0, r0⟩ := trodAll_cons hA
  obtain ⟨v1, vs1, d1, ds1, p1, q1, rfl, rfl, rfl, h1, r1⟩ := trodAll_cons r0
  obtain ⟨rfl, rfl, rfl⟩ := trodAll_nil r1
  obtain rfl : args = #[v0, v1] := by cases args; simp_all
  obtain ⟨rfl, rfl⟩ := trodVars_none hV
  have k0 := h0
  have lt0 : ∀ x ∈ p0, x.block < W.heap.size := by obtain ⟨m, hm⟩ := k0; exact DataW.trod_lt m _ _ _ hm
  obtain ⟨b0, a0, len0, cap0, xs0, a0', len0', cap0', ys0, rfl, wb0, wb0'⟩ := open_lfrac (hval 0 24 v0 rfl rfl) h0
  have k1 := h1
  have lt1 : ∀ x ∈ p1, x.block < W.heap.size := by obtain ⟨m, hm⟩ := k1; exact DataW.trod_lt m _ _ _ hm
  obtain ⟨b1, a1, len1, cap1, xs1, a1', len1', cap1', ys1, rfl, wb1, wb1'⟩ := open_lfrac (hval 1 24 v1 rfl rfl) h1
  clear hA0 hval0
  refine (FnExactFracSub_walk b0 a0 len0 cap0 xs0 a0' len0' cap0' ys0 b1 a1 len1 cap1 xs1 a1' len1' cap1' ys1 W wb0 wb0' wb1 wb1' (both_of hL)).mono fun e W' ⟨he, bel⟩ => ?_
  subst he
  exact ⟨_, rfl, _, _, _, [], _, [], hW', trodAll_mk1 (shut_bool Tryz.underlying4 _), (trodAll_cons_mk (Below.trod jf1 (by kernel_rfl) (of_decide_eq_true (by kernel_rfl)) k0 bel lt0) (trodAll_cons_mk (Below.trod jf1 (by kernel_rfl) (of_decide_eq_true (by kernel_rfl)) k1 bel lt1) trodAll_mk0)), rfl, bel.frame _, fun h => by cases h⟩

theorem FnExactFracSub_k0 : (Rows.fnExactFracSubRow.wf (OpenSpec.ofChange Rows.fnExactFracSubSpec)) = true := by kernel_rfl
theorem FnExactFracSub_k3 : (Tryz.f4.params.all (Tryz.prog.readableRec ·)) = true := by kernel_rfl
theorem FnExactFracSub_k4 : (namedTie Tryz.prog Rows.fnExactFracSubRow.named Rows.fnExactFracSubSpec.vars) = true := by kernel_rfl
theorem FnExactFracSub_k5 : ((Rows.fnExactFracSubRow.stops == [])) = true := by kernel_rfl
theorem FnExactFracSub_k7 : ((Rows.fnExactFracSubRow.knobs == [])) = true := by kernel_rfl
theorem FnExactFracSub_k9 : ((Rows.fnExactFracSubRow.inPlace == Tryz.prog.inPlace 4)) = true := by kernel_rfl
theorem FnExactFracSub_k10 : ((Rows.fnExactFracSubRow.unfollowed == Tryz.prog.unfollowed 4)) = true := by kernel_rfl
theorem FnExactFracSub_k11 : ((Rows.fnExactFracSubRow.recurses == Tryz.prog.recurses 4)) = true := by kernel_rfl
theorem FnExactFracSub_k12 : ((Rows.fnExactFracSubRow.named == Tryz.prog.varsNamed 4)) = true := by kernel_rfl
theorem FnExactFracSub_k13 : ((Rows.fnExactFracSubRow.maps == (Tryz.f4.params.toList ++ Rows.fnExactFracSubSpec.plain.varTypes Tryz.prog).any (Tryz.prog.mapsRec ·))) = true := by kernel_rfl
theorem FnExactFracSub_k14 : ((Rows.fnExactFracSubRow.ifaces == (Tryz.f4.params.toList ++ Rows.fnExactFracSubSpec.plain.varTypes Tryz.prog).any (Tryz.prog.ifacesRec ·))) = true := by kernel_rfl
theorem FnExactFracSub_k15 : ((Rows.fnExactFracSubRow.mapsOut == Tryz.prog.mapsAmong Tryz.f4.resultTypes.toList)) = true := by kernel_rfl
theorem FnExactFracSub_k16 : ((Rows.fnExactFracSubRow.loops == (Tryz.f4.params.toList ++ Rows.fnExactFracSubSpec.plain.varTypes Tryz.prog).any (Tryz.prog.loopsFrom ·))) = true := by kernel_rfl
theorem FnExactFracSub_k17 : ((Rows.fnExactFracSubRow.wideKeys == (Tryz.f4.params.toList ++ Rows.fnExactFracSubSpec.plain.varTypes Tryz.prog ++ Tryz.f4.resultTypes.toList).any (Tryz.prog.wideKeysFrom ·))) = true := by kernel_rfl
theorem FnExactFracSub_k18 : (Rows.fnExactFracSubSpec.vars.all (Tryz.prog.varReadable ·)) = true := by kernel_rfl
theorem FnExactFracSub_k19 : (Tryz.f4.resultTypes.all (fun t => Tryz.prog.readableRec t && decide (t < Tryz.prog.types.size))) = true := by kernel_rfl
theorem FnExactFracSub_k20 : ((Rows.fnExactFracSubRow.ifacesOut == Tryz.f4.resultTypes.toList.any (Tryz.prog.ifacesRec ·))) = true := by kernel_rfl
theorem FnExactFracSub_k21 : ((Rows.fnExactFracSubRow.loopsOut == Tryz.f4.resultTypes.toList.any (Tryz.prog.loopsFrom ·))) = true := by kernel_rfl
theorem FnExactFracSub_k23 : (Rows.fnExactFracSubRow.shortTexts.isNone) = true := by kernel_rfl
theorem FnExactFracSub_k28 : ((Rows.fnExactFracSubRow.kinds == (if Rows.fnExactFracSubRow.domain.isEmpty then [] else Tryz.f4.params.toList.map fun t => match Tryz.prog.underlying t with | some (.int k) => some k | _ => none))) = true := by kernel_rfl
theorem FnExactFracSub_k29 : ((Rows.fnExactFracSubRow.pinned == Rows.fnExactFracSubRow.pinnedBy)) = true := by kernel_rfl
theorem FnExactFracSub_k30 : ((Rows.fnExactFracSubRow.veiled == (Tryz.f4.params.toList ++ Rows.fnExactFracSubSpec.plain.varTypes Tryz.prog ++ Tryz.f4.resultTypes.toList).any (Tryz.prog.veiledRec ·))) = true := by kernel_rfl
theorem FnExactFracSub_k31 : (Rows.fnExactFracSubRow.veiledFits Tryz.prog Tryz.f4.params.toList (Tryz.f4.params.toList ++ Rows.fnExactFracSubSpec.plain.varTypes Tryz.prog ++ Tryz.f4.resultTypes.toList)) = true := by kernel_rfl
set_option maxRecDepth 100000 in
theorem FnExactFracSub_closed : joinedFacts Tryz.prog 4 Tryz.f4 Rows.fnExactFracSubSpec Rows.fnExactFracSubRow = true := (and2 (and2 (and2 (and2 (and2 (and2 (and2 (and2 (and2 (and2 (and2 (and2 (and2 (and2 (and2 (and2 (and2 (and2 (and2 (and2 (and2 (and2 (and2 (and2 (and2 (and2 (and2 (and2 (and2 (and2 (and2 FnExactFracSub_k0 jf1) jf2) FnExactFracSub_k3) FnExactFracSub_k4) FnExactFracSub_k5) jf6) FnExactFracSub_k7) jf8) FnExactFracSub_k9) FnExactFracSub_k10) FnExactFracSub_k11) FnExactFracSub_k12) FnExactFracSub_k13) FnExactFracSub_k14) FnExactFracSub_k15) FnExactFracSub_k16) FnExactFracSub_k17) FnExactFracSub_k18) FnExactFracSub_k19) FnExactFracSub_k20) FnExactFracSub_k21) jf22) FnExactFracSub_k23) jf24) jf25) jf26) jf27) FnExactFracSub_k28) FnExactFracSub_k29) FnExactFracSub_k30) FnExactFracSub_k31)
theorem FnExactFracSub_row : Rows.FnExactFracSubSaid :=
  OpenClaim.holds_of_wide 4 Tryz.f4 rfl rfl rfl rfl rfl rfl rfl ⟨rfl, rfl, rfl, rfl, rfl⟩ rfl rfl rfl rfl rfl (by kernel_rfl) Tryz.func4 FnExactFracSub_closed
    (of_decide_eq_true (by kernel_rfl)) (by unfold Func.isWrapper; first | (rw [if_pos (by decide +kernel)]; kernel_rfl) | (rw [if_neg (by decide +kernel)]; exact ⟨rfl, rfl⟩))
    (fun os started H enc _ => FnExactFracSub_lifted os started H enc)

theorem FnExactFracSub_proved : Rows.FnExactFracSubCardSaid :=
  Claim7.holds_tied_plain_at .later [] [.data, .data, .handle] true (true, "5e71cd38fba70f2b32fbc9bb6f290313f6304398506e80f3e97ba7a2b0f85f10") true
    FnExactFracSub_row (fun _ h => by cases h) (by kernel_rfl) (fun _ h => by cases h) fnExactFracSub_row_tie rfl ⟨rfl, rfl⟩ (by kernel_rfl) rfl
    (fun f fn hf hfn => by
      obtain rfl : f = 4 := Option.some.inj ((show Tryz.prog.funcNamed "loop.example/pinfold/laws.FnExactFracSub" = some 4 by kernel_rfl).symm.trans hf) |>.symm
      obtain rfl : fn = Tryz.f4 := (Option.some.inj (Tryz.func4.symm.trans hfn)).symm
      exact ⟨by kernel_rfl, fun j t ht => by
        rw [Tryz.params4] at ht
        have hm : t ∈ [24, 24] := by simpa using Array.mem_of_getElem? ht
        have hall : ([24, 24].all fun u => !Tryz.prog.wantsStandIn u) = true := by kernel_rfl
        exact (show Tryz.prog.wantsStandIn t = false by simpa using List.all_eq_true.1 hall t hm)⟩)
    (by kernel_rfl)
end Go.Proofs.YtpamnpdigoikoaaGreatDoor
