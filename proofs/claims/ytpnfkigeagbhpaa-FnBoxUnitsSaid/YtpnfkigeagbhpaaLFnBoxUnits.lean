/- For every two codes of bytes: each part of a box that is split or cut is less, as the document says; the law answers true; nothing that was there is written. No condition. -/
import Derived.Test.YtpnfkigeagbhpaaRows
import Derived.WalkKit
import Derived.ProofKit
import Derived.OpenShut
import Derived.Below
import Derived.Carry
import Derived.Test.YtpnfkigeagbhpaaPK02
import Derived.Test.YtpnfkigeagbhpaaPK05
import Derived.Test.YtpnfkigeagbhpaaPK29
import Derived.Test.YtpnfkigeagbhpaaPK30
namespace Go.Proofs.Ytpnfkigeagbhpaa
open Go.ChangeShapes Go.WideShapes Go.ChangeAt Go.RowKit
set_option linter.unusedVariables false
set_option maxRecDepth 100000

theorem FnBoxUnits_own : ownKnob Try.prog.godebug = none := by kernel_rfl

set_option maxRecDepth 100000 in
set_option maxHeartbeats 40000000 in
theorem FnBoxUnits_walk (a0 : Option Addr) (len0 cap0 : Nat) (a1 : Option Addr) (len1 cap1 : Nat) (w : World) (wb0 : IsCode w a0 len0 cap0) (wb1 : IsCode w a1 len1 cap1):
    Calls Try.prog 5 #[.slice a0 len0 cap0, .slice a1 len1 cap1] w fun e w' => e = .returned (.bool true) ∧ Below w.heap.size w w' := by
  by_cases c0 : (1048576 : Int) < (len0 : Int)
  · have t0 : decide ((1048576 : Int) < (len0 : Int)) = true := by simp; omega
    go_enter Try.func5, Try.ntmps5
    go_wp2
    go_ret
    exact ⟨rfl, (by repeat (first | exact Below.refl _ _ | refine Below.drew ?_ | refine old_alloc ?_ _ | refine old_trans ?_ (by assumption)))⟩
  have t0 : decide ((1048576 : Int) < (len0 : Int)) = false := decide_eq_false c0
  by_cases c1 : (1048576 : Int) < (len1 : Int)
  · have t1 : decide ((1048576 : Int) < (len1 : Int)) = true := by simp; omega
    go_enter Try.func5, Try.ntmps5
    go_wp2
    go_ret
    exact ⟨rfl, (by repeat (first | exact Below.refl _ _ | refine Below.drew ?_ | refine old_alloc ?_ _ | refine old_trans ?_ (by assumption)))⟩
  have t1 : decide ((1048576 : Int) < (len1 : Int)) = false := decide_eq_false c1
  have hB : Below w.heap.size w w := Below.refl _ _
  go_enter Try.func5, Try.ntmps5
  go_wp2_with fail
  refine (drawBoxSplit _ a0 len0 cap0 wb0).mono ?_
  rintro e w1 ⟨⟨wd, av, cv, ps, at_, hwd, rfl, hpl, hT, hat, O⟩, hb1⟩
  replace wb1 := (by with_reducible first | exact wb1.old hb1 | exact (wb1.old ((Below.refl _ _).alloc (Nat.le_refl _) _)).old hb1 | exact ((wb1.old ((Below.refl _ _).alloc (Nat.le_refl _) _)).old ((Below.refl _ _).alloc (Nat.le_refl _) _)).old hb1 : IsCode w1 _ _ _)
  replace hB := (by with_reducible first | exact old_trans hB hb1 | exact old_trans (old_alloc hB _) hb1 | exact old_trans (old_alloc (old_alloc hB _) _) hb1 | exact old_trans (old_alloc (old_alloc (old_alloc hB _) _) _) hb1 : Below w.heap.size w w1)
  clear wb0
  cases hp : okRow wd ps
  case false =>
    go_wp2_with fail
    refine (sOkO _ _ _ _ _ (O.alloc _) _ false hp).mono ?_
    rintro e w2 ⟨rfl, hb2⟩
    replace O := (by with_reducible first | exact O.later hb2 | exact O.drew.later hb2 | exact (O.alloc _).later hb2 | exact ((O.alloc _).alloc _).later hb2 | exact (((O.alloc _).alloc _).alloc _).later hb2 : OB w2 _ _ _ _)
    replace wb1 := (by with_reducible first | exact wb1.old hb2 | exact (wb1.old ((Below.refl _ _).alloc (Nat.le_refl _) _)).old hb2 | exact ((wb1.old ((Below.refl _ _).alloc (Nat.le_refl _) _)).old ((Below.refl _ _).alloc (Nat.le_refl _) _)).old hb2 : IsCode w2 _ _ _)
    replace hB := (by with_reducible first | exact old_trans hB hb2 | exact old_trans (old_alloc hB _) hb2 | exact old_trans (old_alloc (old_alloc hB _) _) hb2 | exact old_trans (old_alloc (old_alloc (old_alloc hB _) _) _) hb2 : Below w.heap.size w w2)
    have V := (Cel1.made _ _ rfl (.slice av ps.length cv) 25).later hb2
    (try simp only [World.size_alloc] at V)
    have V0 := V.1
    have V1 := V.2.1
    have Vz := V.2.2
    have hno := units_no hp
    go_wp2_with fail
    refine (iUnitsV wd _ _ _ _ _ O 0 hno.1).mono ?_
    rintro e w3 ⟨rfl, hb3⟩
    clear V0 V1 Vz
    replace V := (by with_reducible first | exact V.later hb3 | exact V.drew.later hb3 | exact (V.alloc _).later hb3 | exact ((V.alloc _).alloc _).later hb3 | exact (((V.alloc _).alloc _).alloc _).later hb3 : Cel1 w3 _ _)
    replace O := (by with_reducible first | exact O.later hb3 | exact O.drew.later hb3 | exact (O.alloc _).later hb3 | exact ((O.alloc _).alloc _).later hb3 | exact (((O.alloc _).alloc _).alloc _).later hb3 : OB w3 _ _ _ _)
    replace wb1 := (by with_reducible first | exact wb1.old hb3 | exact (wb1.old ((Below.refl _ _).alloc (Nat.le_refl _) _)).old hb3 | exact ((wb1.old ((Below.refl _ _).alloc (Nat.le_refl _) _)).old ((Below.refl _ _).alloc (Nat.le_refl _) _)).old hb3 : IsCode w3 _ _ _)
    replace hB := (by with_reducible first | exact old_trans hB hb3 | exact old_trans (old_alloc hB _) hb3 | exact old_trans (old_alloc (old_alloc hB _) _) hb3 | exact old_trans (old_alloc (old_alloc (old_alloc hB _) _) _) hb3 : Below w.heap.size w w3)
    have V0 := V.1
    have V1 := V.2.1
    have Vz := V.2.2
    go_wp2_with fail
    refine (iPathV wd _ _ _ _ _ O 0 hno.2).mono ?_
    rintro e w4 ⟨rfl, hb4⟩
    clear V0 V1 Vz
    replace V := (by with_reducible first | exact V.later hb4 | exact V.drew.later hb4 | exact (V.alloc _).later hb4 | exact ((V.alloc _).alloc _).later hb4 | exact (((V.alloc _).alloc _).alloc _).later hb4 : Cel1 w4 _ _)
    replace O := (by with_reducible first | exact O.later hb4 | exact O.drew.later hb4 | exact (O.alloc _).later hb4 | exact ((O.alloc _).alloc _).later hb4 | exact (((O.alloc _).alloc _).alloc _).later hb4 : OB w4 _ _ _ _)
    replace wb1 := (by with_reducible first | exact wb1.old hb4 | exact (wb1.old ((Below.refl _ _).alloc (Nat.le_refl _) _)).old hb4 | exact ((wb1.old ((Below.refl _ _).alloc (Nat.le_refl _) _)).old ((Below.refl _ _).alloc (Nat.le_refl _) _)).old hb4 : IsCode w4 _ _ _)
    replace hB := (by with_reducible first | exact old_trans hB hb4 | exact old_trans (old_alloc hB _) hb4 | exact old_trans (old_alloc (old_alloc hB _) _) hb4 | exact old_trans (old_alloc (old_alloc (old_alloc hB _) _) _) hb4 : Below w.heap.size w w4)
    have V0 := V.1
    have V1 := V.2.1
    have Vz := V.2.2
    go_wp2
    go_ret
    exact ⟨rfl, (by repeat (first | exact hB | exact Below.refl _ _ | refine Below.drew ?_ | refine old_alloc ?_ _ | refine old_trans ?_ (by assumption)))⟩
  case true =>
    go_wp2_with fail
    refine (sOkO _ _ _ _ _ (O.alloc _) _ true hp).mono ?_
    rintro e w2 ⟨rfl, hb2⟩
    replace O := (by with_reducible first | exact O.later hb2 | exact O.drew.later hb2 | exact (O.alloc _).later hb2 | exact ((O.alloc _).alloc _).later hb2 | exact (((O.alloc _).alloc _).alloc _).later hb2 : OB w2 _ _ _ _)
    replace wb1 := (by with_reducible first | exact wb1.old hb2 | exact (wb1.old ((Below.refl _ _).alloc (Nat.le_refl _) _)).old hb2 | exact ((wb1.old ((Below.refl _ _).alloc (Nat.le_refl _) _)).old ((Below.refl _ _).alloc (Nat.le_refl _) _)).old hb2 : IsCode w2 _ _ _)
    replace hB := (by with_reducible first | exact old_trans hB hb2 | exact old_trans (old_alloc hB _) hb2 | exact old_trans (old_alloc (old_alloc hB _) _) hb2 | exact old_trans (old_alloc (old_alloc (old_alloc hB _) _) _) hb2 : Below w.heap.size w w2)
    have V := (Cel1.made _ _ rfl (.slice av ps.length cv) 25).later hb2
    (try simp only [World.size_alloc] at V)
    have V0 := V.1
    have V1 := V.2.1
    have Vz := V.2.2
    obtain ⟨⟨z1, z2⟩, q1, q2⟩ := units_in hp
    have hS := hd (fun h => split_less (wd := wd) (at_ := at_) (ps := ps) h)
    generalize hu : unitsRow wd ps = u at *
    generalize hq : pathRow wd ps = q at *
    replace hu := hd hu
    replace hq := hd hq
    go_wp2_with fail
    refine (iUnitsV wd _ _ _ _ _ O u hu.out).mono ?_
    rintro e w3 ⟨rfl, hb3⟩
    clear V0 V1 Vz
    replace V := (by with_reducible first | exact V.later hb3 | exact V.drew.later hb3 | exact (V.alloc _).later hb3 | exact ((V.alloc _).alloc _).later hb3 | exact (((V.alloc _).alloc _).alloc _).later hb3 : Cel1 w3 _ _)
    replace O := (by with_reducible first | exact O.later hb3 | exact O.drew.later hb3 | exact (O.alloc _).later hb3 | exact ((O.alloc _).alloc _).later hb3 | exact (((O.alloc _).alloc _).alloc _).later hb3 : OB w3 _ _ _ _)
    replace wb1 := (by with_reducible first | exact wb1.old hb3 | exact (wb1.old ((Below.refl _ _).alloc (Nat.le_refl _) _)).old hb3 | exact ((wb1.old ((Below.refl _ _).alloc (Nat.le_refl _) _)).old ((Below.refl _ _).alloc (Nat.le_refl _) _)).old hb3 : IsCode w3 _ _ _)
    replace hB := (by with_reducible first | exact old_trans hB hb3 | exact old_trans (old_alloc hB _) hb3 | exact old_trans (old_alloc (old_alloc hB _) _) hb3 | exact old_trans (old_alloc (old_alloc (old_alloc hB _) _) _) hb3 : Below w.heap.size w w3)
    have V0 := V.1
    have V1 := V.2.1
    have Vz := V.2.2
    go_wp2_with fail
    refine (iPathV wd _ _ _ _ _ O q hq.out).mono ?_
    rintro e w4 ⟨rfl, hb4⟩
    clear V0 V1 Vz
    replace V := (by with_reducible first | exact V.later hb4 | exact V.drew.later hb4 | exact (V.alloc _).later hb4 | exact ((V.alloc _).alloc _).later hb4 | exact (((V.alloc _).alloc _).alloc _).later hb4 : Cel1 w4 _ _)
    replace O := (by with_reducible first | exact O.later hb4 | exact O.drew.later hb4 | exact (O.alloc _).later hb4 | exact ((O.alloc _).alloc _).later hb4 | exact (((O.alloc _).alloc _).alloc _).later hb4 : OB w4 _ _ _ _)
    replace wb1 := (by with_reducible first | exact wb1.old hb4 | exact (wb1.old ((Below.refl _ _).alloc (Nat.le_refl _) _)).old hb4 | exact ((wb1.old ((Below.refl _ _).alloc (Nat.le_refl _) _)).old ((Below.refl _ _).alloc (Nat.le_refl _) _)).old hb4 : IsCode w4 _ _ _)
    replace hB := (by with_reducible first | exact old_trans hB hb4 | exact old_trans (old_alloc hB _) hb4 | exact old_trans (old_alloc (old_alloc hB _) _) hb4 | exact old_trans (old_alloc (old_alloc (old_alloc hB _) _) _) hb4 : Below w.heap.size w w4)
    have V0 := V.1
    have V1 := V.2.1
    have Vz := V.2.2
    have e1 : decide (u < 1) = false := decide_eq_false (by omega)
    have e2 : decide (1000000000 < u) = false := decide_eq_false (by omega)
    have e3 : decide (q < 1) = false := decide_eq_false (by omega)
    have e4 : decide (64 * (ps.length : Int) + 1 < q) = false := decide_eq_false (by omega)
    cases hs : splR wd at_ ps
    case false =>
      as_aux_lemma =>
        go_wp2_with fail
        refine (iSplNo _ _ _ _ _ _ _ O hpl hs).mono ?_
        rintro e w5 ⟨⟨ax, cx, ay, cy, rfl⟩, hb5⟩
        clear V0 V1 Vz
        replace V := (by with_reducible first | exact V.later hb5 | exact V.drew.later hb5 | exact (V.alloc _).later hb5 | exact ((V.alloc _).alloc _).later hb5 | exact (((V.alloc _).alloc _).alloc _).later hb5 : Cel1 w5 _ _)
        replace O := (by with_reducible first | exact O.later hb5 | exact O.drew.later hb5 | exact (O.alloc _).later hb5 | exact ((O.alloc _).alloc _).later hb5 | exact (((O.alloc _).alloc _).alloc _).later hb5 : OB w5 _ _ _ _)
        replace wb1 := (by with_reducible first | exact wb1.old hb5 | exact (wb1.old ((Below.refl _ _).alloc (Nat.le_refl _) _)).old hb5 | exact ((wb1.old ((Below.refl _ _).alloc (Nat.le_refl _) _)).old ((Below.refl _ _).alloc (Nat.le_refl _) _)).old hb5 : IsCode w5 _ _ _)
        replace hB := (by with_reducible first | exact old_trans hB hb5 | exact old_trans (old_alloc hB _) hb5 | exact old_trans (old_alloc (old_alloc hB _) _) hb5 | exact old_trans (old_alloc (old_alloc (old_alloc hB _) _) _) hb5 : Below w.heap.size w w5)
        have V0 := V.1
        have V1 := V.2.1
        have Vz := V.2.2
        have sA := hB.size
        go_wp2_with fail
        refine (sSplNo _ _ _ _ _ _ _ ((O.alloc _).alloc _) hpl hs).mono ?_
        rintro e w6 ⟨⟨ax2, cx2, ay2, cy2, rfl⟩, hb6⟩
        clear V0 V1 Vz
        replace V := (by with_reducible first | exact V.later hb6 | exact V.drew.later hb6 | exact (V.alloc _).later hb6 | exact ((V.alloc _).alloc _).later hb6 | exact (((V.alloc _).alloc _).alloc _).later hb6 : Cel1 w6 _ _)
        replace O := (by with_reducible first | exact O.later hb6 | exact O.drew.later hb6 | exact (O.alloc _).later hb6 | exact ((O.alloc _).alloc _).later hb6 | exact (((O.alloc _).alloc _).alloc _).later hb6 : OB w6 _ _ _ _)
        replace wb1 := (by with_reducible first | exact wb1.old hb6 | exact (wb1.old ((Below.refl _ _).alloc (Nat.le_refl _) _)).old hb6 | exact ((wb1.old ((Below.refl _ _).alloc (Nat.le_refl _) _)).old ((Below.refl _ _).alloc (Nat.le_refl _) _)).old hb6 : IsCode w6 _ _ _)
        replace hB := (by with_reducible first | exact old_trans hB hb6 | exact old_trans (old_alloc hB _) hb6 | exact old_trans (old_alloc (old_alloc hB _) _) hb6 | exact old_trans (old_alloc (old_alloc (old_alloc hB _) _) _) hb6 : Below w.heap.size w w6)
        have VA := ((Cel1.made _ _ rfl (.slice ax 0 cx) 25).alloc _).later hb6
        (try simp only [World.size_alloc] at VA)
        have VB := (Cel1.made _ _ rfl (.slice ay 0 cy) 25).later hb6
        (try simp only [World.size_alloc] at VB)
        have V0 := V.1
        have V1 := V.2.1
        have Vz := V.2.2
        have VA0 := VA.1
        have VA1 := VA.2.1
        have VAz := VA.2.2
        have VB0 := VB.1
        have VB1 := VB.2.1
        have VBz := VB.2.2
        generalize hA : w5.heap.size = bA at *
        go_upto_region 19 with fail
        clear V0 V1 Vz VA0 VA1 VAz VB0 VB1 VBz
        clear O V e1 e2 e3 e4 hS hu hq
        have VA0 := VA.1
        have VA1 := VA.2.1
        have VAz := VA.2.2
        have VB0 := VB.1
        have VB1 := VB.2.1
        have VBz := VB.2.2
        have la := VA.2.2
        have lb := VB.2.2
        go_wp2_with fail
        refine (drawBoxCut _ a1 len1 cap1 ((wb1.old ((Below.refl _ _).alloc (Nat.le_refl _) _)).old ((Below.refl _ _).alloc (Nat.le_refl _) _))).mono ?_
        rintro e w7 ⟨⟨wd2, ac, cc, cs, at2, gc, gd, hwd2, rfl, hcl, hT2, hg, C⟩, hb7⟩
        clear VA0 VA1 VAz VB0 VB1 VBz
        replace VA := (by with_reducible first | exact VA.later hb7 | exact VA.drew.later hb7 | exact (VA.alloc _).later hb7 | exact ((VA.alloc _).alloc _).later hb7 | exact (((VA.alloc _).alloc _).alloc _).later hb7 : Cel1 w7 _ _)
        replace VB := (by with_reducible first | exact VB.later hb7 | exact VB.drew.later hb7 | exact (VB.alloc _).later hb7 | exact ((VB.alloc _).alloc _).later hb7 | exact (((VB.alloc _).alloc _).alloc _).later hb7 : Cel1 w7 _ _)
        replace wb1 := (by with_reducible first | exact wb1.old hb7 | exact (wb1.old ((Below.refl _ _).alloc (Nat.le_refl _) _)).old hb7 | exact ((wb1.old ((Below.refl _ _).alloc (Nat.le_refl _) _)).old ((Below.refl _ _).alloc (Nat.le_refl _) _)).old hb7 : IsCode w7 _ _ _)
        replace hB := (by with_reducible first | exact old_trans hB hb7 | exact old_trans (old_alloc hB _) hb7 | exact old_trans (old_alloc (old_alloc hB _) _) hb7 | exact old_trans (old_alloc (old_alloc (old_alloc hB _) _) _) hb7 : Below w.heap.size w w7)
        have VA2 := ((Cel1.made _ _ rfl (.slice ax2 0 cx2) 25).alloc _).later hb7
        (try simp only [World.size_alloc] at VA2)
        have VB2 := (Cel1.made _ _ rfl (.slice ay2 0 cy2) 25).later hb7
        (try simp only [World.size_alloc] at VB2)
        have VA0 := VA.1
        have VA1 := VA.2.1
        have VAz := VA.2.2
        have VB0 := VB.1
        have VB1 := VB.2.1
        have VBz := VB.2.2
        have VA20 := VA2.1
        have VA21 := VA2.2.1
        have VA2z := VA2.2.2
        have VB20 := VB2.1
        have VB21 := VB2.2.1
        have VB2z := VB2.2.2
        (try simp only [World.size_alloc] at C)
        have ls := hb7.size
        (try simp only [World.size_alloc] at ls)
        have lx : bA + 1 < w7.heap.size := by omega
        cases hc : cutR wd2 at2 gc gd cs
        case false =>
          as_aux_lemma =>
            go_wp2_with fail
            refine (iCutNo _ _ _ _ _ _ _ ((C.alloc _).alloc _) hcl _ _ hg hc).mono ?_
            rintro e w8 ⟨⟨ap, cp, aq, cq, rfl⟩, hb8⟩
            clear VA0 VA1 VAz VB0 VB1 VBz VA20 VA21 VA2z VB20 VB21 VB2z
            replace VA := (by with_reducible first | exact VA.later hb8 | exact VA.drew.later hb8 | exact (VA.alloc _).later hb8 | exact ((VA.alloc _).alloc _).later hb8 | exact (((VA.alloc _).alloc _).alloc _).later hb8 : Cel1 w8 _ _)
            replace VB := (by with_reducible first | exact VB.later hb8 | exact VB.drew.later hb8 | exact (VB.alloc _).later hb8 | exact ((VB.alloc _).alloc _).later hb8 | exact (((VB.alloc _).alloc _).alloc _).later hb8 : Cel1 w8 _ _)
            replace VA2 := (by with_reducible first | exact VA2.later hb8 | exact VA2.drew.later hb8 | exact (VA2.alloc _).later hb8 | exact ((VA2.alloc _).alloc _).later hb8 | exact (((VA2.alloc _).alloc _).alloc _).later hb8 : Cel1 w8 _ _)
            replace VB2 := (by with_reducible first | exact VB2.later hb8 | exact VB2.drew.later hb8 | exact (VB2.alloc _).later hb8 | exact ((VB2.alloc _).alloc _).later hb8 | exact (((VB2.alloc _).alloc _).alloc _).later hb8 : Cel1 w8 _ _)
            replace C := (by with_reducible first | exact C.later hb8 | exact C.drew.later hb8 | exact (C.alloc _).later hb8 | exact ((C.alloc _).alloc _).later hb8 | exact (((C.alloc _).alloc _).alloc _).later hb8 : OB w8 _ _ _ _)
            replace wb1 := (by with_reducible first | exact wb1.old hb8 | exact (wb1.old ((Below.refl _ _).alloc (Nat.le_refl _) _)).old hb8 | exact ((wb1.old ((Below.refl _ _).alloc (Nat.le_refl _) _)).old ((Below.refl _ _).alloc (Nat.le_refl _) _)).old hb8 : IsCode w8 _ _ _)
            replace hB := (by with_reducible first | exact old_trans hB hb8 | exact old_trans (old_alloc hB _) hb8 | exact old_trans (old_alloc (old_alloc hB _) _) hb8 | exact old_trans (old_alloc (old_alloc (old_alloc hB _) _) _) hb8 : Below w.heap.size w w8)
            have VC := ((Cel1.made _ _ rfl (.slice ac cs.length cc) 25).alloc _).later hb8
            (try simp only [World.size_alloc] at VC)
            have VG := (Cel2.made _ _ rfl (.int .i64 gc) (.int .i64 gd) 42).later hb8
            (try simp only [World.size_alloc] at VG)
            have VA0 := VA.1
            have VA1 := VA.2.1
            have VAz := VA.2.2
            have VB0 := VB.1
            have VB1 := VB.2.1
            have VBz := VB.2.2
            have VA20 := VA2.1
            have VA21 := VA2.2.1
            have VA2z := VA2.2.2
            have VB20 := VB2.1
            have VB21 := VB2.2.1
            have VB2z := VB2.2.2
            have VC0 := VC.1
            have VC1 := VC.2.1
            have VCz := VC.2.2
            have VG0 := VG.1
            have VG1 := VG.2.1
            have VGz := VG.2.2.2.2
            generalize w7.heap.size = bC at *
            go_upto_region 21 with fail
            clear VA0 VA1 VAz VB0 VB1 VBz VA20 VA21 VA2z VB20 VB21 VB2z VC0 VC1 VCz VG0 VG1 VGz
            clear VA2 VB2 wb1
            replace VA : Cel1 ((w8.setCell ⟨bA, 0, none⟩ (.slice ap 0 cp)).setCell ⟨bA + 1, 0, none⟩ (.slice aq 0 cq)) bA _ := (VA.set _).other ⟨bA + 1, 0, none⟩ (by simp) _
            replace VB : Cel1 ((w8.setCell ⟨bA, 0, none⟩ (.slice ap 0 cp)).setCell ⟨bA + 1, 0, none⟩ (.slice aq 0 cq)) (bA + 1) _ := (VB.other ⟨bA, 0, none⟩ (by simp) _).set _
            replace VC : Cel1 ((w8.setCell ⟨bA, 0, none⟩ (.slice ap 0 cp)).setCell ⟨bA + 1, 0, none⟩ (.slice aq 0 cq)) bC _ := (VC.other ⟨bA, 0, none⟩ (by simp; omega) _).other ⟨bA + 1, 0, none⟩ (by simp; omega) _
            replace VG : Cel2 ((w8.setCell ⟨bA, 0, none⟩ (.slice ap 0 cp)).setCell ⟨bA + 1, 0, none⟩ (.slice aq 0 cq)) (bC + 1) _ _ := (VG.other bA 0 (by omega) _).other (bA + 1) 0 (by omega) _
            replace C : OB ((w8.setCell ⟨bA, 0, none⟩ (.slice ap 0 cp)).setCell ⟨bA + 1, 0, none⟩ (.slice aq 0 cq)) _ _ _ _ := (C.set1 (by omega) _).set1 (by omega) _
            replace hB : Below w.heap.size w ((w8.setCell ⟨bA, 0, none⟩ (.slice ap 0 cp)).setCell ⟨bA + 1, 0, none⟩ (.slice aq 0 cq)) := (hB.setCell (p := ⟨bA, 0, none⟩) (by simp; omega) _).setCell (p := ⟨bA + 1, 0, none⟩) (by simp; omega) _
            generalize (w8.setCell ⟨bA, 0, none⟩ (.slice ap 0 cp)).setCell ⟨bA + 1, 0, none⟩ (.slice aq 0 cq) = w8s at *
            have VA0 := VA.1
            have VA1 := VA.2.1
            have VAz := VA.2.2
            have VB0 := VB.1
            have VB1 := VB.2.1
            have VBz := VB.2.2
            have VC0 := VC.1
            have VC1 := VC.2.1
            have VCz := VC.2.2
            have VG0 := VG.1
            have VG1 := VG.2.1
            have VGz := VG.2.2.2.2
            go_wp2_with fail
            refine (sCutNo _ _ _ _ _ _ _ C hcl _ _ hg hc).mono ?_
            rintro e w9 ⟨⟨ap2, cp2, aq2, cq2, rfl⟩, hb9⟩
            clear VA0 VA1 VAz VB0 VB1 VBz VC0 VC1 VCz VG0 VG1 VGz
            replace VA := (by with_reducible first | exact VA.later hb9 | exact VA.drew.later hb9 | exact (VA.alloc _).later hb9 | exact ((VA.alloc _).alloc _).later hb9 | exact (((VA.alloc _).alloc _).alloc _).later hb9 : Cel1 w9 _ _)
            replace VB := (by with_reducible first | exact VB.later hb9 | exact VB.drew.later hb9 | exact (VB.alloc _).later hb9 | exact ((VB.alloc _).alloc _).later hb9 | exact (((VB.alloc _).alloc _).alloc _).later hb9 : Cel1 w9 _ _)
            replace VC := (by with_reducible first | exact VC.later hb9 | exact VC.drew.later hb9 | exact (VC.alloc _).later hb9 | exact ((VC.alloc _).alloc _).later hb9 | exact (((VC.alloc _).alloc _).alloc _).later hb9 : Cel1 w9 _ _)
            replace VG := (by with_reducible first | exact VG.later hb9 | exact VG.drew.later hb9 | exact (VG.alloc _).later hb9 | exact ((VG.alloc _).alloc _).later hb9 | exact (((VG.alloc _).alloc _).alloc _).later hb9 : Cel2 w9 _ _ _)
            replace C := (by with_reducible first | exact C.later hb9 | exact C.drew.later hb9 | exact (C.alloc _).later hb9 | exact ((C.alloc _).alloc _).later hb9 | exact (((C.alloc _).alloc _).alloc _).later hb9 : OB w9 _ _ _ _)
            replace hB := (by with_reducible first | exact old_trans hB hb9 | exact old_trans (old_alloc hB _) hb9 | exact old_trans (old_alloc (old_alloc hB _) _) hb9 | exact old_trans (old_alloc (old_alloc (old_alloc hB _) _) _) hb9 : Below w.heap.size w w9)
            have VA0 := VA.1
            have VA1 := VA.2.1
            have VAz := VA.2.2
            have VB0 := VB.1
            have VB1 := VB.2.1
            have VBz := VB.2.2
            have VC0 := VC.1
            have VC1 := VC.2.1
            have VCz := VC.2.2
            have VG0 := VG.1
            have VG1 := VG.2.1
            have VGz := VG.2.2.2.2
            go_wp2
            go_ret
            exact ⟨rfl, (by repeat (first | exact hB | exact Below.refl _ _ | refine Below.drew ?_ | refine old_alloc ?_ _ | refine old_trans ?_ (by assumption)))⟩
        case true =>
          go_wp2_with fail
          refine (iCutYes _ _ _ _ _ _ _ ((C.alloc _).alloc _) hcl _ _ hg hc).mono ?_
          rintro e w8 ⟨⟨ap, cp, aq, cq, rfl, M, Z⟩, hb8⟩
          clear VA0 VA1 VAz VB0 VB1 VBz VA20 VA21 VA2z VB20 VB21 VB2z
          replace VA := (by with_reducible first | exact VA.later hb8 | exact VA.drew.later hb8 | exact (VA.alloc _).later hb8 | exact ((VA.alloc _).alloc _).later hb8 | exact (((VA.alloc _).alloc _).alloc _).later hb8 : Cel1 w8 _ _)
          replace VB := (by with_reducible first | exact VB.later hb8 | exact VB.drew.later hb8 | exact (VB.alloc _).later hb8 | exact ((VB.alloc _).alloc _).later hb8 | exact (((VB.alloc _).alloc _).alloc _).later hb8 : Cel1 w8 _ _)
          replace VA2 := (by with_reducible first | exact VA2.later hb8 | exact VA2.drew.later hb8 | exact (VA2.alloc _).later hb8 | exact ((VA2.alloc _).alloc _).later hb8 | exact (((VA2.alloc _).alloc _).alloc _).later hb8 : Cel1 w8 _ _)
          replace VB2 := (by with_reducible first | exact VB2.later hb8 | exact VB2.drew.later hb8 | exact (VB2.alloc _).later hb8 | exact ((VB2.alloc _).alloc _).later hb8 | exact (((VB2.alloc _).alloc _).alloc _).later hb8 : Cel1 w8 _ _)
          replace C := (by with_reducible first | exact C.later hb8 | exact C.drew.later hb8 | exact (C.alloc _).later hb8 | exact ((C.alloc _).alloc _).later hb8 | exact (((C.alloc _).alloc _).alloc _).later hb8 : OB w8 _ _ _ _)
          replace wb1 := (by with_reducible first | exact wb1.old hb8 | exact (wb1.old ((Below.refl _ _).alloc (Nat.le_refl _) _)).old hb8 | exact ((wb1.old ((Below.refl _ _).alloc (Nat.le_refl _) _)).old ((Below.refl _ _).alloc (Nat.le_refl _) _)).old hb8 : IsCode w8 _ _ _)
          replace hB := (by with_reducible first | exact old_trans hB hb8 | exact old_trans (old_alloc hB _) hb8 | exact old_trans (old_alloc (old_alloc hB _) _) hb8 | exact old_trans (old_alloc (old_alloc (old_alloc hB _) _) _) hb8 : Below w.heap.size w w8)
          have VC := ((Cel1.made _ _ rfl (.slice ac cs.length cc) 25).alloc _).later hb8
          (try simp only [World.size_alloc] at VC)
          have VG := (Cel2.made _ _ rfl (.int .i64 gc) (.int .i64 gd) 42).later hb8
          (try simp only [World.size_alloc] at VG)
          have VA0 := VA.1
          have VA1 := VA.2.1
          have VAz := VA.2.2
          have VB0 := VB.1
          have VB1 := VB.2.1
          have VBz := VB.2.2
          have VA20 := VA2.1
          have VA21 := VA2.2.1
          have VA2z := VA2.2.2
          have VB20 := VB2.1
          have VB21 := VB2.2.1
          have VB2z := VB2.2.2
          have VC0 := VC.1
          have VC1 := VC.2.1
          have VCz := VC.2.2
          have VG0 := VG.1
          have VG1 := VG.2.1
          have VGz := VG.2.2.2.2
          (try simp only [World.size_alloc] at M)
          (try simp only [World.size_alloc] at Z)
          generalize w7.heap.size = bC at *
          go_upto_region 21 with fail
          clear VA0 VA1 VAz VB0 VB1 VBz VA20 VA21 VA2z VB20 VB21 VB2z VC0 VC1 VCz VG0 VG1 VGz
          clear VA2 VB2 wb1
          replace VA : Cel1 ((w8.setCell ⟨bA, 0, none⟩ (.slice ap (cutA at2 gc gd cs).length cp)).setCell ⟨bA + 1, 0, none⟩ (.slice aq (cutZ at2 gc gd cs).length cq)) bA _ := (VA.set _).other ⟨bA + 1, 0, none⟩ (by simp) _
          replace VB : Cel1 ((w8.setCell ⟨bA, 0, none⟩ (.slice ap (cutA at2 gc gd cs).length cp)).setCell ⟨bA + 1, 0, none⟩ (.slice aq (cutZ at2 gc gd cs).length cq)) (bA + 1) _ := (VB.other ⟨bA, 0, none⟩ (by simp) _).set _
          replace VC : Cel1 ((w8.setCell ⟨bA, 0, none⟩ (.slice ap (cutA at2 gc gd cs).length cp)).setCell ⟨bA + 1, 0, none⟩ (.slice aq (cutZ at2 gc gd cs).length cq)) bC _ := (VC.other ⟨bA, 0, none⟩ (by simp; omega) _).other ⟨bA + 1, 0, none⟩ (by simp; omega) _
          replace VG : Cel2 ((w8.setCell ⟨bA, 0, none⟩ (.slice ap (cutA at2 gc gd cs).length cp)).setCell ⟨bA + 1, 0, none⟩ (.slice aq (cutZ at2 gc gd cs).length cq)) (bC + 1) _ _ := (VG.other bA 0 (by omega) _).other (bA + 1) 0 (by omega) _
          replace C : OB ((w8.setCell ⟨bA, 0, none⟩ (.slice ap (cutA at2 gc gd cs).length cp)).setCell ⟨bA + 1, 0, none⟩ (.slice aq (cutZ at2 gc gd cs).length cq)) _ _ _ _ := (C.set1 (by omega) _).set1 (by omega) _
          replace M : OB ((w8.setCell ⟨bA, 0, none⟩ (.slice ap (cutA at2 gc gd cs).length cp)).setCell ⟨bA + 1, 0, none⟩ (.slice aq (cutZ at2 gc gd cs).length cq)) _ _ _ _ := (M.set1 (by omega) _).set1 (by omega) _
          replace Z : OB ((w8.setCell ⟨bA, 0, none⟩ (.slice ap (cutA at2 gc gd cs).length cp)).setCell ⟨bA + 1, 0, none⟩ (.slice aq (cutZ at2 gc gd cs).length cq)) _ _ _ _ := (Z.set1 (by omega) _).set1 (by omega) _
          replace hB : Below w.heap.size w ((w8.setCell ⟨bA, 0, none⟩ (.slice ap (cutA at2 gc gd cs).length cp)).setCell ⟨bA + 1, 0, none⟩ (.slice aq (cutZ at2 gc gd cs).length cq)) := (hB.setCell (p := ⟨bA, 0, none⟩) (by simp; omega) _).setCell (p := ⟨bA + 1, 0, none⟩) (by simp; omega) _
          generalize (w8.setCell ⟨bA, 0, none⟩ (.slice ap (cutA at2 gc gd cs).length cp)).setCell ⟨bA + 1, 0, none⟩ (.slice aq (cutZ at2 gc gd cs).length cq) = w8s at *
          have VA0 := VA.1
          have VA1 := VA.2.1
          have VAz := VA.2.2
          have VB0 := VB.1
          have VB1 := VB.2.1
          have VBz := VB.2.2
          have VC0 := VC.1
          have VC1 := VC.2.1
          have VCz := VC.2.2
          have VG0 := VG.1
          have VG1 := VG.2.1
          have VGz := VG.2.2.2.2
          go_wp2_with fail
          refine (sCutYes _ _ _ _ _ _ _ C hcl _ _ hg hc).mono ?_
          rintro e w9 ⟨⟨ap2, cp2, aq2, cq2, rfl, M2, Z2⟩, hb9⟩
          clear VA0 VA1 VAz VB0 VB1 VBz VC0 VC1 VCz VG0 VG1 VGz
          replace VA := (by with_reducible first | exact VA.later hb9 | exact VA.drew.later hb9 | exact (VA.alloc _).later hb9 | exact ((VA.alloc _).alloc _).later hb9 | exact (((VA.alloc _).alloc _).alloc _).later hb9 : Cel1 w9 _ _)
          replace VB := (by with_reducible first | exact VB.later hb9 | exact VB.drew.later hb9 | exact (VB.alloc _).later hb9 | exact ((VB.alloc _).alloc _).later hb9 | exact (((VB.alloc _).alloc _).alloc _).later hb9 : Cel1 w9 _ _)
          replace VC := (by with_reducible first | exact VC.later hb9 | exact VC.drew.later hb9 | exact (VC.alloc _).later hb9 | exact ((VC.alloc _).alloc _).later hb9 | exact (((VC.alloc _).alloc _).alloc _).later hb9 : Cel1 w9 _ _)
          replace VG := (by with_reducible first | exact VG.later hb9 | exact VG.drew.later hb9 | exact (VG.alloc _).later hb9 | exact ((VG.alloc _).alloc _).later hb9 | exact (((VG.alloc _).alloc _).alloc _).later hb9 : Cel2 w9 _ _ _)
          replace C := (by with_reducible first | exact C.later hb9 | exact C.drew.later hb9 | exact (C.alloc _).later hb9 | exact ((C.alloc _).alloc _).later hb9 | exact (((C.alloc _).alloc _).alloc _).later hb9 : OB w9 _ _ _ _)
          replace M := (by with_reducible first | exact M.later hb9 | exact M.drew.later hb9 | exact (M.alloc _).later hb9 | exact ((M.alloc _).alloc _).later hb9 | exact (((M.alloc _).alloc _).alloc _).later hb9 : OB w9 _ _ _ _)
          replace Z := (by with_reducible first | exact Z.later hb9 | exact Z.drew.later hb9 | exact (Z.alloc _).later hb9 | exact ((Z.alloc _).alloc _).later hb9 | exact (((Z.alloc _).alloc _).alloc _).later hb9 : OB w9 _ _ _ _)
          replace hB := (by with_reducible first | exact old_trans hB hb9 | exact old_trans (old_alloc hB _) hb9 | exact old_trans (old_alloc (old_alloc hB _) _) hb9 | exact old_trans (old_alloc (old_alloc (old_alloc hB _) _) _) hb9 : Below w.heap.size w w9)
          have VA0 := VA.1
          have VA1 := VA.2.1
          have VAz := VA.2.2
          have VB0 := VB.1
          have VB1 := VB.2.1
          have VBz := VB.2.2
          have VC0 := VC.1
          have VC1 := VC.2.1
          have VCz := VC.2.2
          have VG0 := VG.1
          have VG1 := VG.2.1
          have VGz := VG.2.2.2.2
          clear M2 Z2
          have hcl1 := (cut_len at2 gc gd cs).1
          have hcl2 := (cut_len at2 gc gd cs).2
          have hL := cut_less hc
          have n1 := (units_any (wd := wd2) (ps := cs) (by omega))
          have n2 := (units_any (wd := wd2) (ps := cutA at2 gc gd cs) (by omega))
          have n3 := (units_any (wd := wd2) (ps := cutZ at2 gc gd cs) (by omega))
          clear hcl1 hcl2
          generalize hu1 : unitsRow wd2 cs = u1 at *
          generalize hp1 : pathRow wd2 cs = p1 at *
          replace hu1 := hd hu1
          replace hp1 := hd hp1
          generalize hu2 : unitsRow wd2 (cutA at2 gc gd cs) = u2 at *
          generalize hp2 : pathRow wd2 (cutA at2 gc gd cs) = p2 at *
          replace hu2 := hd hu2
          replace hp2 := hd hp2
          generalize hu3 : unitsRow wd2 (cutZ at2 gc gd cs) = u3 at *
          generalize hp3 : pathRow wd2 (cutZ at2 gc gd cs) = p3 at *
          replace hu3 := hd hu3
          replace hp3 := hd hp3
          go_wp2_with fail
          refine (iUnitsV wd2 _ _ _ _ _ ((C.alloc _).alloc _) u1 hu1.out).mono ?_
          rintro e w10 ⟨rfl, hb10⟩
          clear VA0 VA1 VAz VB0 VB1 VBz VC0 VC1 VCz VG0 VG1 VGz
          replace VA := (by with_reducible first | exact VA.later hb10 | exact VA.drew.later hb10 | exact (VA.alloc _).later hb10 | exact ((VA.alloc _).alloc _).later hb10 | exact (((VA.alloc _).alloc _).alloc _).later hb10 : Cel1 w10 _ _)
          replace VB := (by with_reducible first | exact VB.later hb10 | exact VB.drew.later hb10 | exact (VB.alloc _).later hb10 | exact ((VB.alloc _).alloc _).later hb10 | exact (((VB.alloc _).alloc _).alloc _).later hb10 : Cel1 w10 _ _)
          replace VC := (by with_reducible first | exact VC.later hb10 | exact VC.drew.later hb10 | exact (VC.alloc _).later hb10 | exact ((VC.alloc _).alloc _).later hb10 | exact (((VC.alloc _).alloc _).alloc _).later hb10 : Cel1 w10 _ _)
          replace VG := (by with_reducible first | exact VG.later hb10 | exact VG.drew.later hb10 | exact (VG.alloc _).later hb10 | exact ((VG.alloc _).alloc _).later hb10 | exact (((VG.alloc _).alloc _).alloc _).later hb10 : Cel2 w10 _ _ _)
          replace C := (by with_reducible first | exact C.later hb10 | exact C.drew.later hb10 | exact (C.alloc _).later hb10 | exact ((C.alloc _).alloc _).later hb10 | exact (((C.alloc _).alloc _).alloc _).later hb10 : OB w10 _ _ _ _)
          replace M := (by with_reducible first | exact M.later hb10 | exact M.drew.later hb10 | exact (M.alloc _).later hb10 | exact ((M.alloc _).alloc _).later hb10 | exact (((M.alloc _).alloc _).alloc _).later hb10 : OB w10 _ _ _ _)
          replace Z := (by with_reducible first | exact Z.later hb10 | exact Z.drew.later hb10 | exact (Z.alloc _).later hb10 | exact ((Z.alloc _).alloc _).later hb10 | exact (((Z.alloc _).alloc _).alloc _).later hb10 : OB w10 _ _ _ _)
          replace hB := (by with_reducible first | exact old_trans hB hb10 | exact old_trans (old_alloc hB _) hb10 | exact old_trans (old_alloc (old_alloc hB _) _) hb10 | exact old_trans (old_alloc (old_alloc (old_alloc hB _) _) _) hb10 : Below w.heap.size w w10)
          have VA3 := ((Cel1.made _ _ rfl (.slice ap2 (cutA at2 gc gd cs).length cp2) 25).alloc _).later hb10
          (try simp only [World.size_alloc] at VA3)
          have VB3 := (Cel1.made _ _ rfl (.slice aq2 (cutZ at2 gc gd cs).length cq2) 25).later hb10
          (try simp only [World.size_alloc] at VB3)
          have VA0 := VA.1
          have VA1 := VA.2.1
          have VAz := VA.2.2
          have VB0 := VB.1
          have VB1 := VB.2.1
          have VBz := VB.2.2
          have VC0 := VC.1
          have VC1 := VC.2.1
          have VCz := VC.2.2
          have VA30 := VA3.1
          have VA31 := VA3.2.1
          have VA3z := VA3.2.2
          have VB30 := VB3.1
          have VB31 := VB3.2.1
          have VB3z := VB3.2.2
          have VG0 := VG.1
          have VG1 := VG.2.1
          have VGz := VG.2.2.2.2
          go_wp2_with fail
          refine (iUnitsV wd2 _ _ _ _ _ M u2 hu2.out).mono ?_
          rintro e w11 ⟨rfl, hb11⟩
          clear VA0 VA1 VAz VB0 VB1 VBz VC0 VC1 VCz VA30 VA31 VA3z VB30 VB31 VB3z VG0 VG1 VGz
          replace VA := (by with_reducible first | exact VA.later hb11 | exact VA.drew.later hb11 | exact (VA.alloc _).later hb11 | exact ((VA.alloc _).alloc _).later hb11 | exact (((VA.alloc _).alloc _).alloc _).later hb11 : Cel1 w11 _ _)
          replace VB := (by with_reducible first | exact VB.later hb11 | exact VB.drew.later hb11 | exact (VB.alloc _).later hb11 | exact ((VB.alloc _).alloc _).later hb11 | exact (((VB.alloc _).alloc _).alloc _).later hb11 : Cel1 w11 _ _)
          replace VC := (by with_reducible first | exact VC.later hb11 | exact VC.drew.later hb11 | exact (VC.alloc _).later hb11 | exact ((VC.alloc _).alloc _).later hb11 | exact (((VC.alloc _).alloc _).alloc _).later hb11 : Cel1 w11 _ _)
          replace VA3 := (by with_reducible first | exact VA3.later hb11 | exact VA3.drew.later hb11 | exact (VA3.alloc _).later hb11 | exact ((VA3.alloc _).alloc _).later hb11 | exact (((VA3.alloc _).alloc _).alloc _).later hb11 : Cel1 w11 _ _)
          replace VB3 := (by with_reducible first | exact VB3.later hb11 | exact VB3.drew.later hb11 | exact (VB3.alloc _).later hb11 | exact ((VB3.alloc _).alloc _).later hb11 | exact (((VB3.alloc _).alloc _).alloc _).later hb11 : Cel1 w11 _ _)
          replace VG := (by with_reducible first | exact VG.later hb11 | exact VG.drew.later hb11 | exact (VG.alloc _).later hb11 | exact ((VG.alloc _).alloc _).later hb11 | exact (((VG.alloc _).alloc _).alloc _).later hb11 : Cel2 w11 _ _ _)
          replace C := (by with_reducible first | exact C.later hb11 | exact C.drew.later hb11 | exact (C.alloc _).later hb11 | exact ((C.alloc _).alloc _).later hb11 | exact (((C.alloc _).alloc _).alloc _).later hb11 : OB w11 _ _ _ _)
          replace M := (by with_reducible first | exact M.later hb11 | exact M.drew.later hb11 | exact (M.alloc _).later hb11 | exact ((M.alloc _).alloc _).later hb11 | exact (((M.alloc _).alloc _).alloc _).later hb11 : OB w11 _ _ _ _)
          replace Z := (by with_reducible first | exact Z.later hb11 | exact Z.drew.later hb11 | exact (Z.alloc _).later hb11 | exact ((Z.alloc _).alloc _).later hb11 | exact (((Z.alloc _).alloc _).alloc _).later hb11 : OB w11 _ _ _ _)
          replace hB := (by with_reducible first | exact old_trans hB hb11 | exact old_trans (old_alloc hB _) hb11 | exact old_trans (old_alloc (old_alloc hB _) _) hb11 | exact old_trans (old_alloc (old_alloc (old_alloc hB _) _) _) hb11 : Below w.heap.size w w11)
          have VA0 := VA.1
          have VA1 := VA.2.1
          have VAz := VA.2.2
          have VB0 := VB.1
          have VB1 := VB.2.1
          have VBz := VB.2.2
          have VC0 := VC.1
          have VC1 := VC.2.1
          have VCz := VC.2.2
          have VA30 := VA3.1
          have VA31 := VA3.2.1
          have VA3z := VA3.2.2
          have VB30 := VB3.1
          have VB31 := VB3.2.1
          have VB3z := VB3.2.2
          have VG0 := VG.1
          have VG1 := VG.2.1
          have VGz := VG.2.2.2.2
          go_wp2_with fail
          refine (iUnitsV wd2 _ _ _ _ _ Z u3 hu3.out).mono ?_
          rintro e w12 ⟨rfl, hb12⟩
          clear VA0 VA1 VAz VB0 VB1 VBz VC0 VC1 VCz VA30 VA31 VA3z VB30 VB31 VB3z VG0 VG1 VGz
          replace VA := (by with_reducible first | exact VA.later hb12 | exact VA.drew.later hb12 | exact (VA.alloc _).later hb12 | exact ((VA.alloc _).alloc _).later hb12 | exact (((VA.alloc _).alloc _).alloc _).later hb12 : Cel1 w12 _ _)
          replace VB := (by with_reducible first | exact VB.later hb12 | exact VB.drew.later hb12 | exact (VB.alloc _).later hb12 | exact ((VB.alloc _).alloc _).later hb12 | exact (((VB.alloc _).alloc _).alloc _).later hb12 : Cel1 w12 _ _)
          replace VC := (by with_reducible first | exact VC.later hb12 | exact VC.drew.later hb12 | exact (VC.alloc _).later hb12 | exact ((VC.alloc _).alloc _).later hb12 | exact (((VC.alloc _).alloc _).alloc _).later hb12 : Cel1 w12 _ _)
          replace VA3 := (by with_reducible first | exact VA3.later hb12 | exact VA3.drew.later hb12 | exact (VA3.alloc _).later hb12 | exact ((VA3.alloc _).alloc _).later hb12 | exact (((VA3.alloc _).alloc _).alloc _).later hb12 : Cel1 w12 _ _)
          replace VB3 := (by with_reducible first | exact VB3.later hb12 | exact VB3.drew.later hb12 | exact (VB3.alloc _).later hb12 | exact ((VB3.alloc _).alloc _).later hb12 | exact (((VB3.alloc _).alloc _).alloc _).later hb12 : Cel1 w12 _ _)
          replace VG := (by with_reducible first | exact VG.later hb12 | exact VG.drew.later hb12 | exact (VG.alloc _).later hb12 | exact ((VG.alloc _).alloc _).later hb12 | exact (((VG.alloc _).alloc _).alloc _).later hb12 : Cel2 w12 _ _ _)
          replace C := (by with_reducible first | exact C.later hb12 | exact C.drew.later hb12 | exact (C.alloc _).later hb12 | exact ((C.alloc _).alloc _).later hb12 | exact (((C.alloc _).alloc _).alloc _).later hb12 : OB w12 _ _ _ _)
          replace M := (by with_reducible first | exact M.later hb12 | exact M.drew.later hb12 | exact (M.alloc _).later hb12 | exact ((M.alloc _).alloc _).later hb12 | exact (((M.alloc _).alloc _).alloc _).later hb12 : OB w12 _ _ _ _)
          replace Z := (by with_reducible first | exact Z.later hb12 | exact Z.drew.later hb12 | exact (Z.alloc _).later hb12 | exact ((Z.alloc _).alloc _).later hb12 | exact (((Z.alloc _).alloc _).alloc _).later hb12 : OB w12 _ _ _ _)
          replace hB := (by with_reducible first | exact old_trans hB hb12 | exact old_trans (old_alloc hB _) hb12 | exact old_trans (old_alloc (old_alloc hB _) _) hb12 | exact old_trans (old_alloc (old_alloc (old_alloc hB _) _) _) hb12 : Below w.heap.size w w12)
          have VA0 := VA.1
          have VA1 := VA.2.1
          have VAz := VA.2.2
          have VB0 := VB.1
          have VB1 := VB.2.1
          have VBz := VB.2.2
          have VC0 := VC.1
          have VC1 := VC.2.1
          have VCz := VC.2.2
          have VA30 := VA3.1
          have VA31 := VA3.2.1
          have VA3z := VA3.2.2
          have VB30 := VB3.1
          have VB31 := VB3.2.1
          have VB3z := VB3.2.2
          have VG0 := VG.1
          have VG1 := VG.2.1
          have VGz := VG.2.2.2.2
          have PA := hd (fun w' (hS : w'.cell? ⟨bA, 0, none⟩ = some (.slice ap (cutA at2 gc gd cs).length cp) ∧ w'.cell? ⟨bA + 1, 0, none⟩ = some (.slice aq (cutZ at2 gc gd cs).length cq) ∧ w'.cell? ⟨bC, 0, none⟩ = some (.slice ac cs.length cc)) (hb : Below w12.heap.size w12 w') => (iPathV wd2 _ _ _ _ _ (M.later hb) p2 hp2.out).mono (fun e w'' (k : _ ∧ _) => (⟨k, three_oldH hS k.2⟩ : (_ ∧ _) ∧ (w''.cell? ⟨bA, 0, none⟩ = some (.slice ap (cutA at2 gc gd cs).length cp) ∧ w''.cell? ⟨bA + 1, 0, none⟩ = some (.slice aq (cutZ at2 gc gd cs).length cq) ∧ w''.cell? ⟨bC, 0, none⟩ = some (.slice ac cs.length cc)))))
          have PZ := hd (fun w' (hS : w'.cell? ⟨bA, 0, none⟩ = some (.slice ap (cutA at2 gc gd cs).length cp) ∧ w'.cell? ⟨bA + 1, 0, none⟩ = some (.slice aq (cutZ at2 gc gd cs).length cq) ∧ w'.cell? ⟨bC, 0, none⟩ = some (.slice ac cs.length cc)) (hb : Below w12.heap.size w12 w') => (iPathV wd2 _ _ _ _ _ (Z.later hb) p3 hp3.out).mono (fun e w'' (k : _ ∧ _) => (⟨k, three_oldH hS k.2⟩ : (_ ∧ _) ∧ (w''.cell? ⟨bA, 0, none⟩ = some (.slice ap (cutA at2 gc gd cs).length cp) ∧ w''.cell? ⟨bA + 1, 0, none⟩ = some (.slice aq (cutZ at2 gc gd cs).length cq) ∧ w''.cell? ⟨bC, 0, none⟩ = some (.slice ac cs.length cc)))))
          have PC := hd (fun w' (hS : w'.cell? ⟨bA, 0, none⟩ = some (.slice ap (cutA at2 gc gd cs).length cp) ∧ w'.cell? ⟨bA + 1, 0, none⟩ = some (.slice aq (cutZ at2 gc gd cs).length cq) ∧ w'.cell? ⟨bC, 0, none⟩ = some (.slice ac cs.length cc)) (hb : Below w12.heap.size w12 w') => (iPathV wd2 _ _ _ _ _ (C.later hb) p1 hp1.out).mono (fun e w'' (k : _ ∧ _) => (⟨k, three_oldH hS k.2⟩ : (_ ∧ _) ∧ (w''.cell? ⟨bA, 0, none⟩ = some (.slice ap (cutA at2 gc gd cs).length cp) ∧ w''.cell? ⟨bA + 1, 0, none⟩ = some (.slice aq (cutZ at2 gc gd cs).length cq) ∧ w''.cell? ⟨bC, 0, none⟩ = some (.slice ac cs.length cc)))))
          have g1 : IntKind.i64.wrap (u2 + u3) = u2 + u3 := by rw [IntKind.wrap_i64]; omega
          have g2 : IntKind.i64.wrap (u2 + u3 + 1) = u2 + u3 + 1 := by rw [IntKind.wrap_i64]; omega
          have g3 : IntKind.i64.wrap (p2 + 1) = p2 + 1 := by rw [IntKind.wrap_i64]; omega
          have d2 : decide (p1 < p2 + 1) = false := decide_eq_false (by omega)
          have d3 : decide (p1 < p3) = false := decide_eq_false (by omega)
          cases hM : decide (u1 < 1000000000)
          case false =>
            as_aux_lemma =>
              clear hL n1 n2 n3
              have hk : w12.cell? ⟨bA, 0, none⟩ = some (.slice ap (cutA at2 gc gd cs).length cp) ∧ w12.cell? ⟨bA + 1, 0, none⟩ = some (.slice aq (cutZ at2 gc gd cs).length cq) ∧ w12.cell? ⟨bC, 0, none⟩ = some (.slice ac cs.length cc) := ⟨VA.1, VB.1, VC.1⟩
              go_upto_region 28 with fail
              clear VA0 VA1 VAz VB0 VB1 VBz VC0 VC1 VCz VA30 VA31 VA3z VB30 VB31 VB3z VG0 VG1 VGz
              clear VA VB VC VA3 VB3 VG C M Z
              have hB0 : Below w12.heap.size w12 w12.drew := (Below.refl _ _).drew
              refine wp_region_held_drew (S := fun w' => w'.cell? ⟨bA, 0, none⟩ = some (.slice ap (cutA at2 gc gd cs).length cp) ∧ w'.cell? ⟨bA + 1, 0, none⟩ = some (.slice aq (cutZ at2 gc gd cs).length cq) ∧ w'.cell? ⟨bC, 0, none⟩ = some (.slice ac cs.length cc)) rfl hk ?_
              intro hS
              refine wpAnyH_take (i := 0) (v := ?_) rfl (by kernel_rfl) (by kernel_rfl) (by kernel_rfl) (fun _ _ _ h => h) (Or.inl ⟨by kernel_rfl, ?_⟩) hS ?_
              rotate_left
              · intro w' hS'; obtain ⟨s0, s1, s2⟩ := hS'; go_simp <;> with_reducible rfl
              (try simp only [List.getElem_toArray, List.getElem_cons_zero, Act.put, List.setIfInBounds_toArray, List.set_cons_zero, List.set_cons_succ])
              refine wpAnyH_take (i := 1) (v := ?_) rfl (by kernel_rfl) (by kernel_rfl) (by kernel_rfl) (fun _ _ _ h => h) (Or.inl ⟨by kernel_rfl, ?_⟩) hS ?_
              rotate_left
              · intro w' hS'; obtain ⟨s0, s1, s2⟩ := hS'; go_simp <;> with_reducible rfl
              (try simp only [List.getElem_toArray, List.getElem_cons_succ, List.getElem_cons_zero, Act.put, List.setIfInBounds_toArray, List.set_cons_zero, List.set_cons_succ])
              refine wpAnyH_take (i := 2) (v := ?_) rfl (by kernel_rfl) (by kernel_rfl) (by kernel_rfl) (fun _ _ _ h => h) (Or.inl ⟨by kernel_rfl, ?_⟩) hS ?_
              rotate_left
              · intro w' hS'; obtain ⟨s0, s1, s2⟩ := hS'; go_simp <;> with_reducible rfl
              (try simp only [List.getElem_toArray, List.getElem_cons_succ, List.getElem_cons_zero, Act.put, List.setIfInBounds_toArray, List.set_cons_zero, List.set_cons_succ])
              refine wpAnyH_take (i := 3) (v := undef) rfl (by kernel_rfl) (by kernel_rfl) (by kernel_rfl) (fun _ _ _ h => h) (Or.inr ⟨by kernel_rfl, rfl⟩) hS ?_
              (try simp only [List.getElem_toArray, List.getElem_cons_succ, List.getElem_cons_zero, Act.put, List.setIfInBounds_toArray, List.set_cons_zero, List.set_cons_succ])
              refine wpAnyH_take (i := 4) (v := undef) rfl (by kernel_rfl) (by kernel_rfl) (by kernel_rfl) (fun _ _ _ h => h) (Or.inr ⟨by kernel_rfl, rfl⟩) hS ?_
              (try simp only [List.getElem_toArray, List.getElem_cons_succ, List.getElem_cons_zero, Act.put, List.setIfInBounds_toArray, List.set_cons_zero, List.set_cons_succ])
              refine wpAnyH_take (i := 5) (v := undef) rfl (by kernel_rfl) (by kernel_rfl) (by kernel_rfl) (fun _ _ _ h => h) (Or.inr ⟨by kernel_rfl, rfl⟩) hS ?_
              (try simp only [List.getElem_toArray, List.getElem_cons_succ, List.getElem_cons_zero, Act.put, List.setIfInBounds_toArray, List.set_cons_zero, List.set_cons_succ])
              refine wpAnyH_take (i := 6) (v := undef) rfl (by kernel_rfl) (by kernel_rfl) (by kernel_rfl) (fun _ _ _ h => h) (Or.inr ⟨by kernel_rfl, rfl⟩) hS ?_
              (try simp only [List.getElem_toArray, List.getElem_cons_succ, List.getElem_cons_zero, Act.put, List.setIfInBounds_toArray, List.set_cons_zero, List.set_cons_succ])
              refine wpAnyH_take (i := 7) (v := undef) rfl (by kernel_rfl) (by kernel_rfl) (by kernel_rfl) (fun _ _ _ h => h) (Or.inr ⟨by kernel_rfl, rfl⟩) hS ?_
              (try simp only [List.getElem_toArray, List.getElem_cons_succ, List.getElem_cons_zero, Act.put, List.setIfInBounds_toArray, List.set_cons_zero, List.set_cons_succ])
              refine wpAnyH_take (i := 8) (v := undef) rfl (by kernel_rfl) (by kernel_rfl) (by kernel_rfl) (fun _ _ _ h => h) (Or.inr ⟨by kernel_rfl, rfl⟩) hS ?_
              (try simp only [List.getElem_toArray, List.getElem_cons_succ, List.getElem_cons_zero, Act.put, List.setIfInBounds_toArray, List.set_cons_zero, List.set_cons_succ])
              refine wpAnyH_take (i := 9) (v := ?_) rfl (by kernel_rfl) (by kernel_rfl) (by kernel_rfl) (fun _ _ _ h => h) (Or.inl ⟨by kernel_rfl, ?_⟩) hS ?_
              rotate_left
              · intro w' hS'; obtain ⟨s0, s1, s2⟩ := hS'; go_simp <;> with_reducible rfl
              (try simp only [List.getElem_toArray, List.getElem_cons_succ, List.getElem_cons_zero, Act.put, List.setIfInBounds_toArray, List.set_cons_zero, List.set_cons_succ])
              refine wpAnyH_take (i := 10) (v := ?_) rfl (by kernel_rfl) (by kernel_rfl) (by kernel_rfl) (fun _ _ _ h => h) (Or.inl ⟨by kernel_rfl, ?_⟩) hS ?_
              rotate_left
              · intro w' hS'; obtain ⟨s0, s1, s2⟩ := hS'; go_simp <;> with_reducible rfl
              (try simp only [List.getElem_toArray, List.getElem_cons_succ, List.getElem_cons_zero, Act.put, List.setIfInBounds_toArray, List.set_cons_zero, List.set_cons_succ])
              refine wpAnyH_take (i := 11) (v := ?_) rfl (by kernel_rfl) (by kernel_rfl) (by kernel_rfl) (fun _ _ _ h => h) (Or.inl ⟨by kernel_rfl, ?_⟩) hS ?_
              rotate_left
              · intro w' hS'; obtain ⟨s0, s1, s2⟩ := hS'; go_simp <;> with_reducible rfl
              (try simp only [List.getElem_toArray, List.getElem_cons_succ, List.getElem_cons_zero, Act.put, List.setIfInBounds_toArray, List.set_cons_zero, List.set_cons_succ])
              refine wpAnyH_take (i := 12) (v := ?_) rfl (by kernel_rfl) (by kernel_rfl) (by kernel_rfl) (fun _ _ _ h => h) (Or.inl ⟨by kernel_rfl, ?_⟩) hS ?_
              rotate_left
              · intro w' hS'; obtain ⟨s0, s1, s2⟩ := hS'; go_simp <;> with_reducible rfl
              (try simp only [List.getElem_toArray, List.getElem_cons_succ, List.getElem_cons_zero, Act.put, List.setIfInBounds_toArray, List.set_cons_zero, List.set_cons_succ])
              refine wpAnyH_take (i := 15) (v := ?_) rfl (by kernel_rfl) (by kernel_rfl) (by kernel_rfl) (fun _ _ _ h => h) (Or.inl ⟨by kernel_rfl, ?_⟩) hS ?_
              rotate_left
              · intro w' hS'; obtain ⟨s0, s1, s2⟩ := hS'; go_simp <;> with_reducible rfl
              (try simp only [List.getElem_toArray, List.getElem_cons_succ, List.getElem_cons_zero, Act.put, List.setIfInBounds_toArray, List.set_cons_zero, List.set_cons_succ])
              refine wpAnyH_take (i := 16) (v := ?_) rfl (by kernel_rfl) (by kernel_rfl) (by kernel_rfl) (fun _ _ _ h => h) (Or.inl ⟨by kernel_rfl, ?_⟩) hS ?_
              rotate_left
              · intro w' hS'; obtain ⟨s0, s1, s2⟩ := hS'; go_simp <;> with_reducible rfl
              (try simp only [List.getElem_toArray, List.getElem_cons_succ, List.getElem_cons_zero, Act.put, List.setIfInBounds_toArray, List.set_cons_zero, List.set_cons_succ])
              refine wpAnyH_ready (rs := [13]) (by kernel_rfl) (by simp) ?_
              refine AllReadyH.cons rfl (fun K hK => ?_) AllReadyH.nil
              go_simp
              refine (PA.out _ hS hB0).mono ?_
              rintro e wr1 ⟨⟨rfl, hr1⟩, hc1⟩
              refine hK.out _ _ hc1 ?_
              intro hS1
              clear hK K
              (try simp only [List.getElem_toArray, List.getElem_cons_succ, List.getElem_cons_zero, Act.put, List.setIfInBounds_toArray, List.set_cons_zero, List.set_cons_succ])
              have hB1 := old_trans hB0 hr1
              refine wpAnyH_take (i := 14) (v := ?_) rfl (by kernel_rfl) (by kernel_rfl) (by kernel_rfl) (fun _ _ _ h => h) (Or.inl ⟨by kernel_rfl, ?_⟩) hS1 ?_
              rotate_left
              · intro w' hS'; obtain ⟨s0, s1, s2⟩ := hS'; go_simp <;> with_reducible rfl
              (try simp only [List.getElem_toArray, List.getElem_cons_succ, List.getElem_cons_zero, Act.put, List.setIfInBounds_toArray, List.set_cons_zero, List.set_cons_succ])
              refine wpAnyH_ready (rs := [17]) (by kernel_rfl) (by simp) ?_
              refine AllReadyH.cons rfl (fun K hK => ?_) AllReadyH.nil
              go_simp
              refine (PC.out _ hS1 hB1).mono ?_
              rintro e wr2 ⟨⟨rfl, hr2⟩, hc2⟩
              refine hK.out _ _ hc2 ?_
              intro hS2
              clear hK K
              (try simp only [List.getElem_toArray, List.getElem_cons_succ, List.getElem_cons_zero, Act.put, List.setIfInBounds_toArray, List.set_cons_zero, List.set_cons_succ])
              have hB2 := old_trans hB1 hr2
              refine wpAnyH_take (i := 18) (v := ?_) rfl (by kernel_rfl) (by kernel_rfl) (by kernel_rfl) (fun _ _ _ h => h) (Or.inl ⟨by kernel_rfl, ?_⟩) hS2 ?_
              rotate_left
              · intro w' hS'; obtain ⟨s0, s1, s2⟩ := hS'; go_simp <;> with_reducible rfl
              (try simp only [List.getElem_toArray, List.getElem_cons_succ, List.getElem_cons_zero, Act.put, List.setIfInBounds_toArray, List.set_cons_zero, List.set_cons_succ])
              refine wpAnyH_take (i := 19) (v := ?_) rfl (by kernel_rfl) (by kernel_rfl) (by kernel_rfl) (fun _ _ _ h => h) (Or.inl ⟨by kernel_rfl, ?_⟩) hS2 ?_
              rotate_left
              · intro w' hS'; obtain ⟨s0, s1, s2⟩ := hS'; go_simp <;> with_reducible rfl
              (try simp only [List.getElem_toArray, List.getElem_cons_succ, List.getElem_cons_zero, Act.put, List.setIfInBounds_toArray, List.set_cons_zero, List.set_cons_succ])
              refine wpAnyH_take (i := 20) (v := ?_) rfl (by kernel_rfl) (by kernel_rfl) (by kernel_rfl) (fun _ _ _ h => h) (Or.inl ⟨by kernel_rfl, ?_⟩) hS2 ?_
              rotate_left
              · intro w' hS'; obtain ⟨s0, s1, s2⟩ := hS'; go_simp <;> with_reducible rfl
              (try simp only [List.getElem_toArray, List.getElem_cons_succ, List.getElem_cons_zero, Act.put, List.setIfInBounds_toArray, List.set_cons_zero, List.set_cons_succ])
              refine wpAnyH_take (i := 21) (v := ?_) rfl (by kernel_rfl) (by kernel_rfl) (by kernel_rfl) (fun _ _ _ h => h) (Or.inl ⟨by kernel_rfl, ?_⟩) hS2 ?_
              rotate_left
              · intro w' hS'; obtain ⟨s0, s1, s2⟩ := hS'; go_simp <;> with_reducible rfl
              (try simp only [List.getElem_toArray, List.getElem_cons_succ, List.getElem_cons_zero, Act.put, List.setIfInBounds_toArray, List.set_cons_zero, List.set_cons_succ])
              refine wpAnyH_take (i := 22) (v := ?_) rfl (by kernel_rfl) (by kernel_rfl) (by kernel_rfl) (fun _ _ _ h => h) (Or.inl ⟨by kernel_rfl, ?_⟩) hS2 ?_
              rotate_left
              · intro w' hS'; obtain ⟨s0, s1, s2⟩ := hS'; go_simp <;> with_reducible rfl
              (try simp only [List.getElem_toArray, List.getElem_cons_succ, List.getElem_cons_zero, Act.put, List.setIfInBounds_toArray, List.set_cons_zero, List.set_cons_succ])
              refine wpAnyH_take (i := 24) (v := ?_) rfl (by kernel_rfl) (by kernel_rfl) (by kernel_rfl) (fun _ _ _ h => h) (Or.inl ⟨by kernel_rfl, ?_⟩) hS2 ?_
              rotate_left
              · intro w' hS'; obtain ⟨s0, s1, s2⟩ := hS'; go_simp <;> with_reducible rfl
              (try simp only [List.getElem_toArray, List.getElem_cons_succ, List.getElem_cons_zero, Act.put, List.setIfInBounds_toArray, List.set_cons_zero, List.set_cons_succ])
              refine wpAnyH_take (i := 25) (v := ?_) rfl (by kernel_rfl) (by kernel_rfl) (by kernel_rfl) (fun _ _ _ h => h) (Or.inl ⟨by kernel_rfl, ?_⟩) hS2 ?_
              rotate_left
              · intro w' hS'; obtain ⟨s0, s1, s2⟩ := hS'; go_simp <;> with_reducible rfl
              (try simp only [List.getElem_toArray, List.getElem_cons_succ, List.getElem_cons_zero, Act.put, List.setIfInBounds_toArray, List.set_cons_zero, List.set_cons_succ])
              refine wpAnyH_ready (rs := [23]) (by kernel_rfl) (by simp) ?_
              refine AllReadyH.cons rfl (fun K hK => ?_) AllReadyH.nil
              go_simp
              refine (PZ.out _ hS2 hB2).mono ?_
              rintro e wr3 ⟨⟨rfl, hr3⟩, hc3⟩
              refine hK.out _ _ hc3 ?_
              intro hS3
              clear hK K
              (try simp only [List.getElem_toArray, List.getElem_cons_succ, List.getElem_cons_zero, Act.put, List.setIfInBounds_toArray, List.set_cons_zero, List.set_cons_succ])
              have hB3 := old_trans hB2 hr3
              refine wpAnyH_ready (rs := [26]) (by kernel_rfl) (by simp) ?_
              refine AllReadyH.cons rfl (fun K hK => ?_) AllReadyH.nil
              go_simp
              refine (PC.out _ hS3 hB3).mono ?_
              rintro e wr4 ⟨⟨rfl, hr4⟩, hc4⟩
              refine hK.out _ _ hc4 ?_
              intro hS4
              clear hK K
              (try simp only [List.getElem_toArray, List.getElem_cons_succ, List.getElem_cons_zero, Act.put, List.setIfInBounds_toArray, List.set_cons_zero, List.set_cons_succ])
              have hB4 := old_trans hB3 hr4
              refine wpAnyH_take (i := 27) (v := ?_) rfl (by kernel_rfl) (by kernel_rfl) (by kernel_rfl) (fun _ _ _ h => h) (Or.inl ⟨by kernel_rfl, ?_⟩) hS4 ?_
              rotate_left
              · intro w' hS'; obtain ⟨s0, s1, s2⟩ := hS'; go_simp <;> with_reducible rfl
              (try simp only [List.getElem_toArray, List.getElem_cons_succ, List.getElem_cons_zero, Act.put, List.setIfInBounds_toArray, List.set_cons_zero, List.set_cons_succ])
              refine wpAnyH_take (i := 28) (v := ?_) rfl (by kernel_rfl) (by kernel_rfl) (by kernel_rfl) (fun _ _ _ h => h) (Or.inl ⟨by kernel_rfl, ?_⟩) hS4 ?_
              rotate_left
              · intro w' hS'; obtain ⟨s0, s1, s2⟩ := hS'; go_simp <;> with_reducible rfl
              (try simp only [List.getElem_toArray, List.getElem_cons_succ, List.getElem_cons_zero, Act.put, List.setIfInBounds_toArray, List.set_cons_zero, List.set_cons_succ])
              refine wpAnyH_done (by kernel_rfl) ?_ _
              go_wp2
              go_ret
              exact ⟨by kernel_rfl, old_trans hB hB4⟩
          case true =>
            as_aux_lemma =>
              have d1 : decide (u1 < u2 + u3 + 1) = false := by have := of_decide_eq_true hM; have := hL.1 this; exact decide_eq_false (by omega)
              clear hL n1 n2 n3
              have hk : w12.cell? ⟨bA, 0, none⟩ = some (.slice ap (cutA at2 gc gd cs).length cp) ∧ w12.cell? ⟨bA + 1, 0, none⟩ = some (.slice aq (cutZ at2 gc gd cs).length cq) ∧ w12.cell? ⟨bC, 0, none⟩ = some (.slice ac cs.length cc) := ⟨VA.1, VB.1, VC.1⟩
              go_upto_region 28 with fail
              clear VA0 VA1 VAz VB0 VB1 VBz VC0 VC1 VCz VA30 VA31 VA3z VB30 VB31 VB3z VG0 VG1 VGz
              clear VA VB VC VA3 VB3 VG C M Z
              have hB0 : Below w12.heap.size w12 w12.drew := (Below.refl _ _).drew
              refine wp_region_held_drew (S := fun w' => w'.cell? ⟨bA, 0, none⟩ = some (.slice ap (cutA at2 gc gd cs).length cp) ∧ w'.cell? ⟨bA + 1, 0, none⟩ = some (.slice aq (cutZ at2 gc gd cs).length cq) ∧ w'.cell? ⟨bC, 0, none⟩ = some (.slice ac cs.length cc)) rfl hk ?_
              intro hS
              refine wpAnyH_take (i := 0) (v := ?_) rfl (by kernel_rfl) (by kernel_rfl) (by kernel_rfl) (fun _ _ _ h => h) (Or.inl ⟨by kernel_rfl, ?_⟩) hS ?_
              rotate_left
              · intro w' hS'; obtain ⟨s0, s1, s2⟩ := hS'; go_simp <;> with_reducible rfl
              (try simp only [List.getElem_toArray, List.getElem_cons_zero, Act.put, List.setIfInBounds_toArray, List.set_cons_zero, List.set_cons_succ])
              refine wpAnyH_take (i := 1) (v := ?_) rfl (by kernel_rfl) (by kernel_rfl) (by kernel_rfl) (fun _ _ _ h => h) (Or.inl ⟨by kernel_rfl, ?_⟩) hS ?_
              rotate_left
              · intro w' hS'; obtain ⟨s0, s1, s2⟩ := hS'; go_simp <;> with_reducible rfl
              (try simp only [List.getElem_toArray, List.getElem_cons_succ, List.getElem_cons_zero, Act.put, List.setIfInBounds_toArray, List.set_cons_zero, List.set_cons_succ])
              refine wpAnyH_take (i := 2) (v := ?_) rfl (by kernel_rfl) (by kernel_rfl) (by kernel_rfl) (fun _ _ _ h => h) (Or.inl ⟨by kernel_rfl, ?_⟩) hS ?_
              rotate_left
              · intro w' hS'; obtain ⟨s0, s1, s2⟩ := hS'; go_simp <;> with_reducible rfl
              (try simp only [List.getElem_toArray, List.getElem_cons_succ, List.getElem_cons_zero, Act.put, List.setIfInBounds_toArray, List.set_cons_zero, List.set_cons_succ])
              refine wpAnyH_take (i := 3) (v := ?_) rfl (by kernel_rfl) (by kernel_rfl) (by kernel_rfl) (fun _ _ _ h => h) (Or.inl ⟨by kernel_rfl, ?_⟩) hS ?_
              rotate_left
              · intro w' hS'; obtain ⟨s0, s1, s2⟩ := hS'; go_simp <;> with_reducible rfl
              (try simp only [List.getElem_toArray, List.getElem_cons_succ, List.getElem_cons_zero, Act.put, List.setIfInBounds_toArray, List.set_cons_zero, List.set_cons_succ])
              refine wpAnyH_take (i := 4) (v := ?_) rfl (by kernel_rfl) (by kernel_rfl) (by kernel_rfl) (fun _ _ _ h => h) (Or.inl ⟨by kernel_rfl, ?_⟩) hS ?_
              rotate_left
              · intro w' hS'; obtain ⟨s0, s1, s2⟩ := hS'; go_simp <;> with_reducible rfl
              (try simp only [List.getElem_toArray, List.getElem_cons_succ, List.getElem_cons_zero, Act.put, List.setIfInBounds_toArray, List.set_cons_zero, List.set_cons_succ])
              refine wpAnyH_take (i := 5) (v := ?_) rfl (by kernel_rfl) (by kernel_rfl) (by kernel_rfl) (fun _ _ _ h => h) (Or.inl ⟨by kernel_rfl, ?_⟩) hS ?_
              rotate_left
              · intro w' hS'; obtain ⟨s0, s1, s2⟩ := hS'; go_simp <;> with_reducible rfl
              (try simp only [List.getElem_toArray, List.getElem_cons_succ, List.getElem_cons_zero, Act.put, List.setIfInBounds_toArray, List.set_cons_zero, List.set_cons_succ])
              refine wpAnyH_take (i := 6) (v := ?_) rfl (by kernel_rfl) (by kernel_rfl) (by kernel_rfl) (fun _ _ _ h => h) (Or.inl ⟨by kernel_rfl, ?_⟩) hS ?_
              rotate_left
              · intro w' hS'; obtain ⟨s0, s1, s2⟩ := hS'; go_simp <;> with_reducible rfl
              (try simp only [List.getElem_toArray, List.getElem_cons_succ, List.getElem_cons_zero, Act.put, List.setIfInBounds_toArray, List.set_cons_zero, List.set_cons_succ])
              refine wpAnyH_take (i := 7) (v := ?_) rfl (by kernel_rfl) (by kernel_rfl) (by kernel_rfl) (fun _ _ _ h => h) (Or.inl ⟨by kernel_rfl, ?_⟩) hS ?_
              rotate_left
              · intro w' hS'; obtain ⟨s0, s1, s2⟩ := hS'; go_simp <;> with_reducible rfl
              (try simp only [List.getElem_toArray, List.getElem_cons_succ, List.getElem_cons_zero, Act.put, List.setIfInBounds_toArray, List.set_cons_zero, List.set_cons_succ])
              refine wpAnyH_take (i := 8) (v := ?_) rfl (by kernel_rfl) (by kernel_rfl) (by kernel_rfl) (fun _ _ _ h => h) (Or.inl ⟨by kernel_rfl, ?_⟩) hS ?_
              rotate_left
              · intro w' hS'; obtain ⟨s0, s1, s2⟩ := hS'; go_simp <;> with_reducible rfl
              (try simp only [List.getElem_toArray, List.getElem_cons_succ, List.getElem_cons_zero, Act.put, List.setIfInBounds_toArray, List.set_cons_zero, List.set_cons_succ])
              refine wpAnyH_take (i := 9) (v := ?_) rfl (by kernel_rfl) (by kernel_rfl) (by kernel_rfl) (fun _ _ _ h => h) (Or.inl ⟨by kernel_rfl, ?_⟩) hS ?_
              rotate_left
              · intro w' hS'; obtain ⟨s0, s1, s2⟩ := hS'; go_simp <;> with_reducible rfl
              (try simp only [List.getElem_toArray, List.getElem_cons_succ, List.getElem_cons_zero, Act.put, List.setIfInBounds_toArray, List.set_cons_zero, List.set_cons_succ])
              refine wpAnyH_take (i := 10) (v := ?_) rfl (by kernel_rfl) (by kernel_rfl) (by kernel_rfl) (fun _ _ _ h => h) (Or.inl ⟨by kernel_rfl, ?_⟩) hS ?_
              rotate_left
              · intro w' hS'; obtain ⟨s0, s1, s2⟩ := hS'; go_simp <;> with_reducible rfl
              (try simp only [List.getElem_toArray, List.getElem_cons_succ, List.getElem_cons_zero, Act.put, List.setIfInBounds_toArray, List.set_cons_zero, List.set_cons_succ])
              refine wpAnyH_take (i := 11) (v := ?_) rfl (by kernel_rfl) (by kernel_rfl) (by kernel_rfl) (fun _ _ _ h => h) (Or.inl ⟨by kernel_rfl, ?_⟩) hS ?_
              rotate_left
              · intro w' hS'; obtain ⟨s0, s1, s2⟩ := hS'; go_simp <;> with_reducible rfl
              (try simp only [List.getElem_toArray, List.getElem_cons_succ, List.getElem_cons_zero, Act.put, List.setIfInBounds_toArray, List.set_cons_zero, List.set_cons_succ])
              refine wpAnyH_take (i := 12) (v := ?_) rfl (by kernel_rfl) (by kernel_rfl) (by kernel_rfl) (fun _ _ _ h => h) (Or.inl ⟨by kernel_rfl, ?_⟩) hS ?_
              rotate_left
              · intro w' hS'; obtain ⟨s0, s1, s2⟩ := hS'; go_simp <;> with_reducible rfl
              (try simp only [List.getElem_toArray, List.getElem_cons_succ, List.getElem_cons_zero, Act.put, List.setIfInBounds_toArray, List.set_cons_zero, List.set_cons_succ])
              refine wpAnyH_take (i := 15) (v := ?_) rfl (by kernel_rfl) (by kernel_rfl) (by kernel_rfl) (fun _ _ _ h => h) (Or.inl ⟨by kernel_rfl, ?_⟩) hS ?_
              rotate_left
              · intro w' hS'; obtain ⟨s0, s1, s2⟩ := hS'; go_simp <;> with_reducible rfl
              (try simp only [List.getElem_toArray, List.getElem_cons_succ, List.getElem_cons_zero, Act.put, List.setIfInBounds_toArray, List.set_cons_zero, List.set_cons_succ])
              refine wpAnyH_take (i := 16) (v := ?_) rfl (by kernel_rfl) (by kernel_rfl) (by kernel_rfl) (fun _ _ _ h => h) (Or.inl ⟨by kernel_rfl, ?_⟩) hS ?_
              rotate_left
              · intro w' hS'; obtain ⟨s0, s1, s2⟩ := hS'; go_simp <;> with_reducible rfl
              (try simp only [List.getElem_toArray, List.getElem_cons_succ, List.getElem_cons_zero, Act.put, List.setIfInBounds_toArray, List.set_cons_zero, List.set_cons_succ])
              refine wpAnyH_ready (rs := [13]) (by kernel_rfl) (by simp) ?_
              refine AllReadyH.cons rfl (fun K hK => ?_) AllReadyH.nil
              go_simp
              refine (PA.out _ hS hB0).mono ?_
              rintro e wr1 ⟨⟨rfl, hr1⟩, hc1⟩
              refine hK.out _ _ hc1 ?_
              intro hS1
              clear hK K
              (try simp only [List.getElem_toArray, List.getElem_cons_succ, List.getElem_cons_zero, Act.put, List.setIfInBounds_toArray, List.set_cons_zero, List.set_cons_succ])
              have hB1 := old_trans hB0 hr1
              refine wpAnyH_take (i := 14) (v := ?_) rfl (by kernel_rfl) (by kernel_rfl) (by kernel_rfl) (fun _ _ _ h => h) (Or.inl ⟨by kernel_rfl, ?_⟩) hS1 ?_
              rotate_left
              · intro w' hS'; obtain ⟨s0, s1, s2⟩ := hS'; go_simp <;> with_reducible rfl
              (try simp only [List.getElem_toArray, List.getElem_cons_succ, List.getElem_cons_zero, Act.put, List.setIfInBounds_toArray, List.set_cons_zero, List.set_cons_succ])
              refine wpAnyH_ready (rs := [17]) (by kernel_rfl) (by simp) ?_
              refine AllReadyH.cons rfl (fun K hK => ?_) AllReadyH.nil
              go_simp
              refine (PC.out _ hS1 hB1).mono ?_
              rintro e wr2 ⟨⟨rfl, hr2⟩, hc2⟩
              refine hK.out _ _ hc2 ?_
              intro hS2
              clear hK K
              (try simp only [List.getElem_toArray, List.getElem_cons_succ, List.getElem_cons_zero, Act.put, List.setIfInBounds_toArray, List.set_cons_zero, List.set_cons_succ])
              have hB2 := old_trans hB1 hr2
              refine wpAnyH_take (i := 18) (v := ?_) rfl (by kernel_rfl) (by kernel_rfl) (by kernel_rfl) (fun _ _ _ h => h) (Or.inl ⟨by kernel_rfl, ?_⟩) hS2 ?_
              rotate_left
              · intro w' hS'; obtain ⟨s0, s1, s2⟩ := hS'; go_simp <;> with_reducible rfl
              (try simp only [List.getElem_toArray, List.getElem_cons_succ, List.getElem_cons_zero, Act.put, List.setIfInBounds_toArray, List.set_cons_zero, List.set_cons_succ])
              refine wpAnyH_take (i := 19) (v := ?_) rfl (by kernel_rfl) (by kernel_rfl) (by kernel_rfl) (fun _ _ _ h => h) (Or.inl ⟨by kernel_rfl, ?_⟩) hS2 ?_
              rotate_left
              · intro w' hS'; obtain ⟨s0, s1, s2⟩ := hS'; go_simp <;> with_reducible rfl
              (try simp only [List.getElem_toArray, List.getElem_cons_succ, List.getElem_cons_zero, Act.put, List.setIfInBounds_toArray, List.set_cons_zero, List.set_cons_succ])
              refine wpAnyH_take (i := 20) (v := ?_) rfl (by kernel_rfl) (by kernel_rfl) (by kernel_rfl) (fun _ _ _ h => h) (Or.inl ⟨by kernel_rfl, ?_⟩) hS2 ?_
              rotate_left
              · intro w' hS'; obtain ⟨s0, s1, s2⟩ := hS'; go_simp <;> with_reducible rfl
              (try simp only [List.getElem_toArray, List.getElem_cons_succ, List.getElem_cons_zero, Act.put, List.setIfInBounds_toArray, List.set_cons_zero, List.set_cons_succ])
              refine wpAnyH_take (i := 21) (v := ?_) rfl (by kernel_rfl) (by kernel_rfl) (by kernel_rfl) (fun _ _ _ h => h) (Or.inl ⟨by kernel_rfl, ?_⟩) hS2 ?_
              rotate_left
              · intro w' hS'; obtain ⟨s0, s1, s2⟩ := hS'; go_simp <;> with_reducible rfl
              (try simp only [List.getElem_toArray, List.getElem_cons_succ, List.getElem_cons_zero, Act.put, List.setIfInBounds_toArray, List.set_cons_zero, List.set_cons_succ])
              refine wpAnyH_take (i := 22) (v := ?_) rfl (by kernel_rfl) (by kernel_rfl) (by kernel_rfl) (fun _ _ _ h => h) (Or.inl ⟨by kernel_rfl, ?_⟩) hS2 ?_
              rotate_left
              · intro w' hS'; obtain ⟨s0, s1, s2⟩ := hS'; go_simp <;> with_reducible rfl
              (try simp only [List.getElem_toArray, List.getElem_cons_succ, List.getElem_cons_zero, Act.put, List.setIfInBounds_toArray, List.set_cons_zero, List.set_cons_succ])
              refine wpAnyH_take (i := 24) (v := ?_) rfl (by kernel_rfl) (by kernel_rfl) (by kernel_rfl) (fun _ _ _ h => h) (Or.inl ⟨by kernel_rfl, ?_⟩) hS2 ?_
              rotate_left
              · intro w' hS'; obtain ⟨s0, s1, s2⟩ := hS'; go_simp <;> with_reducible rfl
              (try simp only [List.getElem_toArray, List.getElem_cons_succ, List.getElem_cons_zero, Act.put, List.setIfInBounds_toArray, List.set_cons_zero, List.set_cons_succ])
              refine wpAnyH_take (i := 25) (v := ?_) rfl (by kernel_rfl) (by kernel_rfl) (by kernel_rfl) (fun _ _ _ h => h) (Or.inl ⟨by kernel_rfl, ?_⟩) hS2 ?_
              rotate_left
              · intro w' hS'; obtain ⟨s0, s1, s2⟩ := hS'; go_simp <;> with_reducible rfl
              (try simp only [List.getElem_toArray, List.getElem_cons_succ, List.getElem_cons_zero, Act.put, List.setIfInBounds_toArray, List.set_cons_zero, List.set_cons_succ])
              refine wpAnyH_ready (rs := [23]) (by kernel_rfl) (by simp) ?_
              refine AllReadyH.cons rfl (fun K hK => ?_) AllReadyH.nil
              go_simp
              refine (PZ.out _ hS2 hB2).mono ?_
              rintro e wr3 ⟨⟨rfl, hr3⟩, hc3⟩
              refine hK.out _ _ hc3 ?_
              intro hS3
              clear hK K
              (try simp only [List.getElem_toArray, List.getElem_cons_succ, List.getElem_cons_zero, Act.put, List.setIfInBounds_toArray, List.set_cons_zero, List.set_cons_succ])
              have hB3 := old_trans hB2 hr3
              refine wpAnyH_ready (rs := [26]) (by kernel_rfl) (by simp) ?_
              refine AllReadyH.cons rfl (fun K hK => ?_) AllReadyH.nil
              go_simp
              refine (PC.out _ hS3 hB3).mono ?_
              rintro e wr4 ⟨⟨rfl, hr4⟩, hc4⟩
              refine hK.out _ _ hc4 ?_
              intro hS4
              clear hK K
              (try simp only [List.getElem_toArray, List.getElem_cons_succ, List.getElem_cons_zero, Act.put, List.setIfInBounds_toArray, List.set_cons_zero, List.set_cons_succ])
              have hB4 := old_trans hB3 hr4
              refine wpAnyH_take (i := 27) (v := ?_) rfl (by kernel_rfl) (by kernel_rfl) (by kernel_rfl) (fun _ _ _ h => h) (Or.inl ⟨by kernel_rfl, ?_⟩) hS4 ?_
              rotate_left
              · intro w' hS'; obtain ⟨s0, s1, s2⟩ := hS'; go_simp <;> with_reducible rfl
              (try simp only [List.getElem_toArray, List.getElem_cons_succ, List.getElem_cons_zero, Act.put, List.setIfInBounds_toArray, List.set_cons_zero, List.set_cons_succ])
              refine wpAnyH_take (i := 28) (v := ?_) rfl (by kernel_rfl) (by kernel_rfl) (by kernel_rfl) (fun _ _ _ h => h) (Or.inl ⟨by kernel_rfl, ?_⟩) hS4 ?_
              rotate_left
              · intro w' hS'; obtain ⟨s0, s1, s2⟩ := hS'; go_simp <;> with_reducible rfl
              (try simp only [List.getElem_toArray, List.getElem_cons_succ, List.getElem_cons_zero, Act.put, List.setIfInBounds_toArray, List.set_cons_zero, List.set_cons_succ])
              refine wpAnyH_done (by kernel_rfl) ?_ _
              go_wp2
              go_ret
              exact ⟨by kernel_rfl, old_trans hB hB4⟩
    case true =>
      have hL := hS.out hs
      obtain ⟨hl1, hl2⟩ := spl_len at_ ps
      have n2 := (units_any (wd := wd) (ps := splA at_ ps) (by omega))
      have n3 := (units_any (wd := wd) (ps := splZ at_ ps) (by omega))
      clear hl1 hl2
      go_wp2_with fail
      refine (iSplYes _ _ _ _ _ _ _ O hpl hs).mono ?_
      rintro e w5 ⟨⟨ax, cx, ay, cy, rfl, A, Z⟩, hb5⟩
      clear V0 V1 Vz
      replace V := (by with_reducible first | exact V.later hb5 | exact V.drew.later hb5 | exact (V.alloc _).later hb5 | exact ((V.alloc _).alloc _).later hb5 | exact (((V.alloc _).alloc _).alloc _).later hb5 : Cel1 w5 _ _)
      replace O := (by with_reducible first | exact O.later hb5 | exact O.drew.later hb5 | exact (O.alloc _).later hb5 | exact ((O.alloc _).alloc _).later hb5 | exact (((O.alloc _).alloc _).alloc _).later hb5 : OB w5 _ _ _ _)
      replace wb1 := (by with_reducible first | exact wb1.old hb5 | exact (wb1.old ((Below.refl _ _).alloc (Nat.le_refl _) _)).old hb5 | exact ((wb1.old ((Below.refl _ _).alloc (Nat.le_refl _) _)).old ((Below.refl _ _).alloc (Nat.le_refl _) _)).old hb5 : IsCode w5 _ _ _)
      replace hB := (by with_reducible first | exact old_trans hB hb5 | exact old_trans (old_alloc hB _) hb5 | exact old_trans (old_alloc (old_alloc hB _) _) hb5 | exact old_trans (old_alloc (old_alloc (old_alloc hB _) _) _) hb5 : Below w.heap.size w w5)
      have V0 := V.1
      have V1 := V.2.1
      have Vz := V.2.2
      have sA := hB.size
      go_wp2_with fail
      refine (sSplYes _ _ _ _ _ _ _ ((O.alloc _).alloc _) hpl hs).mono ?_
      rintro e w6 ⟨⟨ax2, cx2, ay2, cy2, rfl, A2, Z2⟩, hb6⟩
      clear V0 V1 Vz
      replace V := (by with_reducible first | exact V.later hb6 | exact V.drew.later hb6 | exact (V.alloc _).later hb6 | exact ((V.alloc _).alloc _).later hb6 | exact (((V.alloc _).alloc _).alloc _).later hb6 : Cel1 w6 _ _)
      replace O := (by with_reducible first | exact O.later hb6 | exact O.drew.later hb6 | exact (O.alloc _).later hb6 | exact ((O.alloc _).alloc _).later hb6 | exact (((O.alloc _).alloc _).alloc _).later hb6 : OB w6 _ _ _ _)
      replace A := (by with_reducible first | exact A.later hb6 | exact A.drew.later hb6 | exact (A.alloc _).later hb6 | exact ((A.alloc _).alloc _).later hb6 | exact (((A.alloc _).alloc _).alloc _).later hb6 : OB w6 _ _ _ _)
      replace Z := (by with_reducible first | exact Z.later hb6 | exact Z.drew.later hb6 | exact (Z.alloc _).later hb6 | exact ((Z.alloc _).alloc _).later hb6 | exact (((Z.alloc _).alloc _).alloc _).later hb6 : OB w6 _ _ _ _)
      replace wb1 := (by with_reducible first | exact wb1.old hb6 | exact (wb1.old ((Below.refl _ _).alloc (Nat.le_refl _) _)).old hb6 | exact ((wb1.old ((Below.refl _ _).alloc (Nat.le_refl _) _)).old ((Below.refl _ _).alloc (Nat.le_refl _) _)).old hb6 : IsCode w6 _ _ _)
      replace hB := (by with_reducible first | exact old_trans hB hb6 | exact old_trans (old_alloc hB _) hb6 | exact old_trans (old_alloc (old_alloc hB _) _) hb6 | exact old_trans (old_alloc (old_alloc (old_alloc hB _) _) _) hb6 : Below w.heap.size w w6)
      have VA := ((Cel1.made _ _ rfl (.slice ax (splA at_ ps).length cx) 25).alloc _).later hb6
      (try simp only [World.size_alloc] at VA)
      have VB := (Cel1.made _ _ rfl (.slice ay (splZ at_ ps).length cy) 25).later hb6
      (try simp only [World.size_alloc] at VB)
      have V0 := V.1
      have V1 := V.2.1
      have Vz := V.2.2
      have VA0 := VA.1
      have VA1 := VA.2.1
      have VAz := VA.2.2
      have VB0 := VB.1
      have VB1 := VB.2.1
      have VBz := VB.2.2
      clear A2 Z2
      generalize hu2 : unitsRow wd (splA at_ ps) = x2 at *
      generalize hp2 : pathRow wd (splA at_ ps) = y2 at *
      replace hu2 := hd hu2
      replace hp2 := hd hp2
      generalize hu3 : unitsRow wd (splZ at_ ps) = x3 at *
      generalize hp3 : pathRow wd (splZ at_ ps) = y3 at *
      replace hu3 := hd hu3
      replace hp3 := hd hp3
      go_wp2_with fail
      refine (iUnitsV wd _ _ _ _ _ ((A.alloc _).alloc _) x2 hu2.out).mono ?_
      rintro e w7 ⟨rfl, hb7⟩
      clear V0 V1 Vz VA0 VA1 VAz VB0 VB1 VBz
      replace V := (by with_reducible first | exact V.later hb7 | exact V.drew.later hb7 | exact (V.alloc _).later hb7 | exact ((V.alloc _).alloc _).later hb7 | exact (((V.alloc _).alloc _).alloc _).later hb7 : Cel1 w7 _ _)
      replace VA := (by with_reducible first | exact VA.later hb7 | exact VA.drew.later hb7 | exact (VA.alloc _).later hb7 | exact ((VA.alloc _).alloc _).later hb7 | exact (((VA.alloc _).alloc _).alloc _).later hb7 : Cel1 w7 _ _)
      replace VB := (by with_reducible first | exact VB.later hb7 | exact VB.drew.later hb7 | exact (VB.alloc _).later hb7 | exact ((VB.alloc _).alloc _).later hb7 | exact (((VB.alloc _).alloc _).alloc _).later hb7 : Cel1 w7 _ _)
      replace O := (by with_reducible first | exact O.later hb7 | exact O.drew.later hb7 | exact (O.alloc _).later hb7 | exact ((O.alloc _).alloc _).later hb7 | exact (((O.alloc _).alloc _).alloc _).later hb7 : OB w7 _ _ _ _)
      replace A := (by with_reducible first | exact A.later hb7 | exact A.drew.later hb7 | exact (A.alloc _).later hb7 | exact ((A.alloc _).alloc _).later hb7 | exact (((A.alloc _).alloc _).alloc _).later hb7 : OB w7 _ _ _ _)
      replace Z := (by with_reducible first | exact Z.later hb7 | exact Z.drew.later hb7 | exact (Z.alloc _).later hb7 | exact ((Z.alloc _).alloc _).later hb7 | exact (((Z.alloc _).alloc _).alloc _).later hb7 : OB w7 _ _ _ _)
      replace wb1 := (by with_reducible first | exact wb1.old hb7 | exact (wb1.old ((Below.refl _ _).alloc (Nat.le_refl _) _)).old hb7 | exact ((wb1.old ((Below.refl _ _).alloc (Nat.le_refl _) _)).old ((Below.refl _ _).alloc (Nat.le_refl _) _)).old hb7 : IsCode w7 _ _ _)
      replace hB := (by with_reducible first | exact old_trans hB hb7 | exact old_trans (old_alloc hB _) hb7 | exact old_trans (old_alloc (old_alloc hB _) _) hb7 | exact old_trans (old_alloc (old_alloc (old_alloc hB _) _) _) hb7 : Below w.heap.size w w7)
      have VA2 := ((Cel1.made _ _ rfl (.slice ax2 (splA at_ ps).length cx2) 25).alloc _).later hb7
      (try simp only [World.size_alloc] at VA2)
      have VB2 := (Cel1.made _ _ rfl (.slice ay2 (splZ at_ ps).length cy2) 25).later hb7
      (try simp only [World.size_alloc] at VB2)
      have V0 := V.1
      have V1 := V.2.1
      have Vz := V.2.2
      have VA0 := VA.1
      have VA1 := VA.2.1
      have VAz := VA.2.2
      have VB0 := VB.1
      have VB1 := VB.2.1
      have VBz := VB.2.2
      have VA20 := VA2.1
      have VA21 := VA2.2.1
      have VA2z := VA2.2.2
      have VB20 := VB2.1
      have VB21 := VB2.2.1
      have VB2z := VB2.2.2
      go_wp2_with fail
      refine (iUnitsV wd _ _ _ _ _ Z x3 hu3.out).mono ?_
      rintro e w8 ⟨rfl, hb8⟩
      clear V0 V1 Vz VA0 VA1 VAz VB0 VB1 VBz VA20 VA21 VA2z VB20 VB21 VB2z
      replace V := (by with_reducible first | exact V.later hb8 | exact V.drew.later hb8 | exact (V.alloc _).later hb8 | exact ((V.alloc _).alloc _).later hb8 | exact (((V.alloc _).alloc _).alloc _).later hb8 : Cel1 w8 _ _)
      replace VA := (by with_reducible first | exact VA.later hb8 | exact VA.drew.later hb8 | exact (VA.alloc _).later hb8 | exact ((VA.alloc _).alloc _).later hb8 | exact (((VA.alloc _).alloc _).alloc _).later hb8 : Cel1 w8 _ _)
      replace VB := (by with_reducible first | exact VB.later hb8 | exact VB.drew.later hb8 | exact (VB.alloc _).later hb8 | exact ((VB.alloc _).alloc _).later hb8 | exact (((VB.alloc _).alloc _).alloc _).later hb8 : Cel1 w8 _ _)
      replace VA2 := (by with_reducible first | exact VA2.later hb8 | exact VA2.drew.later hb8 | exact (VA2.alloc _).later hb8 | exact ((VA2.alloc _).alloc _).later hb8 | exact (((VA2.alloc _).alloc _).alloc _).later hb8 : Cel1 w8 _ _)
      replace VB2 := (by with_reducible first | exact VB2.later hb8 | exact VB2.drew.later hb8 | exact (VB2.alloc _).later hb8 | exact ((VB2.alloc _).alloc _).later hb8 | exact (((VB2.alloc _).alloc _).alloc _).later hb8 : Cel1 w8 _ _)
      replace O := (by with_reducible first | exact O.later hb8 | exact O.drew.later hb8 | exact (O.alloc _).later hb8 | exact ((O.alloc _).alloc _).later hb8 | exact (((O.alloc _).alloc _).alloc _).later hb8 : OB w8 _ _ _ _)
      replace A := (by with_reducible first | exact A.later hb8 | exact A.drew.later hb8 | exact (A.alloc _).later hb8 | exact ((A.alloc _).alloc _).later hb8 | exact (((A.alloc _).alloc _).alloc _).later hb8 : OB w8 _ _ _ _)
      replace Z := (by with_reducible first | exact Z.later hb8 | exact Z.drew.later hb8 | exact (Z.alloc _).later hb8 | exact ((Z.alloc _).alloc _).later hb8 | exact (((Z.alloc _).alloc _).alloc _).later hb8 : OB w8 _ _ _ _)
      replace wb1 := (by with_reducible first | exact wb1.old hb8 | exact (wb1.old ((Below.refl _ _).alloc (Nat.le_refl _) _)).old hb8 | exact ((wb1.old ((Below.refl _ _).alloc (Nat.le_refl _) _)).old ((Below.refl _ _).alloc (Nat.le_refl _) _)).old hb8 : IsCode w8 _ _ _)
      replace hB := (by with_reducible first | exact old_trans hB hb8 | exact old_trans (old_alloc hB _) hb8 | exact old_trans (old_alloc (old_alloc hB _) _) hb8 | exact old_trans (old_alloc (old_alloc (old_alloc hB _) _) _) hb8 : Below w.heap.size w w8)
      have V0 := V.1
      have V1 := V.2.1
      have Vz := V.2.2
      have VA0 := VA.1
      have VA1 := VA.2.1
      have VAz := VA.2.2
      have VB0 := VB.1
      have VB1 := VB.2.1
      have VBz := VB.2.2
      have VA20 := VA2.1
      have VA21 := VA2.2.1
      have VA2z := VA2.2.2
      have VB20 := VB2.1
      have VB21 := VB2.2.1
      have VB2z := VB2.2.2
      have g1 : IntKind.i64.wrap (x2 + x3) = x2 + x3 := by rw [IntKind.wrap_i64]; omega
      have g2 : IntKind.i64.wrap (x2 + x3 + 1) = x2 + x3 + 1 := by rw [IntKind.wrap_i64]; omega
      have g3 : IntKind.i64.wrap (y2 + 1) = y2 + 1 := by rw [IntKind.wrap_i64]; omega
      have d2 : decide (q < y2 + 1) = false := decide_eq_false (by omega)
      have d3 : decide (q < y3) = false := decide_eq_false (by omega)
      cases hM : decide (u < 1000000000)
      case false =>
        as_aux_lemma =>
          clear hL n2 n3
          go_wp2_with fail
          refine (iPathV wd _ _ _ _ _ A y2 hp2.out).mono ?_
          rintro e w9 ⟨rfl, hb9⟩
          clear V0 V1 Vz VA0 VA1 VAz VB0 VB1 VBz VA20 VA21 VA2z VB20 VB21 VB2z
          replace V := (by with_reducible first | exact V.later hb9 | exact V.drew.later hb9 | exact (V.alloc _).later hb9 | exact ((V.alloc _).alloc _).later hb9 | exact (((V.alloc _).alloc _).alloc _).later hb9 : Cel1 w9 _ _)
          replace VA := (by with_reducible first | exact VA.later hb9 | exact VA.drew.later hb9 | exact (VA.alloc _).later hb9 | exact ((VA.alloc _).alloc _).later hb9 | exact (((VA.alloc _).alloc _).alloc _).later hb9 : Cel1 w9 _ _)
          replace VB := (by with_reducible first | exact VB.later hb9 | exact VB.drew.later hb9 | exact (VB.alloc _).later hb9 | exact ((VB.alloc _).alloc _).later hb9 | exact (((VB.alloc _).alloc _).alloc _).later hb9 : Cel1 w9 _ _)
          replace VA2 := (by with_reducible first | exact VA2.later hb9 | exact VA2.drew.later hb9 | exact (VA2.alloc _).later hb9 | exact ((VA2.alloc _).alloc _).later hb9 | exact (((VA2.alloc _).alloc _).alloc _).later hb9 : Cel1 w9 _ _)
          replace VB2 := (by with_reducible first | exact VB2.later hb9 | exact VB2.drew.later hb9 | exact (VB2.alloc _).later hb9 | exact ((VB2.alloc _).alloc _).later hb9 | exact (((VB2.alloc _).alloc _).alloc _).later hb9 : Cel1 w9 _ _)
          replace O := (by with_reducible first | exact O.later hb9 | exact O.drew.later hb9 | exact (O.alloc _).later hb9 | exact ((O.alloc _).alloc _).later hb9 | exact (((O.alloc _).alloc _).alloc _).later hb9 : OB w9 _ _ _ _)
          replace A := (by with_reducible first | exact A.later hb9 | exact A.drew.later hb9 | exact (A.alloc _).later hb9 | exact ((A.alloc _).alloc _).later hb9 | exact (((A.alloc _).alloc _).alloc _).later hb9 : OB w9 _ _ _ _)
          replace Z := (by with_reducible first | exact Z.later hb9 | exact Z.drew.later hb9 | exact (Z.alloc _).later hb9 | exact ((Z.alloc _).alloc _).later hb9 | exact (((Z.alloc _).alloc _).alloc _).later hb9 : OB w9 _ _ _ _)
          replace wb1 := (by with_reducible first | exact wb1.old hb9 | exact (wb1.old ((Below.refl _ _).alloc (Nat.le_refl _) _)).old hb9 | exact ((wb1.old ((Below.refl _ _).alloc (Nat.le_refl _) _)).old ((Below.refl _ _).alloc (Nat.le_refl _) _)).old hb9 : IsCode w9 _ _ _)
          replace hB := (by with_reducible first | exact old_trans hB hb9 | exact old_trans (old_alloc hB _) hb9 | exact old_trans (old_alloc (old_alloc hB _) _) hb9 | exact old_trans (old_alloc (old_alloc (old_alloc hB _) _) _) hb9 : Below w.heap.size w w9)
          have V0 := V.1
          have V1 := V.2.1
          have Vz := V.2.2
          have VA0 := VA.1
          have VA1 := VA.2.1
          have VAz := VA.2.2
          have VB0 := VB.1
          have VB1 := VB.2.1
          have VBz := VB.2.2
          have VA20 := VA2.1
          have VA21 := VA2.2.1
          have VA2z := VA2.2.2
          have VB20 := VB2.1
          have VB21 := VB2.2.1
          have VB2z := VB2.2.2
          go_wp2_with fail
          refine (iPathV wd _ _ _ _ _ Z y3 hp3.out).mono ?_
          rintro e w10 ⟨rfl, hb10⟩
          clear V0 V1 Vz VA0 VA1 VAz VB0 VB1 VBz VA20 VA21 VA2z VB20 VB21 VB2z
          replace V := (by with_reducible first | exact V.later hb10 | exact V.drew.later hb10 | exact (V.alloc _).later hb10 | exact ((V.alloc _).alloc _).later hb10 | exact (((V.alloc _).alloc _).alloc _).later hb10 : Cel1 w10 _ _)
          replace VA := (by with_reducible first | exact VA.later hb10 | exact VA.drew.later hb10 | exact (VA.alloc _).later hb10 | exact ((VA.alloc _).alloc _).later hb10 | exact (((VA.alloc _).alloc _).alloc _).later hb10 : Cel1 w10 _ _)
          replace VB := (by with_reducible first | exact VB.later hb10 | exact VB.drew.later hb10 | exact (VB.alloc _).later hb10 | exact ((VB.alloc _).alloc _).later hb10 | exact (((VB.alloc _).alloc _).alloc _).later hb10 : Cel1 w10 _ _)
          replace VA2 := (by with_reducible first | exact VA2.later hb10 | exact VA2.drew.later hb10 | exact (VA2.alloc _).later hb10 | exact ((VA2.alloc _).alloc _).later hb10 | exact (((VA2.alloc _).alloc _).alloc _).later hb10 : Cel1 w10 _ _)
          replace VB2 := (by with_reducible first | exact VB2.later hb10 | exact VB2.drew.later hb10 | exact (VB2.alloc _).later hb10 | exact ((VB2.alloc _).alloc _).later hb10 | exact (((VB2.alloc _).alloc _).alloc _).later hb10 : Cel1 w10 _ _)
          replace O := (by with_reducible first | exact O.later hb10 | exact O.drew.later hb10 | exact (O.alloc _).later hb10 | exact ((O.alloc _).alloc _).later hb10 | exact (((O.alloc _).alloc _).alloc _).later hb10 : OB w10 _ _ _ _)
          replace A := (by with_reducible first | exact A.later hb10 | exact A.drew.later hb10 | exact (A.alloc _).later hb10 | exact ((A.alloc _).alloc _).later hb10 | exact (((A.alloc _).alloc _).alloc _).later hb10 : OB w10 _ _ _ _)
          replace Z := (by with_reducible first | exact Z.later hb10 | exact Z.drew.later hb10 | exact (Z.alloc _).later hb10 | exact ((Z.alloc _).alloc _).later hb10 | exact (((Z.alloc _).alloc _).alloc _).later hb10 : OB w10 _ _ _ _)
          replace wb1 := (by with_reducible first | exact wb1.old hb10 | exact (wb1.old ((Below.refl _ _).alloc (Nat.le_refl _) _)).old hb10 | exact ((wb1.old ((Below.refl _ _).alloc (Nat.le_refl _) _)).old ((Below.refl _ _).alloc (Nat.le_refl _) _)).old hb10 : IsCode w10 _ _ _)
          replace hB := (by with_reducible first | exact old_trans hB hb10 | exact old_trans (old_alloc hB _) hb10 | exact old_trans (old_alloc (old_alloc hB _) _) hb10 | exact old_trans (old_alloc (old_alloc (old_alloc hB _) _) _) hb10 : Below w.heap.size w w10)
          have V0 := V.1
          have V1 := V.2.1
          have Vz := V.2.2
          have VA0 := VA.1
          have VA1 := VA.2.1
          have VAz := VA.2.2
          have VB0 := VB.1
          have VB1 := VB.2.1
          have VBz := VB.2.2
          have VA20 := VA2.1
          have VA21 := VA2.2.1
          have VA2z := VA2.2.2
          have VB20 := VB2.1
          have VB21 := VB2.2.1
          have VB2z := VB2.2.2
          clear hu2 hu3 hp2 hp3
          generalize hA : w5.heap.size = bA at *
          go_upto_region 19 with fail
          clear V0 V1 Vz VA0 VA1 VAz VB0 VB1 VBz VA20 VA21 VA2z VB20 VB21 VB2z
          clear O V e1 e2 e3 e4 hS hu hq
          have VA0 := VA.1
          have VA1 := VA.2.1
          have VAz := VA.2.2
          have VB0 := VB.1
          have VB1 := VB.2.1
          have VBz := VB.2.2
          clear A Z g1 g2 g3 d2 d3 hM
          have la := VA.2.2
          have lb := VB.2.2
          go_wp2_with fail
          refine (drawBoxCut _ a1 len1 cap1 wb1).mono ?_
          rintro e w11 ⟨⟨wd2, ac, cc, cs, at2, gc, gd, hwd2, rfl, hcl, hT2, hg, C⟩, hb11⟩
          clear VA0 VA1 VAz VB0 VB1 VBz
          replace VA := (by with_reducible first | exact VA.later hb11 | exact VA.drew.later hb11 | exact (VA.alloc _).later hb11 | exact ((VA.alloc _).alloc _).later hb11 | exact (((VA.alloc _).alloc _).alloc _).later hb11 : Cel1 w11 _ _)
          replace VB := (by with_reducible first | exact VB.later hb11 | exact VB.drew.later hb11 | exact (VB.alloc _).later hb11 | exact ((VB.alloc _).alloc _).later hb11 | exact (((VB.alloc _).alloc _).alloc _).later hb11 : Cel1 w11 _ _)
          replace wb1 := (by with_reducible first | exact wb1.old hb11 | exact (wb1.old ((Below.refl _ _).alloc (Nat.le_refl _) _)).old hb11 | exact ((wb1.old ((Below.refl _ _).alloc (Nat.le_refl _) _)).old ((Below.refl _ _).alloc (Nat.le_refl _) _)).old hb11 : IsCode w11 _ _ _)
          replace hB := (by with_reducible first | exact old_trans hB hb11 | exact old_trans (old_alloc hB _) hb11 | exact old_trans (old_alloc (old_alloc hB _) _) hb11 | exact old_trans (old_alloc (old_alloc (old_alloc hB _) _) _) hb11 : Below w.heap.size w w11)
          have VA0 := VA.1
          have VA1 := VA.2.1
          have VAz := VA.2.2
          have VB0 := VB.1
          have VB1 := VB.2.1
          have VBz := VB.2.2
          (try simp only [World.size_alloc] at C)
          have ls := hb11.size
          have lx : bA + 1 < w11.heap.size := by omega
          cases hc : cutR wd2 at2 gc gd cs
          case false =>
            as_aux_lemma =>
              go_wp2_with fail
              refine (iCutNo _ _ _ _ _ _ _ ((C.alloc _).alloc _) hcl _ _ hg hc).mono ?_
              rintro e w12 ⟨⟨ap, cp, aq, cq, rfl⟩, hb12⟩
              clear VA0 VA1 VAz VB0 VB1 VBz
              replace VA := (by with_reducible first | exact VA.later hb12 | exact VA.drew.later hb12 | exact (VA.alloc _).later hb12 | exact ((VA.alloc _).alloc _).later hb12 | exact (((VA.alloc _).alloc _).alloc _).later hb12 : Cel1 w12 _ _)
              replace VB := (by with_reducible first | exact VB.later hb12 | exact VB.drew.later hb12 | exact (VB.alloc _).later hb12 | exact ((VB.alloc _).alloc _).later hb12 | exact (((VB.alloc _).alloc _).alloc _).later hb12 : Cel1 w12 _ _)
              replace C := (by with_reducible first | exact C.later hb12 | exact C.drew.later hb12 | exact (C.alloc _).later hb12 | exact ((C.alloc _).alloc _).later hb12 | exact (((C.alloc _).alloc _).alloc _).later hb12 : OB w12 _ _ _ _)
              replace wb1 := (by with_reducible first | exact wb1.old hb12 | exact (wb1.old ((Below.refl _ _).alloc (Nat.le_refl _) _)).old hb12 | exact ((wb1.old ((Below.refl _ _).alloc (Nat.le_refl _) _)).old ((Below.refl _ _).alloc (Nat.le_refl _) _)).old hb12 : IsCode w12 _ _ _)
              replace hB := (by with_reducible first | exact old_trans hB hb12 | exact old_trans (old_alloc hB _) hb12 | exact old_trans (old_alloc (old_alloc hB _) _) hb12 | exact old_trans (old_alloc (old_alloc (old_alloc hB _) _) _) hb12 : Below w.heap.size w w12)
              have VC := ((Cel1.made _ _ rfl (.slice ac cs.length cc) 25).alloc _).later hb12
              (try simp only [World.size_alloc] at VC)
              have VG := (Cel2.made _ _ rfl (.int .i64 gc) (.int .i64 gd) 42).later hb12
              (try simp only [World.size_alloc] at VG)
              have VA0 := VA.1
              have VA1 := VA.2.1
              have VAz := VA.2.2
              have VB0 := VB.1
              have VB1 := VB.2.1
              have VBz := VB.2.2
              have VC0 := VC.1
              have VC1 := VC.2.1
              have VCz := VC.2.2
              have VG0 := VG.1
              have VG1 := VG.2.1
              have VGz := VG.2.2.2.2
              generalize w11.heap.size = bC at *
              go_upto_region 21 with fail
              clear VA0 VA1 VAz VB0 VB1 VBz VC0 VC1 VCz VG0 VG1 VGz
              clear wb1
              replace VA : Cel1 ((w12.setCell ⟨bA, 0, none⟩ (.slice ap 0 cp)).setCell ⟨bA + 1, 0, none⟩ (.slice aq 0 cq)) bA _ := (VA.set _).other ⟨bA + 1, 0, none⟩ (by simp) _
              replace VB : Cel1 ((w12.setCell ⟨bA, 0, none⟩ (.slice ap 0 cp)).setCell ⟨bA + 1, 0, none⟩ (.slice aq 0 cq)) (bA + 1) _ := (VB.other ⟨bA, 0, none⟩ (by simp) _).set _
              replace VC : Cel1 ((w12.setCell ⟨bA, 0, none⟩ (.slice ap 0 cp)).setCell ⟨bA + 1, 0, none⟩ (.slice aq 0 cq)) bC _ := (VC.other ⟨bA, 0, none⟩ (by simp; omega) _).other ⟨bA + 1, 0, none⟩ (by simp; omega) _
              replace VG : Cel2 ((w12.setCell ⟨bA, 0, none⟩ (.slice ap 0 cp)).setCell ⟨bA + 1, 0, none⟩ (.slice aq 0 cq)) (bC + 1) _ _ := (VG.other bA 0 (by omega) _).other (bA + 1) 0 (by omega) _
              replace C : OB ((w12.setCell ⟨bA, 0, none⟩ (.slice ap 0 cp)).setCell ⟨bA + 1, 0, none⟩ (.slice aq 0 cq)) _ _ _ _ := (C.set1 (by omega) _).set1 (by omega) _
              replace hB : Below w.heap.size w ((w12.setCell ⟨bA, 0, none⟩ (.slice ap 0 cp)).setCell ⟨bA + 1, 0, none⟩ (.slice aq 0 cq)) := (hB.setCell (p := ⟨bA, 0, none⟩) (by simp; omega) _).setCell (p := ⟨bA + 1, 0, none⟩) (by simp; omega) _
              generalize (w12.setCell ⟨bA, 0, none⟩ (.slice ap 0 cp)).setCell ⟨bA + 1, 0, none⟩ (.slice aq 0 cq) = w12s at *
              have VA0 := VA.1
              have VA1 := VA.2.1
              have VAz := VA.2.2
              have VB0 := VB.1
              have VB1 := VB.2.1
              have VBz := VB.2.2
              have VC0 := VC.1
              have VC1 := VC.2.1
              have VCz := VC.2.2
              have VG0 := VG.1
              have VG1 := VG.2.1
              have VGz := VG.2.2.2.2
              go_wp2_with fail
              refine (sCutNo _ _ _ _ _ _ _ C hcl _ _ hg hc).mono ?_
              rintro e w13 ⟨⟨ap2, cp2, aq2, cq2, rfl⟩, hb13⟩
              clear VA0 VA1 VAz VB0 VB1 VBz VC0 VC1 VCz VG0 VG1 VGz
              replace VA := (by with_reducible first | exact VA.later hb13 | exact VA.drew.later hb13 | exact (VA.alloc _).later hb13 | exact ((VA.alloc _).alloc _).later hb13 | exact (((VA.alloc _).alloc _).alloc _).later hb13 : Cel1 w13 _ _)
              replace VB := (by with_reducible first | exact VB.later hb13 | exact VB.drew.later hb13 | exact (VB.alloc _).later hb13 | exact ((VB.alloc _).alloc _).later hb13 | exact (((VB.alloc _).alloc _).alloc _).later hb13 : Cel1 w13 _ _)
              replace VC := (by with_reducible first | exact VC.later hb13 | exact VC.drew.later hb13 | exact (VC.alloc _).later hb13 | exact ((VC.alloc _).alloc _).later hb13 | exact (((VC.alloc _).alloc _).alloc _).later hb13 : Cel1 w13 _ _)
              replace VG := (by with_reducible first | exact VG.later hb13 | exact VG.drew.later hb13 | exact (VG.alloc _).later hb13 | exact ((VG.alloc _).alloc _).later hb13 | exact (((VG.alloc _).alloc _).alloc _).later hb13 : Cel2 w13 _ _ _)
              replace C := (by with_reducible first | exact C.later hb13 | exact C.drew.later hb13 | exact (C.alloc _).later hb13 | exact ((C.alloc _).alloc _).later hb13 | exact (((C.alloc _).alloc _).alloc _).later hb13 : OB w13 _ _ _ _)
              replace hB := (by with_reducible first | exact old_trans hB hb13 | exact old_trans (old_alloc hB _) hb13 | exact old_trans (old_alloc (old_alloc hB _) _) hb13 | exact old_trans (old_alloc (old_alloc (old_alloc hB _) _) _) hb13 : Below w.heap.size w w13)
              have VA0 := VA.1
              have VA1 := VA.2.1
              have VAz := VA.2.2
              have VB0 := VB.1
              have VB1 := VB.2.1
              have VBz := VB.2.2
              have VC0 := VC.1
              have VC1 := VC.2.1
              have VCz := VC.2.2
              have VG0 := VG.1
              have VG1 := VG.2.1
              have VGz := VG.2.2.2.2
              go_wp2
              go_ret
              exact ⟨rfl, (by repeat (first | exact hB | exact Below.refl _ _ | refine Below.drew ?_ | refine old_alloc ?_ _ | refine old_trans ?_ (by assumption)))⟩
          case true =>
            go_wp2_with fail
            refine (iCutYes _ _ _ _ _ _ _ ((C.alloc _).alloc _) hcl _ _ hg hc).mono ?_
            rintro e w12 ⟨⟨ap, cp, aq, cq, rfl, M, Z⟩, hb12⟩
            clear VA0 VA1 VAz VB0 VB1 VBz
            replace VA := (by with_reducible first | exact VA.later hb12 | exact VA.drew.later hb12 | exact (VA.alloc _).later hb12 | exact ((VA.alloc _).alloc _).later hb12 | exact (((VA.alloc _).alloc _).alloc _).later hb12 : Cel1 w12 _ _)
            replace VB := (by with_reducible first | exact VB.later hb12 | exact VB.drew.later hb12 | exact (VB.alloc _).later hb12 | exact ((VB.alloc _).alloc _).later hb12 | exact (((VB.alloc _).alloc _).alloc _).later hb12 : Cel1 w12 _ _)
            replace C := (by with_reducible first | exact C.later hb12 | exact C.drew.later hb12 | exact (C.alloc _).later hb12 | exact ((C.alloc _).alloc _).later hb12 | exact (((C.alloc _).alloc _).alloc _).later hb12 : OB w12 _ _ _ _)
            replace wb1 := (by with_reducible first | exact wb1.old hb12 | exact (wb1.old ((Below.refl _ _).alloc (Nat.le_refl _) _)).old hb12 | exact ((wb1.old ((Below.refl _ _).alloc (Nat.le_refl _) _)).old ((Below.refl _ _).alloc (Nat.le_refl _) _)).old hb12 : IsCode w12 _ _ _)
            replace hB := (by with_reducible first | exact old_trans hB hb12 | exact old_trans (old_alloc hB _) hb12 | exact old_trans (old_alloc (old_alloc hB _) _) hb12 | exact old_trans (old_alloc (old_alloc (old_alloc hB _) _) _) hb12 : Below w.heap.size w w12)
            have VC := ((Cel1.made _ _ rfl (.slice ac cs.length cc) 25).alloc _).later hb12
            (try simp only [World.size_alloc] at VC)
            have VG := (Cel2.made _ _ rfl (.int .i64 gc) (.int .i64 gd) 42).later hb12
            (try simp only [World.size_alloc] at VG)
            have VA0 := VA.1
            have VA1 := VA.2.1
            have VAz := VA.2.2
            have VB0 := VB.1
            have VB1 := VB.2.1
            have VBz := VB.2.2
            have VC0 := VC.1
            have VC1 := VC.2.1
            have VCz := VC.2.2
            have VG0 := VG.1
            have VG1 := VG.2.1
            have VGz := VG.2.2.2.2
            (try simp only [World.size_alloc] at M)
            (try simp only [World.size_alloc] at Z)
            generalize w11.heap.size = bC at *
            go_upto_region 21 with fail
            clear VA0 VA1 VAz VB0 VB1 VBz VC0 VC1 VCz VG0 VG1 VGz
            clear wb1
            replace VA : Cel1 ((w12.setCell ⟨bA, 0, none⟩ (.slice ap (cutA at2 gc gd cs).length cp)).setCell ⟨bA + 1, 0, none⟩ (.slice aq (cutZ at2 gc gd cs).length cq)) bA _ := (VA.set _).other ⟨bA + 1, 0, none⟩ (by simp) _
            replace VB : Cel1 ((w12.setCell ⟨bA, 0, none⟩ (.slice ap (cutA at2 gc gd cs).length cp)).setCell ⟨bA + 1, 0, none⟩ (.slice aq (cutZ at2 gc gd cs).length cq)) (bA + 1) _ := (VB.other ⟨bA, 0, none⟩ (by simp) _).set _
            replace VC : Cel1 ((w12.setCell ⟨bA, 0, none⟩ (.slice ap (cutA at2 gc gd cs).length cp)).setCell ⟨bA + 1, 0, none⟩ (.slice aq (cutZ at2 gc gd cs).length cq)) bC _ := (VC.other ⟨bA, 0, none⟩ (by simp; omega) _).other ⟨bA + 1, 0, none⟩ (by simp; omega) _
            replace VG : Cel2 ((w12.setCell ⟨bA, 0, none⟩ (.slice ap (cutA at2 gc gd cs).length cp)).setCell ⟨bA + 1, 0, none⟩ (.slice aq (cutZ at2 gc gd cs).length cq)) (bC + 1) _ _ := (VG.other bA 0 (by omega) _).other (bA + 1) 0 (by omega) _
            replace C : OB ((w12.setCell ⟨bA, 0, none⟩ (.slice ap (cutA at2 gc gd cs).length cp)).setCell ⟨bA + 1, 0, none⟩ (.slice aq (cutZ at2 gc gd cs).length cq)) _ _ _ _ := (C.set1 (by omega) _).set1 (by omega) _
            replace M : OB ((w12.setCell ⟨bA, 0, none⟩ (.slice ap (cutA at2 gc gd cs).length cp)).setCell ⟨bA + 1, 0, none⟩ (.slice aq (cutZ at2 gc gd cs).length cq)) _ _ _ _ := (M.set1 (by omega) _).set1 (by omega) _
            replace Z : OB ((w12.setCell ⟨bA, 0, none⟩ (.slice ap (cutA at2 gc gd cs).length cp)).setCell ⟨bA + 1, 0, none⟩ (.slice aq (cutZ at2 gc gd cs).length cq)) _ _ _ _ := (Z.set1 (by omega) _).set1 (by omega) _
            replace hB : Below w.heap.size w ((w12.setCell ⟨bA, 0, none⟩ (.slice ap (cutA at2 gc gd cs).length cp)).setCell ⟨bA + 1, 0, none⟩ (.slice aq (cutZ at2 gc gd cs).length cq)) := (hB.setCell (p := ⟨bA, 0, none⟩) (by simp; omega) _).setCell (p := ⟨bA + 1, 0, none⟩) (by simp; omega) _
            generalize (w12.setCell ⟨bA, 0, none⟩ (.slice ap (cutA at2 gc gd cs).length cp)).setCell ⟨bA + 1, 0, none⟩ (.slice aq (cutZ at2 gc gd cs).length cq) = w12s at *
            have VA0 := VA.1
            have VA1 := VA.2.1
            have VAz := VA.2.2
            have VB0 := VB.1
            have VB1 := VB.2.1
            have VBz := VB.2.2
            have VC0 := VC.1
            have VC1 := VC.2.1
            have VCz := VC.2.2
            have VG0 := VG.1
            have VG1 := VG.2.1
            have VGz := VG.2.2.2.2
            go_wp2_with fail
            refine (sCutYes _ _ _ _ _ _ _ C hcl _ _ hg hc).mono ?_
            rintro e w13 ⟨⟨ap2, cp2, aq2, cq2, rfl, M2, Z2⟩, hb13⟩
            clear VA0 VA1 VAz VB0 VB1 VBz VC0 VC1 VCz VG0 VG1 VGz
            replace VA := (by with_reducible first | exact VA.later hb13 | exact VA.drew.later hb13 | exact (VA.alloc _).later hb13 | exact ((VA.alloc _).alloc _).later hb13 | exact (((VA.alloc _).alloc _).alloc _).later hb13 : Cel1 w13 _ _)
            replace VB := (by with_reducible first | exact VB.later hb13 | exact VB.drew.later hb13 | exact (VB.alloc _).later hb13 | exact ((VB.alloc _).alloc _).later hb13 | exact (((VB.alloc _).alloc _).alloc _).later hb13 : Cel1 w13 _ _)
            replace VC := (by with_reducible first | exact VC.later hb13 | exact VC.drew.later hb13 | exact (VC.alloc _).later hb13 | exact ((VC.alloc _).alloc _).later hb13 | exact (((VC.alloc _).alloc _).alloc _).later hb13 : Cel1 w13 _ _)
            replace VG := (by with_reducible first | exact VG.later hb13 | exact VG.drew.later hb13 | exact (VG.alloc _).later hb13 | exact ((VG.alloc _).alloc _).later hb13 | exact (((VG.alloc _).alloc _).alloc _).later hb13 : Cel2 w13 _ _ _)
            replace C := (by with_reducible first | exact C.later hb13 | exact C.drew.later hb13 | exact (C.alloc _).later hb13 | exact ((C.alloc _).alloc _).later hb13 | exact (((C.alloc _).alloc _).alloc _).later hb13 : OB w13 _ _ _ _)
            replace M := (by with_reducible first | exact M.later hb13 | exact M.drew.later hb13 | exact (M.alloc _).later hb13 | exact ((M.alloc _).alloc _).later hb13 | exact (((M.alloc _).alloc _).alloc _).later hb13 : OB w13 _ _ _ _)
            replace Z := (by with_reducible first | exact Z.later hb13 | exact Z.drew.later hb13 | exact (Z.alloc _).later hb13 | exact ((Z.alloc _).alloc _).later hb13 | exact (((Z.alloc _).alloc _).alloc _).later hb13 : OB w13 _ _ _ _)
            replace hB := (by with_reducible first | exact old_trans hB hb13 | exact old_trans (old_alloc hB _) hb13 | exact old_trans (old_alloc (old_alloc hB _) _) hb13 | exact old_trans (old_alloc (old_alloc (old_alloc hB _) _) _) hb13 : Below w.heap.size w w13)
            have VA0 := VA.1
            have VA1 := VA.2.1
            have VAz := VA.2.2
            have VB0 := VB.1
            have VB1 := VB.2.1
            have VBz := VB.2.2
            have VC0 := VC.1
            have VC1 := VC.2.1
            have VCz := VC.2.2
            have VG0 := VG.1
            have VG1 := VG.2.1
            have VGz := VG.2.2.2.2
            clear M2 Z2
            have hcl1 := (cut_len at2 gc gd cs).1
            have hcl2 := (cut_len at2 gc gd cs).2
            have hL := cut_less hc
            have n1 := (units_any (wd := wd2) (ps := cs) (by omega))
            have n2 := (units_any (wd := wd2) (ps := cutA at2 gc gd cs) (by omega))
            have n3 := (units_any (wd := wd2) (ps := cutZ at2 gc gd cs) (by omega))
            clear hcl1 hcl2
            generalize hu1 : unitsRow wd2 cs = u1 at *
            generalize hp1 : pathRow wd2 cs = p1 at *
            replace hu1 := hd hu1
            replace hp1 := hd hp1
            generalize hu2 : unitsRow wd2 (cutA at2 gc gd cs) = u2 at *
            generalize hp2 : pathRow wd2 (cutA at2 gc gd cs) = p2 at *
            replace hu2 := hd hu2
            replace hp2 := hd hp2
            generalize hu3 : unitsRow wd2 (cutZ at2 gc gd cs) = u3 at *
            generalize hp3 : pathRow wd2 (cutZ at2 gc gd cs) = p3 at *
            replace hu3 := hd hu3
            replace hp3 := hd hp3
            go_wp2_with fail
            refine (iUnitsV wd2 _ _ _ _ _ ((C.alloc _).alloc _) u1 hu1.out).mono ?_
            rintro e w14 ⟨rfl, hb14⟩
            clear VA0 VA1 VAz VB0 VB1 VBz VC0 VC1 VCz VG0 VG1 VGz
            replace VA := (by with_reducible first | exact VA.later hb14 | exact VA.drew.later hb14 | exact (VA.alloc _).later hb14 | exact ((VA.alloc _).alloc _).later hb14 | exact (((VA.alloc _).alloc _).alloc _).later hb14 : Cel1 w14 _ _)
            replace VB := (by with_reducible first | exact VB.later hb14 | exact VB.drew.later hb14 | exact (VB.alloc _).later hb14 | exact ((VB.alloc _).alloc _).later hb14 | exact (((VB.alloc _).alloc _).alloc _).later hb14 : Cel1 w14 _ _)
            replace VC := (by with_reducible first | exact VC.later hb14 | exact VC.drew.later hb14 | exact (VC.alloc _).later hb14 | exact ((VC.alloc _).alloc _).later hb14 | exact (((VC.alloc _).alloc _).alloc _).later hb14 : Cel1 w14 _ _)
            replace VG := (by with_reducible first | exact VG.later hb14 | exact VG.drew.later hb14 | exact (VG.alloc _).later hb14 | exact ((VG.alloc _).alloc _).later hb14 | exact (((VG.alloc _).alloc _).alloc _).later hb14 : Cel2 w14 _ _ _)
            replace C := (by with_reducible first | exact C.later hb14 | exact C.drew.later hb14 | exact (C.alloc _).later hb14 | exact ((C.alloc _).alloc _).later hb14 | exact (((C.alloc _).alloc _).alloc _).later hb14 : OB w14 _ _ _ _)
            replace M := (by with_reducible first | exact M.later hb14 | exact M.drew.later hb14 | exact (M.alloc _).later hb14 | exact ((M.alloc _).alloc _).later hb14 | exact (((M.alloc _).alloc _).alloc _).later hb14 : OB w14 _ _ _ _)
            replace Z := (by with_reducible first | exact Z.later hb14 | exact Z.drew.later hb14 | exact (Z.alloc _).later hb14 | exact ((Z.alloc _).alloc _).later hb14 | exact (((Z.alloc _).alloc _).alloc _).later hb14 : OB w14 _ _ _ _)
            replace hB := (by with_reducible first | exact old_trans hB hb14 | exact old_trans (old_alloc hB _) hb14 | exact old_trans (old_alloc (old_alloc hB _) _) hb14 | exact old_trans (old_alloc (old_alloc (old_alloc hB _) _) _) hb14 : Below w.heap.size w w14)
            have VA3 := ((Cel1.made _ _ rfl (.slice ap2 (cutA at2 gc gd cs).length cp2) 25).alloc _).later hb14
            (try simp only [World.size_alloc] at VA3)
            have VB3 := (Cel1.made _ _ rfl (.slice aq2 (cutZ at2 gc gd cs).length cq2) 25).later hb14
            (try simp only [World.size_alloc] at VB3)
            have VA0 := VA.1
            have VA1 := VA.2.1
            have VAz := VA.2.2
            have VB0 := VB.1
            have VB1 := VB.2.1
            have VBz := VB.2.2
            have VC0 := VC.1
            have VC1 := VC.2.1
            have VCz := VC.2.2
            have VA30 := VA3.1
            have VA31 := VA3.2.1
            have VA3z := VA3.2.2
            have VB30 := VB3.1
            have VB31 := VB3.2.1
            have VB3z := VB3.2.2
            have VG0 := VG.1
            have VG1 := VG.2.1
            have VGz := VG.2.2.2.2
            go_wp2_with fail
            refine (iUnitsV wd2 _ _ _ _ _ M u2 hu2.out).mono ?_
            rintro e w15 ⟨rfl, hb15⟩
            clear VA0 VA1 VAz VB0 VB1 VBz VC0 VC1 VCz VA30 VA31 VA3z VB30 VB31 VB3z VG0 VG1 VGz
            replace VA := (by with_reducible first | exact VA.later hb15 | exact VA.drew.later hb15 | exact (VA.alloc _).later hb15 | exact ((VA.alloc _).alloc _).later hb15 | exact (((VA.alloc _).alloc _).alloc _).later hb15 : Cel1 w15 _ _)
            replace VB := (by with_reducible first | exact VB.later hb15 | exact VB.drew.later hb15 | exact (VB.alloc _).later hb15 | exact ((VB.alloc _).alloc _).later hb15 | exact (((VB.alloc _).alloc _).alloc _).later hb15 : Cel1 w15 _ _)
            replace VC := (by with_reducible first | exact VC.later hb15 | exact VC.drew.later hb15 | exact (VC.alloc _).later hb15 | exact ((VC.alloc _).alloc _).later hb15 | exact (((VC.alloc _).alloc _).alloc _).later hb15 : Cel1 w15 _ _)
            replace VA3 := (by with_reducible first | exact VA3.later hb15 | exact VA3.drew.later hb15 | exact (VA3.alloc _).later hb15 | exact ((VA3.alloc _).alloc _).later hb15 | exact (((VA3.alloc _).alloc _).alloc _).later hb15 : Cel1 w15 _ _)
            replace VB3 := (by with_reducible first | exact VB3.later hb15 | exact VB3.drew.later hb15 | exact (VB3.alloc _).later hb15 | exact ((VB3.alloc _).alloc _).later hb15 | exact (((VB3.alloc _).alloc _).alloc _).later hb15 : Cel1 w15 _ _)
            replace VG := (by with_reducible first | exact VG.later hb15 | exact VG.drew.later hb15 | exact (VG.alloc _).later hb15 | exact ((VG.alloc _).alloc _).later hb15 | exact (((VG.alloc _).alloc _).alloc _).later hb15 : Cel2 w15 _ _ _)
            replace C := (by with_reducible first | exact C.later hb15 | exact C.drew.later hb15 | exact (C.alloc _).later hb15 | exact ((C.alloc _).alloc _).later hb15 | exact (((C.alloc _).alloc _).alloc _).later hb15 : OB w15 _ _ _ _)
            replace M := (by with_reducible first | exact M.later hb15 | exact M.drew.later hb15 | exact (M.alloc _).later hb15 | exact ((M.alloc _).alloc _).later hb15 | exact (((M.alloc _).alloc _).alloc _).later hb15 : OB w15 _ _ _ _)
            replace Z := (by with_reducible first | exact Z.later hb15 | exact Z.drew.later hb15 | exact (Z.alloc _).later hb15 | exact ((Z.alloc _).alloc _).later hb15 | exact (((Z.alloc _).alloc _).alloc _).later hb15 : OB w15 _ _ _ _)
            replace hB := (by with_reducible first | exact old_trans hB hb15 | exact old_trans (old_alloc hB _) hb15 | exact old_trans (old_alloc (old_alloc hB _) _) hb15 | exact old_trans (old_alloc (old_alloc (old_alloc hB _) _) _) hb15 : Below w.heap.size w w15)
            have VA0 := VA.1
            have VA1 := VA.2.1
            have VAz := VA.2.2
            have VB0 := VB.1
            have VB1 := VB.2.1
            have VBz := VB.2.2
            have VC0 := VC.1
            have VC1 := VC.2.1
            have VCz := VC.2.2
            have VA30 := VA3.1
            have VA31 := VA3.2.1
            have VA3z := VA3.2.2
            have VB30 := VB3.1
            have VB31 := VB3.2.1
            have VB3z := VB3.2.2
            have VG0 := VG.1
            have VG1 := VG.2.1
            have VGz := VG.2.2.2.2
            go_wp2_with fail
            refine (iUnitsV wd2 _ _ _ _ _ Z u3 hu3.out).mono ?_
            rintro e w16 ⟨rfl, hb16⟩
            clear VA0 VA1 VAz VB0 VB1 VBz VC0 VC1 VCz VA30 VA31 VA3z VB30 VB31 VB3z VG0 VG1 VGz
            replace VA := (by with_reducible first | exact VA.later hb16 | exact VA.drew.later hb16 | exact (VA.alloc _).later hb16 | exact ((VA.alloc _).alloc _).later hb16 | exact (((VA.alloc _).alloc _).alloc _).later hb16 : Cel1 w16 _ _)
            replace VB := (by with_reducible first | exact VB.later hb16 | exact VB.drew.later hb16 | exact (VB.alloc _).later hb16 | exact ((VB.alloc _).alloc _).later hb16 | exact (((VB.alloc _).alloc _).alloc _).later hb16 : Cel1 w16 _ _)
            replace VC := (by with_reducible first | exact VC.later hb16 | exact VC.drew.later hb16 | exact (VC.alloc _).later hb16 | exact ((VC.alloc _).alloc _).later hb16 | exact (((VC.alloc _).alloc _).alloc _).later hb16 : Cel1 w16 _ _)
            replace VA3 := (by with_reducible first | exact VA3.later hb16 | exact VA3.drew.later hb16 | exact (VA3.alloc _).later hb16 | exact ((VA3.alloc _).alloc _).later hb16 | exact (((VA3.alloc _).alloc _).alloc _).later hb16 : Cel1 w16 _ _)
            replace VB3 := (by with_reducible first | exact VB3.later hb16 | exact VB3.drew.later hb16 | exact (VB3.alloc _).later hb16 | exact ((VB3.alloc _).alloc _).later hb16 | exact (((VB3.alloc _).alloc _).alloc _).later hb16 : Cel1 w16 _ _)
            replace VG := (by with_reducible first | exact VG.later hb16 | exact VG.drew.later hb16 | exact (VG.alloc _).later hb16 | exact ((VG.alloc _).alloc _).later hb16 | exact (((VG.alloc _).alloc _).alloc _).later hb16 : Cel2 w16 _ _ _)
            replace C := (by with_reducible first | exact C.later hb16 | exact C.drew.later hb16 | exact (C.alloc _).later hb16 | exact ((C.alloc _).alloc _).later hb16 | exact (((C.alloc _).alloc _).alloc _).later hb16 : OB w16 _ _ _ _)
            replace M := (by with_reducible first | exact M.later hb16 | exact M.drew.later hb16 | exact (M.alloc _).later hb16 | exact ((M.alloc _).alloc _).later hb16 | exact (((M.alloc _).alloc _).alloc _).later hb16 : OB w16 _ _ _ _)
            replace Z := (by with_reducible first | exact Z.later hb16 | exact Z.drew.later hb16 | exact (Z.alloc _).later hb16 | exact ((Z.alloc _).alloc _).later hb16 | exact (((Z.alloc _).alloc _).alloc _).later hb16 : OB w16 _ _ _ _)
            replace hB := (by with_reducible first | exact old_trans hB hb16 | exact old_trans (old_alloc hB _) hb16 | exact old_trans (old_alloc (old_alloc hB _) _) hb16 | exact old_trans (old_alloc (old_alloc (old_alloc hB _) _) _) hb16 : Below w.heap.size w w16)
            have VA0 := VA.1
            have VA1 := VA.2.1
            have VAz := VA.2.2
            have VB0 := VB.1
            have VB1 := VB.2.1
            have VBz := VB.2.2
            have VC0 := VC.1
            have VC1 := VC.2.1
            have VCz := VC.2.2
            have VA30 := VA3.1
            have VA31 := VA3.2.1
            have VA3z := VA3.2.2
            have VB30 := VB3.1
            have VB31 := VB3.2.1
            have VB3z := VB3.2.2
            have VG0 := VG.1
            have VG1 := VG.2.1
            have VGz := VG.2.2.2.2
            have PA := hd (fun w' (hS : w'.cell? ⟨bA, 0, none⟩ = some (.slice ap (cutA at2 gc gd cs).length cp) ∧ w'.cell? ⟨bA + 1, 0, none⟩ = some (.slice aq (cutZ at2 gc gd cs).length cq) ∧ w'.cell? ⟨bC, 0, none⟩ = some (.slice ac cs.length cc)) (hb : Below w16.heap.size w16 w') => (iPathV wd2 _ _ _ _ _ (M.later hb) p2 hp2.out).mono (fun e w'' (k : _ ∧ _) => (⟨k, three_oldH hS k.2⟩ : (_ ∧ _) ∧ (w''.cell? ⟨bA, 0, none⟩ = some (.slice ap (cutA at2 gc gd cs).length cp) ∧ w''.cell? ⟨bA + 1, 0, none⟩ = some (.slice aq (cutZ at2 gc gd cs).length cq) ∧ w''.cell? ⟨bC, 0, none⟩ = some (.slice ac cs.length cc)))))
            have PZ := hd (fun w' (hS : w'.cell? ⟨bA, 0, none⟩ = some (.slice ap (cutA at2 gc gd cs).length cp) ∧ w'.cell? ⟨bA + 1, 0, none⟩ = some (.slice aq (cutZ at2 gc gd cs).length cq) ∧ w'.cell? ⟨bC, 0, none⟩ = some (.slice ac cs.length cc)) (hb : Below w16.heap.size w16 w') => (iPathV wd2 _ _ _ _ _ (Z.later hb) p3 hp3.out).mono (fun e w'' (k : _ ∧ _) => (⟨k, three_oldH hS k.2⟩ : (_ ∧ _) ∧ (w''.cell? ⟨bA, 0, none⟩ = some (.slice ap (cutA at2 gc gd cs).length cp) ∧ w''.cell? ⟨bA + 1, 0, none⟩ = some (.slice aq (cutZ at2 gc gd cs).length cq) ∧ w''.cell? ⟨bC, 0, none⟩ = some (.slice ac cs.length cc)))))
            have PC := hd (fun w' (hS : w'.cell? ⟨bA, 0, none⟩ = some (.slice ap (cutA at2 gc gd cs).length cp) ∧ w'.cell? ⟨bA + 1, 0, none⟩ = some (.slice aq (cutZ at2 gc gd cs).length cq) ∧ w'.cell? ⟨bC, 0, none⟩ = some (.slice ac cs.length cc)) (hb : Below w16.heap.size w16 w') => (iPathV wd2 _ _ _ _ _ (C.later hb) p1 hp1.out).mono (fun e w'' (k : _ ∧ _) => (⟨k, three_oldH hS k.2⟩ : (_ ∧ _) ∧ (w''.cell? ⟨bA, 0, none⟩ = some (.slice ap (cutA at2 gc gd cs).length cp) ∧ w''.cell? ⟨bA + 1, 0, none⟩ = some (.slice aq (cutZ at2 gc gd cs).length cq) ∧ w''.cell? ⟨bC, 0, none⟩ = some (.slice ac cs.length cc)))))
            have g1 : IntKind.i64.wrap (u2 + u3) = u2 + u3 := by rw [IntKind.wrap_i64]; omega
            have g2 : IntKind.i64.wrap (u2 + u3 + 1) = u2 + u3 + 1 := by rw [IntKind.wrap_i64]; omega
            have g3 : IntKind.i64.wrap (p2 + 1) = p2 + 1 := by rw [IntKind.wrap_i64]; omega
            have d2 : decide (p1 < p2 + 1) = false := decide_eq_false (by omega)
            have d3 : decide (p1 < p3) = false := decide_eq_false (by omega)
            cases hM : decide (u1 < 1000000000)
            case false =>
              as_aux_lemma =>
                clear hL n1 n2 n3
                have hk : w16.cell? ⟨bA, 0, none⟩ = some (.slice ap (cutA at2 gc gd cs).length cp) ∧ w16.cell? ⟨bA + 1, 0, none⟩ = some (.slice aq (cutZ at2 gc gd cs).length cq) ∧ w16.cell? ⟨bC, 0, none⟩ = some (.slice ac cs.length cc) := ⟨VA.1, VB.1, VC.1⟩
                go_upto_region 28 with fail
                clear VA0 VA1 VAz VB0 VB1 VBz VC0 VC1 VCz VA30 VA31 VA3z VB30 VB31 VB3z VG0 VG1 VGz
                clear VA VB VC VA3 VB3 VG C M Z
                have hB0 : Below w16.heap.size w16 w16.drew := (Below.refl _ _).drew
                refine wp_region_held_drew (S := fun w' => w'.cell? ⟨bA, 0, none⟩ = some (.slice ap (cutA at2 gc gd cs).length cp) ∧ w'.cell? ⟨bA + 1, 0, none⟩ = some (.slice aq (cutZ at2 gc gd cs).length cq) ∧ w'.cell? ⟨bC, 0, none⟩ = some (.slice ac cs.length cc)) rfl hk ?_
                intro hS
                refine wpAnyH_take (i := 0) (v := ?_) rfl (by kernel_rfl) (by kernel_rfl) (by kernel_rfl) (fun _ _ _ h => h) (Or.inl ⟨by kernel_rfl, ?_⟩) hS ?_
                rotate_left
                · intro w' hS'; obtain ⟨s0, s1, s2⟩ := hS'; go_simp <;> with_reducible rfl
                (try simp only [List.getElem_toArray, List.getElem_cons_zero, Act.put, List.setIfInBounds_toArray, List.set_cons_zero, List.set_cons_succ])
                refine wpAnyH_take (i := 1) (v := ?_) rfl (by kernel_rfl) (by kernel_rfl) (by kernel_rfl) (fun _ _ _ h => h) (Or.inl ⟨by kernel_rfl, ?_⟩) hS ?_
                rotate_left
                · intro w' hS'; obtain ⟨s0, s1, s2⟩ := hS'; go_simp <;> with_reducible rfl
                (try simp only [List.getElem_toArray, List.getElem_cons_succ, List.getElem_cons_zero, Act.put, List.setIfInBounds_toArray, List.set_cons_zero, List.set_cons_succ])
                refine wpAnyH_take (i := 2) (v := ?_) rfl (by kernel_rfl) (by kernel_rfl) (by kernel_rfl) (fun _ _ _ h => h) (Or.inl ⟨by kernel_rfl, ?_⟩) hS ?_
                rotate_left
                · intro w' hS'; obtain ⟨s0, s1, s2⟩ := hS'; go_simp <;> with_reducible rfl
                (try simp only [List.getElem_toArray, List.getElem_cons_succ, List.getElem_cons_zero, Act.put, List.setIfInBounds_toArray, List.set_cons_zero, List.set_cons_succ])
                refine wpAnyH_take (i := 3) (v := undef) rfl (by kernel_rfl) (by kernel_rfl) (by kernel_rfl) (fun _ _ _ h => h) (Or.inr ⟨by kernel_rfl, rfl⟩) hS ?_
                (try simp only [List.getElem_toArray, List.getElem_cons_succ, List.getElem_cons_zero, Act.put, List.setIfInBounds_toArray, List.set_cons_zero, List.set_cons_succ])
                refine wpAnyH_take (i := 4) (v := undef) rfl (by kernel_rfl) (by kernel_rfl) (by kernel_rfl) (fun _ _ _ h => h) (Or.inr ⟨by kernel_rfl, rfl⟩) hS ?_
                (try simp only [List.getElem_toArray, List.getElem_cons_succ, List.getElem_cons_zero, Act.put, List.setIfInBounds_toArray, List.set_cons_zero, List.set_cons_succ])
                refine wpAnyH_take (i := 5) (v := undef) rfl (by kernel_rfl) (by kernel_rfl) (by kernel_rfl) (fun _ _ _ h => h) (Or.inr ⟨by kernel_rfl, rfl⟩) hS ?_
                (try simp only [List.getElem_toArray, List.getElem_cons_succ, List.getElem_cons_zero, Act.put, List.setIfInBounds_toArray, List.set_cons_zero, List.set_cons_succ])
                refine wpAnyH_take (i := 6) (v := undef) rfl (by kernel_rfl) (by kernel_rfl) (by kernel_rfl) (fun _ _ _ h => h) (Or.inr ⟨by kernel_rfl, rfl⟩) hS ?_
                (try simp only [List.getElem_toArray, List.getElem_cons_succ, List.getElem_cons_zero, Act.put, List.setIfInBounds_toArray, List.set_cons_zero, List.set_cons_succ])
                refine wpAnyH_take (i := 7) (v := undef) rfl (by kernel_rfl) (by kernel_rfl) (by kernel_rfl) (fun _ _ _ h => h) (Or.inr ⟨by kernel_rfl, rfl⟩) hS ?_
                (try simp only [List.getElem_toArray, List.getElem_cons_succ, List.getElem_cons_zero, Act.put, List.setIfInBounds_toArray, List.set_cons_zero, List.set_cons_succ])
                refine wpAnyH_take (i := 8) (v := undef) rfl (by kernel_rfl) (by kernel_rfl) (by kernel_rfl) (fun _ _ _ h => h) (Or.inr ⟨by kernel_rfl, rfl⟩) hS ?_
                (try simp only [List.getElem_toArray, List.getElem_cons_succ, List.getElem_cons_zero, Act.put, List.setIfInBounds_toArray, List.set_cons_zero, List.set_cons_succ])
                refine wpAnyH_take (i := 9) (v := ?_) rfl (by kernel_rfl) (by kernel_rfl) (by kernel_rfl) (fun _ _ _ h => h) (Or.inl ⟨by kernel_rfl, ?_⟩) hS ?_
                rotate_left
                · intro w' hS'; obtain ⟨s0, s1, s2⟩ := hS'; go_simp <;> with_reducible rfl
                (try simp only [List.getElem_toArray, List.getElem_cons_succ, List.getElem_cons_zero, Act.put, List.setIfInBounds_toArray, List.set_cons_zero, List.set_cons_succ])
                refine wpAnyH_take (i := 10) (v := ?_) rfl (by kernel_rfl) (by kernel_rfl) (by kernel_rfl) (fun _ _ _ h => h) (Or.inl ⟨by kernel_rfl, ?_⟩) hS ?_
                rotate_left
                · intro w' hS'; obtain ⟨s0, s1, s2⟩ := hS'; go_simp <;> with_reducible rfl
                (try simp only [List.getElem_toArray, List.getElem_cons_succ, List.getElem_cons_zero, Act.put, List.setIfInBounds_toArray, List.set_cons_zero, List.set_cons_succ])
                refine wpAnyH_take (i := 11) (v := ?_) rfl (by kernel_rfl) (by kernel_rfl) (by kernel_rfl) (fun _ _ _ h => h) (Or.inl ⟨by kernel_rfl, ?_⟩) hS ?_
                rotate_left
                · intro w' hS'; obtain ⟨s0, s1, s2⟩ := hS'; go_simp <;> with_reducible rfl
                (try simp only [List.getElem_toArray, List.getElem_cons_succ, List.getElem_cons_zero, Act.put, List.setIfInBounds_toArray, List.set_cons_zero, List.set_cons_succ])
                refine wpAnyH_take (i := 12) (v := ?_) rfl (by kernel_rfl) (by kernel_rfl) (by kernel_rfl) (fun _ _ _ h => h) (Or.inl ⟨by kernel_rfl, ?_⟩) hS ?_
                rotate_left
                · intro w' hS'; obtain ⟨s0, s1, s2⟩ := hS'; go_simp <;> with_reducible rfl
                (try simp only [List.getElem_toArray, List.getElem_cons_succ, List.getElem_cons_zero, Act.put, List.setIfInBounds_toArray, List.set_cons_zero, List.set_cons_succ])
                refine wpAnyH_take (i := 15) (v := ?_) rfl (by kernel_rfl) (by kernel_rfl) (by kernel_rfl) (fun _ _ _ h => h) (Or.inl ⟨by kernel_rfl, ?_⟩) hS ?_
                rotate_left
                · intro w' hS'; obtain ⟨s0, s1, s2⟩ := hS'; go_simp <;> with_reducible rfl
                (try simp only [List.getElem_toArray, List.getElem_cons_succ, List.getElem_cons_zero, Act.put, List.setIfInBounds_toArray, List.set_cons_zero, List.set_cons_succ])
                refine wpAnyH_take (i := 16) (v := ?_) rfl (by kernel_rfl) (by kernel_rfl) (by kernel_rfl) (fun _ _ _ h => h) (Or.inl ⟨by kernel_rfl, ?_⟩) hS ?_
                rotate_left
                · intro w' hS'; obtain ⟨s0, s1, s2⟩ := hS'; go_simp <;> with_reducible rfl
                (try simp only [List.getElem_toArray, List.getElem_cons_succ, List.getElem_cons_zero, Act.put, List.setIfInBounds_toArray, List.set_cons_zero, List.set_cons_succ])
                refine wpAnyH_ready (rs := [13]) (by kernel_rfl) (by simp) ?_
                refine AllReadyH.cons rfl (fun K hK => ?_) AllReadyH.nil
                go_simp
                refine (PA.out _ hS hB0).mono ?_
                rintro e wr1 ⟨⟨rfl, hr1⟩, hc1⟩
                refine hK.out _ _ hc1 ?_
                intro hS1
                clear hK K
                (try simp only [List.getElem_toArray, List.getElem_cons_succ, List.getElem_cons_zero, Act.put, List.setIfInBounds_toArray, List.set_cons_zero, List.set_cons_succ])
                have hB1 := old_trans hB0 hr1
                refine wpAnyH_take (i := 14) (v := ?_) rfl (by kernel_rfl) (by kernel_rfl) (by kernel_rfl) (fun _ _ _ h => h) (Or.inl ⟨by kernel_rfl, ?_⟩) hS1 ?_
                rotate_left
                · intro w' hS'; obtain ⟨s0, s1, s2⟩ := hS'; go_simp <;> with_reducible rfl
                (try simp only [List.getElem_toArray, List.getElem_cons_succ, List.getElem_cons_zero, Act.put, List.setIfInBounds_toArray, List.set_cons_zero, List.set_cons_succ])
                refine wpAnyH_ready (rs := [17]) (by kernel_rfl) (by simp) ?_
                refine AllReadyH.cons rfl (fun K hK => ?_) AllReadyH.nil
                go_simp
                refine (PC.out _ hS1 hB1).mono ?_
                rintro e wr2 ⟨⟨rfl, hr2⟩, hc2⟩
                refine hK.out _ _ hc2 ?_
                intro hS2
                clear hK K
                (try simp only [List.getElem_toArray, List.getElem_cons_succ, List.getElem_cons_zero, Act.put, List.setIfInBounds_toArray, List.set_cons_zero, List.set_cons_succ])
                have hB2 := old_trans hB1 hr2
                refine wpAnyH_take (i := 18) (v := ?_) rfl (by kernel_rfl) (by kernel_rfl) (by kernel_rfl) (fun _ _ _ h => h) (Or.inl ⟨by kernel_rfl, ?_⟩) hS2 ?_
                rotate_left
                · intro w' hS'; obtain ⟨s0, s1, s2⟩ := hS'; go_simp <;> with_reducible rfl
                (try simp only [List.getElem_toArray, List.getElem_cons_succ, List.getElem_cons_zero, Act.put, List.setIfInBounds_toArray, List.set_cons_zero, List.set_cons_succ])
                refine wpAnyH_take (i := 19) (v := ?_) rfl (by kernel_rfl) (by kernel_rfl) (by kernel_rfl) (fun _ _ _ h => h) (Or.inl ⟨by kernel_rfl, ?_⟩) hS2 ?_
                rotate_left
                · intro w' hS'; obtain ⟨s0, s1, s2⟩ := hS'; go_simp <;> with_reducible rfl
                (try simp only [List.getElem_toArray, List.getElem_cons_succ, List.getElem_cons_zero, Act.put, List.setIfInBounds_toArray, List.set_cons_zero, List.set_cons_succ])
                refine wpAnyH_take (i := 20) (v := ?_) rfl (by kernel_rfl) (by kernel_rfl) (by kernel_rfl) (fun _ _ _ h => h) (Or.inl ⟨by kernel_rfl, ?_⟩) hS2 ?_
                rotate_left
                · intro w' hS'; obtain ⟨s0, s1, s2⟩ := hS'; go_simp <;> with_reducible rfl
                (try simp only [List.getElem_toArray, List.getElem_cons_succ, List.getElem_cons_zero, Act.put, List.setIfInBounds_toArray, List.set_cons_zero, List.set_cons_succ])
                refine wpAnyH_take (i := 21) (v := ?_) rfl (by kernel_rfl) (by kernel_rfl) (by kernel_rfl) (fun _ _ _ h => h) (Or.inl ⟨by kernel_rfl, ?_⟩) hS2 ?_
                rotate_left
                · intro w' hS'; obtain ⟨s0, s1, s2⟩ := hS'; go_simp <;> with_reducible rfl
                (try simp only [List.getElem_toArray, List.getElem_cons_succ, List.getElem_cons_zero, Act.put, List.setIfInBounds_toArray, List.set_cons_zero, List.set_cons_succ])
                refine wpAnyH_take (i := 22) (v := ?_) rfl (by kernel_rfl) (by kernel_rfl) (by kernel_rfl) (fun _ _ _ h => h) (Or.inl ⟨by kernel_rfl, ?_⟩) hS2 ?_
                rotate_left
                · intro w' hS'; obtain ⟨s0, s1, s2⟩ := hS'; go_simp <;> with_reducible rfl
                (try simp only [List.getElem_toArray, List.getElem_cons_succ, List.getElem_cons_zero, Act.put, List.setIfInBounds_toArray, List.set_cons_zero, List.set_cons_succ])
                refine wpAnyH_take (i := 24) (v := ?_) rfl (by kernel_rfl) (by kernel_rfl) (by kernel_rfl) (fun _ _ _ h => h) (Or.inl ⟨by kernel_rfl, ?_⟩) hS2 ?_
                rotate_left
                · intro w' hS'; obtain ⟨s0, s1, s2⟩ := hS'; go_simp <;> with_reducible rfl
                (try simp only [List.getElem_toArray, List.getElem_cons_succ, List.getElem_cons_zero, Act.put, List.setIfInBounds_toArray, List.set_cons_zero, List.set_cons_succ])
                refine wpAnyH_take (i := 25) (v := ?_) rfl (by kernel_rfl) (by kernel_rfl) (by kernel_rfl) (fun _ _ _ h => h) (Or.inl ⟨by kernel_rfl, ?_⟩) hS2 ?_
                rotate_left
                · intro w' hS'; obtain ⟨s0, s1, s2⟩ := hS'; go_simp <;> with_reducible rfl
                (try simp only [List.getElem_toArray, List.getElem_cons_succ, List.getElem_cons_zero, Act.put, List.setIfInBounds_toArray, List.set_cons_zero, List.set_cons_succ])
                refine wpAnyH_ready (rs := [23]) (by kernel_rfl) (by simp) ?_
                refine AllReadyH.cons rfl (fun K hK => ?_) AllReadyH.nil
                go_simp
                refine (PZ.out _ hS2 hB2).mono ?_
                rintro e wr3 ⟨⟨rfl, hr3⟩, hc3⟩
                refine hK.out _ _ hc3 ?_
                intro hS3
                clear hK K
                (try simp only [List.getElem_toArray, List.getElem_cons_succ, List.getElem_cons_zero, Act.put, List.setIfInBounds_toArray, List.set_cons_zero, List.set_cons_succ])
                have hB3 := old_trans hB2 hr3
                refine wpAnyH_ready (rs := [26]) (by kernel_rfl) (by simp) ?_
                refine AllReadyH.cons rfl (fun K hK => ?_) AllReadyH.nil
                go_simp
                refine (PC.out _ hS3 hB3).mono ?_
                rintro e wr4 ⟨⟨rfl, hr4⟩, hc4⟩
                refine hK.out _ _ hc4 ?_
                intro hS4
                clear hK K
                (try simp only [List.getElem_toArray, List.getElem_cons_succ, List.getElem_cons_zero, Act.put, List.setIfInBounds_toArray, List.set_cons_zero, List.set_cons_succ])
                have hB4 := old_trans hB3 hr4
                refine wpAnyH_take (i := 27) (v := ?_) rfl (by kernel_rfl) (by kernel_rfl) (by kernel_rfl) (fun _ _ _ h => h) (Or.inl ⟨by kernel_rfl, ?_⟩) hS4 ?_
                rotate_left
                · intro w' hS'; obtain ⟨s0, s1, s2⟩ := hS'; go_simp <;> with_reducible rfl
                (try simp only [List.getElem_toArray, List.getElem_cons_succ, List.getElem_cons_zero, Act.put, List.setIfInBounds_toArray, List.set_cons_zero, List.set_cons_succ])
                refine wpAnyH_take (i := 28) (v := ?_) rfl (by kernel_rfl) (by kernel_rfl) (by kernel_rfl) (fun _ _ _ h => h) (Or.inl ⟨by kernel_rfl, ?_⟩) hS4 ?_
                rotate_left
                · intro w' hS'; obtain ⟨s0, s1, s2⟩ := hS'; go_simp <;> with_reducible rfl
                (try simp only [List.getElem_toArray, List.getElem_cons_succ, List.getElem_cons_zero, Act.put, List.setIfInBounds_toArray, List.set_cons_zero, List.set_cons_succ])
                refine wpAnyH_done (by kernel_rfl) ?_ _
                go_wp2
                go_ret
                exact ⟨by kernel_rfl, old_trans hB hB4⟩
            case true =>
              as_aux_lemma =>
                have d1 : decide (u1 < u2 + u3 + 1) = false := by have := of_decide_eq_true hM; have := hL.1 this; exact decide_eq_false (by omega)
                clear hL n1 n2 n3
                have hk : w16.cell? ⟨bA, 0, none⟩ = some (.slice ap (cutA at2 gc gd cs).length cp) ∧ w16.cell? ⟨bA + 1, 0, none⟩ = some (.slice aq (cutZ at2 gc gd cs).length cq) ∧ w16.cell? ⟨bC, 0, none⟩ = some (.slice ac cs.length cc) := ⟨VA.1, VB.1, VC.1⟩
                go_upto_region 28 with fail
                clear VA0 VA1 VAz VB0 VB1 VBz VC0 VC1 VCz VA30 VA31 VA3z VB30 VB31 VB3z VG0 VG1 VGz
                clear VA VB VC VA3 VB3 VG C M Z
                have hB0 : Below w16.heap.size w16 w16.drew := (Below.refl _ _).drew
                refine wp_region_held_drew (S := fun w' => w'.cell? ⟨bA, 0, none⟩ = some (.slice ap (cutA at2 gc gd cs).length cp) ∧ w'.cell? ⟨bA + 1, 0, none⟩ = some (.slice aq (cutZ at2 gc gd cs).length cq) ∧ w'.cell? ⟨bC, 0, none⟩ = some (.slice ac cs.length cc)) rfl hk ?_
                intro hS
                refine wpAnyH_take (i := 0) (v := ?_) rfl (by kernel_rfl) (by kernel_rfl) (by kernel_rfl) (fun _ _ _ h => h) (Or.inl ⟨by kernel_rfl, ?_⟩) hS ?_
                rotate_left
                · intro w' hS'; obtain ⟨s0, s1, s2⟩ := hS'; go_simp <;> with_reducible rfl
                (try simp only [List.getElem_toArray, List.getElem_cons_zero, Act.put, List.setIfInBounds_toArray, List.set_cons_zero, List.set_cons_succ])
                refine wpAnyH_take (i := 1) (v := ?_) rfl (by kernel_rfl) (by kernel_rfl) (by kernel_rfl) (fun _ _ _ h => h) (Or.inl ⟨by kernel_rfl, ?_⟩) hS ?_
                rotate_left
                · intro w' hS'; obtain ⟨s0, s1, s2⟩ := hS'; go_simp <;> with_reducible rfl
                (try simp only [List.getElem_toArray, List.getElem_cons_succ, List.getElem_cons_zero, Act.put, List.setIfInBounds_toArray, List.set_cons_zero, List.set_cons_succ])
                refine wpAnyH_take (i := 2) (v := ?_) rfl (by kernel_rfl) (by kernel_rfl) (by kernel_rfl) (fun _ _ _ h => h) (Or.inl ⟨by kernel_rfl, ?_⟩) hS ?_
                rotate_left
                · intro w' hS'; obtain ⟨s0, s1, s2⟩ := hS'; go_simp <;> with_reducible rfl
                (try simp only [List.getElem_toArray, List.getElem_cons_succ, List.getElem_cons_zero, Act.put, List.setIfInBounds_toArray, List.set_cons_zero, List.set_cons_succ])
                refine wpAnyH_take (i := 3) (v := ?_) rfl (by kernel_rfl) (by kernel_rfl) (by kernel_rfl) (fun _ _ _ h => h) (Or.inl ⟨by kernel_rfl, ?_⟩) hS ?_
                rotate_left
                · intro w' hS'; obtain ⟨s0, s1, s2⟩ := hS'; go_simp <;> with_reducible rfl
                (try simp only [List.getElem_toArray, List.getElem_cons_succ, List.getElem_cons_zero, Act.put, List.setIfInBounds_toArray, List.set_cons_zero, List.set_cons_succ])
                refine wpAnyH_take (i := 4) (v := ?_) rfl (by kernel_rfl) (by kernel_rfl) (by kernel_rfl) (fun _ _ _ h => h) (Or.inl ⟨by kernel_rfl, ?_⟩) hS ?_
                rotate_left
                · intro w' hS'; obtain ⟨s0, s1, s2⟩ := hS'; go_simp <;> with_reducible rfl
                (try simp only [List.getElem_toArray, List.getElem_cons_succ, List.getElem_cons_zero, Act.put, List.setIfInBounds_toArray, List.set_cons_zero, List.set_cons_succ])
                refine wpAnyH_take (i := 5) (v := ?_) rfl (by kernel_rfl) (by kernel_rfl) (by kernel_rfl) (fun _ _ _ h => h) (Or.inl ⟨by kernel_rfl, ?_⟩) hS ?_
                rotate_left
                · intro w' hS'; obtain ⟨s0, s1, s2⟩ := hS'; go_simp <;> with_reducible rfl
                (try simp only [List.getElem_toArray, List.getElem_cons_succ, List.getElem_cons_zero, Act.put, List.setIfInBounds_toArray, List.set_cons_zero, List.set_cons_succ])
                refine wpAnyH_take (i := 6) (v := ?_) rfl (by kernel_rfl) (by kernel_rfl) (by kernel_rfl) (fun _ _ _ h => h) (Or.inl ⟨by kernel_rfl, ?_⟩) hS ?_
                rotate_left
                · intro w' hS'; obtain ⟨s0, s1, s2⟩ := hS'; go_simp <;> with_reducible rfl
                (try simp only [List.getElem_toArray, List.getElem_cons_succ, List.getElem_cons_zero, Act.put, List.setIfInBounds_toArray, List.set_cons_zero, List.set_cons_succ])
                refine wpAnyH_take (i := 7) (v := ?_) rfl (by kernel_rfl) (by kernel_rfl) (by kernel_rfl) (fun _ _ _ h => h) (Or.inl ⟨by kernel_rfl, ?_⟩) hS ?_
                rotate_left
                · intro w' hS'; obtain ⟨s0, s1, s2⟩ := hS'; go_simp <;> with_reducible rfl
                (try simp only [List.getElem_toArray, List.getElem_cons_succ, List.getElem_cons_zero, Act.put, List.setIfInBounds_toArray, List.set_cons_zero, List.set_cons_succ])
                refine wpAnyH_take (i := 8) (v := ?_) rfl (by kernel_rfl) (by kernel_rfl) (by kernel_rfl) (fun _ _ _ h => h) (Or.inl ⟨by kernel_rfl, ?_⟩) hS ?_
                rotate_left
                · intro w' hS'; obtain ⟨s0, s1, s2⟩ := hS'; go_simp <;> with_reducible rfl
                (try simp only [List.getElem_toArray, List.getElem_cons_succ, List.getElem_cons_zero, Act.put, List.setIfInBounds_toArray, List.set_cons_zero, List.set_cons_succ])
                refine wpAnyH_take (i := 9) (v := ?_) rfl (by kernel_rfl) (by kernel_rfl) (by kernel_rfl) (fun _ _ _ h => h) (Or.inl ⟨by kernel_rfl, ?_⟩) hS ?_
                rotate_left
                · intro w' hS'; obtain ⟨s0, s1, s2⟩ := hS'; go_simp <;> with_reducible rfl
                (try simp only [List.getElem_toArray, List.getElem_cons_succ, List.getElem_cons_zero, Act.put, List.setIfInBounds_toArray, List.set_cons_zero, List.set_cons_succ])
                refine wpAnyH_take (i := 10) (v := ?_) rfl (by kernel_rfl) (by kernel_rfl) (by kernel_rfl) (fun _ _ _ h => h) (Or.inl ⟨by kernel_rfl, ?_⟩) hS ?_
                rotate_left
                · intro w' hS'; obtain ⟨s0, s1, s2⟩ := hS'; go_simp <;> with_reducible rfl
                (try simp only [List.getElem_toArray, List.getElem_cons_succ, List.getElem_cons_zero, Act.put, List.setIfInBounds_toArray, List.set_cons_zero, List.set_cons_succ])
                refine wpAnyH_take (i := 11) (v := ?_) rfl (by kernel_rfl) (by kernel_rfl) (by kernel_rfl) (fun _ _ _ h => h) (Or.inl ⟨by kernel_rfl, ?_⟩) hS ?_
                rotate_left
                · intro w' hS'; obtain ⟨s0, s1, s2⟩ := hS'; go_simp <;> with_reducible rfl
                (try simp only [List.getElem_toArray, List.getElem_cons_succ, List.getElem_cons_zero, Act.put, List.setIfInBounds_toArray, List.set_cons_zero, List.set_cons_succ])
                refine wpAnyH_take (i := 12) (v := ?_) rfl (by kernel_rfl) (by kernel_rfl) (by kernel_rfl) (fun _ _ _ h => h) (Or.inl ⟨by kernel_rfl, ?_⟩) hS ?_
                rotate_left
                · intro w' hS'; obtain ⟨s0, s1, s2⟩ := hS'; go_simp <;> with_reducible rfl
                (try simp only [List.getElem_toArray, List.getElem_cons_succ, List.getElem_cons_zero, Act.put, List.setIfInBounds_toArray, List.set_cons_zero, List.set_cons_succ])
                refine wpAnyH_take (i := 15) (v := ?_) rfl (by kernel_rfl) (by kernel_rfl) (by kernel_rfl) (fun _ _ _ h => h) (Or.inl ⟨by kernel_rfl, ?_⟩) hS ?_
                rotate_left
                · intro w' hS'; obtain ⟨s0, s1, s2⟩ := hS'; go_simp <;> with_reducible rfl
                (try simp only [List.getElem_toArray, List.getElem_cons_succ, List.getElem_cons_zero, Act.put, List.setIfInBounds_toArray, List.set_cons_zero, List.set_cons_succ])
                refine wpAnyH_take (i := 16) (v := ?_) rfl (by kernel_rfl) (by kernel_rfl) (by kernel_rfl) (fun _ _ _ h => h) (Or.inl ⟨by kernel_rfl, ?_⟩) hS ?_
                rotate_left
                · intro w' hS'; obtain ⟨s0, s1, s2⟩ := hS'; go_simp <;> with_reducible rfl
                (try simp only [List.getElem_toArray, List.getElem_cons_succ, List.getElem_cons_zero, Act.put, List.setIfInBounds_toArray, List.set_cons_zero, List.set_cons_succ])
                refine wpAnyH_ready (rs := [13]) (by kernel_rfl) (by simp) ?_
                refine AllReadyH.cons rfl (fun K hK => ?_) AllReadyH.nil
                go_simp
                refine (PA.out _ hS hB0).mono ?_
                rintro e wr1 ⟨⟨rfl, hr1⟩, hc1⟩
                refine hK.out _ _ hc1 ?_
                intro hS1
                clear hK K
                (try simp only [List.getElem_toArray, List.getElem_cons_succ, List.getElem_cons_zero, Act.put, List.setIfInBounds_toArray, List.set_cons_zero, List.set_cons_succ])
                have hB1 := old_trans hB0 hr1
                refine wpAnyH_take (i := 14) (v := ?_) rfl (by kernel_rfl) (by kernel_rfl) (by kernel_rfl) (fun _ _ _ h => h) (Or.inl ⟨by kernel_rfl, ?_⟩) hS1 ?_
                rotate_left
                · intro w' hS'; obtain ⟨s0, s1, s2⟩ := hS'; go_simp <;> with_reducible rfl
                (try simp only [List.getElem_toArray, List.getElem_cons_succ, List.getElem_cons_zero, Act.put, List.setIfInBounds_toArray, List.set_cons_zero, List.set_cons_succ])
                refine wpAnyH_ready (rs := [17]) (by kernel_rfl) (by simp) ?_
                refine AllReadyH.cons rfl (fun K hK => ?_) AllReadyH.nil
                go_simp
                refine (PC.out _ hS1 hB1).mono ?_
                rintro e wr2 ⟨⟨rfl, hr2⟩, hc2⟩
                refine hK.out _ _ hc2 ?_
                intro hS2
                clear hK K
                (try simp only [List.getElem_toArray, List.getElem_cons_succ, List.getElem_cons_zero, Act.put, List.setIfInBounds_toArray, List.set_cons_zero, List.set_cons_succ])
                have hB2 := old_trans hB1 hr2
                refine wpAnyH_take (i := 18) (v := ?_) rfl (by kernel_rfl) (by kernel_rfl) (by kernel_rfl) (fun _ _ _ h => h) (Or.inl ⟨by kernel_rfl, ?_⟩) hS2 ?_
                rotate_left
                · intro w' hS'; obtain ⟨s0, s1, s2⟩ := hS'; go_simp <;> with_reducible rfl
                (try simp only [List.getElem_toArray, List.getElem_cons_succ, List.getElem_cons_zero, Act.put, List.setIfInBounds_toArray, List.set_cons_zero, List.set_cons_succ])
                refine wpAnyH_take (i := 19) (v := ?_) rfl (by kernel_rfl) (by kernel_rfl) (by kernel_rfl) (fun _ _ _ h => h) (Or.inl ⟨by kernel_rfl, ?_⟩) hS2 ?_
                rotate_left
                · intro w' hS'; obtain ⟨s0, s1, s2⟩ := hS'; go_simp <;> with_reducible rfl
                (try simp only [List.getElem_toArray, List.getElem_cons_succ, List.getElem_cons_zero, Act.put, List.setIfInBounds_toArray, List.set_cons_zero, List.set_cons_succ])
                refine wpAnyH_take (i := 20) (v := ?_) rfl (by kernel_rfl) (by kernel_rfl) (by kernel_rfl) (fun _ _ _ h => h) (Or.inl ⟨by kernel_rfl, ?_⟩) hS2 ?_
                rotate_left
                · intro w' hS'; obtain ⟨s0, s1, s2⟩ := hS'; go_simp <;> with_reducible rfl
                (try simp only [List.getElem_toArray, List.getElem_cons_succ, List.getElem_cons_zero, Act.put, List.setIfInBounds_toArray, List.set_cons_zero, List.set_cons_succ])
                refine wpAnyH_take (i := 21) (v := ?_) rfl (by kernel_rfl) (by kernel_rfl) (by kernel_rfl) (fun _ _ _ h => h) (Or.inl ⟨by kernel_rfl, ?_⟩) hS2 ?_
                rotate_left
                · intro w' hS'; obtain ⟨s0, s1, s2⟩ := hS'; go_simp <;> with_reducible rfl
                (try simp only [List.getElem_toArray, List.getElem_cons_succ, List.getElem_cons_zero, Act.put, List.setIfInBounds_toArray, List.set_cons_zero, List.set_cons_succ])
                refine wpAnyH_take (i := 22) (v := ?_) rfl (by kernel_rfl) (by kernel_rfl) (by kernel_rfl) (fun _ _ _ h => h) (Or.inl ⟨by kernel_rfl, ?_⟩) hS2 ?_
                rotate_left
                · intro w' hS'; obtain ⟨s0, s1, s2⟩ := hS'; go_simp <;> with_reducible rfl
                (try simp only [List.getElem_toArray, List.getElem_cons_succ, List.getElem_cons_zero, Act.put, List.setIfInBounds_toArray, List.set_cons_zero, List.set_cons_succ])
                refine wpAnyH_take (i := 24) (v := ?_) rfl (by kernel_rfl) (by kernel_rfl) (by kernel_rfl) (fun _ _ _ h => h) (Or.inl ⟨by kernel_rfl, ?_⟩) hS2 ?_
                rotate_left
                · intro w' hS'; obtain ⟨s0, s1, s2⟩ := hS'; go_simp <;> with_reducible rfl
                (try simp only [List.getElem_toArray, List.getElem_cons_succ, List.getElem_cons_zero, Act.put, List.setIfInBounds_toArray, List.set_cons_zero, List.set_cons_succ])
                refine wpAnyH_take (i := 25) (v := ?_) rfl (by kernel_rfl) (by kernel_rfl) (by kernel_rfl) (fun _ _ _ h => h) (Or.inl ⟨by kernel_rfl, ?_⟩) hS2 ?_
                rotate_left
                · intro w' hS'; obtain ⟨s0, s1, s2⟩ := hS'; go_simp <;> with_reducible rfl
                (try simp only [List.getElem_toArray, List.getElem_cons_succ, List.getElem_cons_zero, Act.put, List.setIfInBounds_toArray, List.set_cons_zero, List.set_cons_succ])
                refine wpAnyH_ready (rs := [23]) (by kernel_rfl) (by simp) ?_
                refine AllReadyH.cons rfl (fun K hK => ?_) AllReadyH.nil
                go_simp
                refine (PZ.out _ hS2 hB2).mono ?_
                rintro e wr3 ⟨⟨rfl, hr3⟩, hc3⟩
                refine hK.out _ _ hc3 ?_
                intro hS3
                clear hK K
                (try simp only [List.getElem_toArray, List.getElem_cons_succ, List.getElem_cons_zero, Act.put, List.setIfInBounds_toArray, List.set_cons_zero, List.set_cons_succ])
                have hB3 := old_trans hB2 hr3
                refine wpAnyH_ready (rs := [26]) (by kernel_rfl) (by simp) ?_
                refine AllReadyH.cons rfl (fun K hK => ?_) AllReadyH.nil
                go_simp
                refine (PC.out _ hS3 hB3).mono ?_
                rintro e wr4 ⟨⟨rfl, hr4⟩, hc4⟩
                refine hK.out _ _ hc4 ?_
                intro hS4
                clear hK K
                (try simp only [List.getElem_toArray, List.getElem_cons_succ, List.getElem_cons_zero, Act.put, List.setIfInBounds_toArray, List.set_cons_zero, List.set_cons_succ])
                have hB4 := old_trans hB3 hr4
                refine wpAnyH_take (i := 27) (v := ?_) rfl (by kernel_rfl) (by kernel_rfl) (by kernel_rfl) (fun _ _ _ h => h) (Or.inl ⟨by kernel_rfl, ?_⟩) hS4 ?_
                rotate_left
                · intro w' hS'; obtain ⟨s0, s1, s2⟩ := hS'; go_simp <;> with_reducible rfl
                (try simp only [List.getElem_toArray, List.getElem_cons_succ, List.getElem_cons_zero, Act.put, List.setIfInBounds_toArray, List.set_cons_zero, List.set_cons_succ])
                refine wpAnyH_take (i := 28) (v := ?_) rfl (by kernel_rfl) (by kernel_rfl) (by kernel_rfl) (fun _ _ _ h => h) (Or.inl ⟨by kernel_rfl, ?_⟩) hS4 ?_
                rotate_left
                · intro w' hS'; obtain ⟨s0, s1, s2⟩ := hS'; go_simp <;> with_reducible rfl
                (try simp only [List.getElem_toArray, List.getElem_cons_succ, List.getElem_cons_zero, Act.put, List.setIfInBounds_toArray, List.set_cons_zero, List.set_cons_succ])
                refine wpAnyH_done (by kernel_rfl) ?_ _
                go_wp2
                go_ret
                exact ⟨by kernel_rfl, old_trans hB hB4⟩
      case true =>
        as_aux_lemma =>
          have d1 : decide (u < x2 + x3 + 1) = false := by have := of_decide_eq_true hM; have := hL.1 this; exact decide_eq_false (by omega)
          clear hL n2 n3
          go_wp2_with fail
          refine (iPathV wd _ _ _ _ _ A y2 hp2.out).mono ?_
          rintro e w9 ⟨rfl, hb9⟩
          clear V0 V1 Vz VA0 VA1 VAz VB0 VB1 VBz VA20 VA21 VA2z VB20 VB21 VB2z
          replace V := (by with_reducible first | exact V.later hb9 | exact V.drew.later hb9 | exact (V.alloc _).later hb9 | exact ((V.alloc _).alloc _).later hb9 | exact (((V.alloc _).alloc _).alloc _).later hb9 : Cel1 w9 _ _)
          replace VA := (by with_reducible first | exact VA.later hb9 | exact VA.drew.later hb9 | exact (VA.alloc _).later hb9 | exact ((VA.alloc _).alloc _).later hb9 | exact (((VA.alloc _).alloc _).alloc _).later hb9 : Cel1 w9 _ _)
          replace VB := (by with_reducible first | exact VB.later hb9 | exact VB.drew.later hb9 | exact (VB.alloc _).later hb9 | exact ((VB.alloc _).alloc _).later hb9 | exact (((VB.alloc _).alloc _).alloc _).later hb9 : Cel1 w9 _ _)
          replace VA2 := (by with_reducible first | exact VA2.later hb9 | exact VA2.drew.later hb9 | exact (VA2.alloc _).later hb9 | exact ((VA2.alloc _).alloc _).later hb9 | exact (((VA2.alloc _).alloc _).alloc _).later hb9 : Cel1 w9 _ _)
          replace VB2 := (by with_reducible first | exact VB2.later hb9 | exact VB2.drew.later hb9 | exact (VB2.alloc _).later hb9 | exact ((VB2.alloc _).alloc _).later hb9 | exact (((VB2.alloc _).alloc _).alloc _).later hb9 : Cel1 w9 _ _)
          replace O := (by with_reducible first | exact O.later hb9 | exact O.drew.later hb9 | exact (O.alloc _).later hb9 | exact ((O.alloc _).alloc _).later hb9 | exact (((O.alloc _).alloc _).alloc _).later hb9 : OB w9 _ _ _ _)
          replace A := (by with_reducible first | exact A.later hb9 | exact A.drew.later hb9 | exact (A.alloc _).later hb9 | exact ((A.alloc _).alloc _).later hb9 | exact (((A.alloc _).alloc _).alloc _).later hb9 : OB w9 _ _ _ _)
          replace Z := (by with_reducible first | exact Z.later hb9 | exact Z.drew.later hb9 | exact (Z.alloc _).later hb9 | exact ((Z.alloc _).alloc _).later hb9 | exact (((Z.alloc _).alloc _).alloc _).later hb9 : OB w9 _ _ _ _)
          replace wb1 := (by with_reducible first | exact wb1.old hb9 | exact (wb1.old ((Below.refl _ _).alloc (Nat.le_refl _) _)).old hb9 | exact ((wb1.old ((Below.refl _ _).alloc (Nat.le_refl _) _)).old ((Below.refl _ _).alloc (Nat.le_refl _) _)).old hb9 : IsCode w9 _ _ _)
          replace hB := (by with_reducible first | exact old_trans hB hb9 | exact old_trans (old_alloc hB _) hb9 | exact old_trans (old_alloc (old_alloc hB _) _) hb9 | exact old_trans (old_alloc (old_alloc (old_alloc hB _) _) _) hb9 : Below w.heap.size w w9)
          have V0 := V.1
          have V1 := V.2.1
          have Vz := V.2.2
          have VA0 := VA.1
          have VA1 := VA.2.1
          have VAz := VA.2.2
          have VB0 := VB.1
          have VB1 := VB.2.1
          have VBz := VB.2.2
          have VA20 := VA2.1
          have VA21 := VA2.2.1
          have VA2z := VA2.2.2
          have VB20 := VB2.1
          have VB21 := VB2.2.1
          have VB2z := VB2.2.2
          go_wp2_with fail
          refine (iPathV wd _ _ _ _ _ Z y3 hp3.out).mono ?_
          rintro e w10 ⟨rfl, hb10⟩
          clear V0 V1 Vz VA0 VA1 VAz VB0 VB1 VBz VA20 VA21 VA2z VB20 VB21 VB2z
          replace V := (by with_reducible first | exact V.later hb10 | exact V.drew.later hb10 | exact (V.alloc _).later hb10 | exact ((V.alloc _).alloc _).later hb10 | exact (((V.alloc _).alloc _).alloc _).later hb10 : Cel1 w10 _ _)
          replace VA := (by with_reducible first | exact VA.later hb10 | exact VA.drew.later hb10 | exact (VA.alloc _).later hb10 | exact ((VA.alloc _).alloc _).later hb10 | exact (((VA.alloc _).alloc _).alloc _).later hb10 : Cel1 w10 _ _)
          replace VB := (by with_reducible first | exact VB.later hb10 | exact VB.drew.later hb10 | exact (VB.alloc _).later hb10 | exact ((VB.alloc _).alloc _).later hb10 | exact (((VB.alloc _).alloc _).alloc _).later hb10 : Cel1 w10 _ _)
          replace VA2 := (by with_reducible first | exact VA2.later hb10 | exact VA2.drew.later hb10 | exact (VA2.alloc _).later hb10 | exact ((VA2.alloc _).alloc _).later hb10 | exact (((VA2.alloc _).alloc _).alloc _).later hb10 : Cel1 w10 _ _)
          replace VB2 := (by with_reducible first | exact VB2.later hb10 | exact VB2.drew.later hb10 | exact (VB2.alloc _).later hb10 | exact ((VB2.alloc _).alloc _).later hb10 | exact (((VB2.alloc _).alloc _).alloc _).later hb10 : Cel1 w10 _ _)
          replace O := (by with_reducible first | exact O.later hb10 | exact O.drew.later hb10 | exact (O.alloc _).later hb10 | exact ((O.alloc _).alloc _).later hb10 | exact (((O.alloc _).alloc _).alloc _).later hb10 : OB w10 _ _ _ _)
          replace A := (by with_reducible first | exact A.later hb10 | exact A.drew.later hb10 | exact (A.alloc _).later hb10 | exact ((A.alloc _).alloc _).later hb10 | exact (((A.alloc _).alloc _).alloc _).later hb10 : OB w10 _ _ _ _)
          replace Z := (by with_reducible first | exact Z.later hb10 | exact Z.drew.later hb10 | exact (Z.alloc _).later hb10 | exact ((Z.alloc _).alloc _).later hb10 | exact (((Z.alloc _).alloc _).alloc _).later hb10 : OB w10 _ _ _ _)
          replace wb1 := (by with_reducible first | exact wb1.old hb10 | exact (wb1.old ((Below.refl _ _).alloc (Nat.le_refl _) _)).old hb10 | exact ((wb1.old ((Below.refl _ _).alloc (Nat.le_refl _) _)).old ((Below.refl _ _).alloc (Nat.le_refl _) _)).old hb10 : IsCode w10 _ _ _)
          replace hB := (by with_reducible first | exact old_trans hB hb10 | exact old_trans (old_alloc hB _) hb10 | exact old_trans (old_alloc (old_alloc hB _) _) hb10 | exact old_trans (old_alloc (old_alloc (old_alloc hB _) _) _) hb10 : Below w.heap.size w w10)
          have V0 := V.1
          have V1 := V.2.1
          have Vz := V.2.2
          have VA0 := VA.1
          have VA1 := VA.2.1
          have VAz := VA.2.2
          have VB0 := VB.1
          have VB1 := VB.2.1
          have VBz := VB.2.2
          have VA20 := VA2.1
          have VA21 := VA2.2.1
          have VA2z := VA2.2.2
          have VB20 := VB2.1
          have VB21 := VB2.2.1
          have VB2z := VB2.2.2
          clear hu2 hu3 hp2 hp3
          generalize hA : w5.heap.size = bA at *
          go_upto_region 19 with fail
          clear V0 V1 Vz VA0 VA1 VAz VB0 VB1 VBz VA20 VA21 VA2z VB20 VB21 VB2z
          clear O V e1 e2 e3 e4 hS hu hq
          have VA0 := VA.1
          have VA1 := VA.2.1
          have VAz := VA.2.2
          have VB0 := VB.1
          have VB1 := VB.2.1
          have VBz := VB.2.2
          clear A Z g1 g2 g3 d2 d3 hM d1
          have la := VA.2.2
          have lb := VB.2.2
          go_wp2_with fail
          refine (drawBoxCut _ a1 len1 cap1 wb1).mono ?_
          rintro e w11 ⟨⟨wd2, ac, cc, cs, at2, gc, gd, hwd2, rfl, hcl, hT2, hg, C⟩, hb11⟩
          clear VA0 VA1 VAz VB0 VB1 VBz
          replace VA := (by with_reducible first | exact VA.later hb11 | exact VA.drew.later hb11 | exact (VA.alloc _).later hb11 | exact ((VA.alloc _).alloc _).later hb11 | exact (((VA.alloc _).alloc _).alloc _).later hb11 : Cel1 w11 _ _)
          replace VB := (by with_reducible first | exact VB.later hb11 | exact VB.drew.later hb11 | exact (VB.alloc _).later hb11 | exact ((VB.alloc _).alloc _).later hb11 | exact (((VB.alloc _).alloc _).alloc _).later hb11 : Cel1 w11 _ _)
          replace wb1 := (by with_reducible first | exact wb1.old hb11 | exact (wb1.old ((Below.refl _ _).alloc (Nat.le_refl _) _)).old hb11 | exact ((wb1.old ((Below.refl _ _).alloc (Nat.le_refl _) _)).old ((Below.refl _ _).alloc (Nat.le_refl _) _)).old hb11 : IsCode w11 _ _ _)
          replace hB := (by with_reducible first | exact old_trans hB hb11 | exact old_trans (old_alloc hB _) hb11 | exact old_trans (old_alloc (old_alloc hB _) _) hb11 | exact old_trans (old_alloc (old_alloc (old_alloc hB _) _) _) hb11 : Below w.heap.size w w11)
          have VA0 := VA.1
          have VA1 := VA.2.1
          have VAz := VA.2.2
          have VB0 := VB.1
          have VB1 := VB.2.1
          have VBz := VB.2.2
          (try simp only [World.size_alloc] at C)
          have ls := hb11.size
          have lx : bA + 1 < w11.heap.size := by omega
          cases hc : cutR wd2 at2 gc gd cs
          case false =>
            as_aux_lemma =>
              go_wp2_with fail
              refine (iCutNo _ _ _ _ _ _ _ ((C.alloc _).alloc _) hcl _ _ hg hc).mono ?_
              rintro e w12 ⟨⟨ap, cp, aq, cq, rfl⟩, hb12⟩
              clear VA0 VA1 VAz VB0 VB1 VBz
              replace VA := (by with_reducible first | exact VA.later hb12 | exact VA.drew.later hb12 | exact (VA.alloc _).later hb12 | exact ((VA.alloc _).alloc _).later hb12 | exact (((VA.alloc _).alloc _).alloc _).later hb12 : Cel1 w12 _ _)
              replace VB := (by with_reducible first | exact VB.later hb12 | exact VB.drew.later hb12 | exact (VB.alloc _).later hb12 | exact ((VB.alloc _).alloc _).later hb12 | exact (((VB.alloc _).alloc _).alloc _).later hb12 : Cel1 w12 _ _)
              replace C := (by with_reducible first | exact C.later hb12 | exact C.drew.later hb12 | exact (C.alloc _).later hb12 | exact ((C.alloc _).alloc _).later hb12 | exact (((C.alloc _).alloc _).alloc _).later hb12 : OB w12 _ _ _ _)
              replace wb1 := (by with_reducible first | exact wb1.old hb12 | exact (wb1.old ((Below.refl _ _).alloc (Nat.le_refl _) _)).old hb12 | exact ((wb1.old ((Below.refl _ _).alloc (Nat.le_refl _) _)).old ((Below.refl _ _).alloc (Nat.le_refl _) _)).old hb12 : IsCode w12 _ _ _)
              replace hB := (by with_reducible first | exact old_trans hB hb12 | exact old_trans (old_alloc hB _) hb12 | exact old_trans (old_alloc (old_alloc hB _) _) hb12 | exact old_trans (old_alloc (old_alloc (old_alloc hB _) _) _) hb12 : Below w.heap.size w w12)
              have VC := ((Cel1.made _ _ rfl (.slice ac cs.length cc) 25).alloc _).later hb12
              (try simp only [World.size_alloc] at VC)
              have VG := (Cel2.made _ _ rfl (.int .i64 gc) (.int .i64 gd) 42).later hb12
              (try simp only [World.size_alloc] at VG)
              have VA0 := VA.1
              have VA1 := VA.2.1
              have VAz := VA.2.2
              have VB0 := VB.1
              have VB1 := VB.2.1
              have VBz := VB.2.2
              have VC0 := VC.1
              have VC1 := VC.2.1
              have VCz := VC.2.2
              have VG0 := VG.1
              have VG1 := VG.2.1
              have VGz := VG.2.2.2.2
              generalize w11.heap.size = bC at *
              go_upto_region 21 with fail
              clear VA0 VA1 VAz VB0 VB1 VBz VC0 VC1 VCz VG0 VG1 VGz
              clear wb1
              replace VA : Cel1 ((w12.setCell ⟨bA, 0, none⟩ (.slice ap 0 cp)).setCell ⟨bA + 1, 0, none⟩ (.slice aq 0 cq)) bA _ := (VA.set _).other ⟨bA + 1, 0, none⟩ (by simp) _
              replace VB : Cel1 ((w12.setCell ⟨bA, 0, none⟩ (.slice ap 0 cp)).setCell ⟨bA + 1, 0, none⟩ (.slice aq 0 cq)) (bA + 1) _ := (VB.other ⟨bA, 0, none⟩ (by simp) _).set _
              replace VC : Cel1 ((w12.setCell ⟨bA, 0, none⟩ (.slice ap 0 cp)).setCell ⟨bA + 1, 0, none⟩ (.slice aq 0 cq)) bC _ := (VC.other ⟨bA, 0, none⟩ (by simp; omega) _).other ⟨bA + 1, 0, none⟩ (by simp; omega) _
              replace VG : Cel2 ((w12.setCell ⟨bA, 0, none⟩ (.slice ap 0 cp)).setCell ⟨bA + 1, 0, none⟩ (.slice aq 0 cq)) (bC + 1) _ _ := (VG.other bA 0 (by omega) _).other (bA + 1) 0 (by omega) _
              replace C : OB ((w12.setCell ⟨bA, 0, none⟩ (.slice ap 0 cp)).setCell ⟨bA + 1, 0, none⟩ (.slice aq 0 cq)) _ _ _ _ := (C.set1 (by omega) _).set1 (by omega) _
              replace hB : Below w.heap.size w ((w12.setCell ⟨bA, 0, none⟩ (.slice ap 0 cp)).setCell ⟨bA + 1, 0, none⟩ (.slice aq 0 cq)) := (hB.setCell (p := ⟨bA, 0, none⟩) (by simp; omega) _).setCell (p := ⟨bA + 1, 0, none⟩) (by simp; omega) _
              generalize (w12.setCell ⟨bA, 0, none⟩ (.slice ap 0 cp)).setCell ⟨bA + 1, 0, none⟩ (.slice aq 0 cq) = w12s at *
              have VA0 := VA.1
              have VA1 := VA.2.1
              have VAz := VA.2.2
              have VB0 := VB.1
              have VB1 := VB.2.1
              have VBz := VB.2.2
              have VC0 := VC.1
              have VC1 := VC.2.1
              have VCz := VC.2.2
              have VG0 := VG.1
              have VG1 := VG.2.1
              have VGz := VG.2.2.2.2
              go_wp2_with fail
              refine (sCutNo _ _ _ _ _ _ _ C hcl _ _ hg hc).mono ?_
              rintro e w13 ⟨⟨ap2, cp2, aq2, cq2, rfl⟩, hb13⟩
              clear VA0 VA1 VAz VB0 VB1 VBz VC0 VC1 VCz VG0 VG1 VGz
              replace VA := (by with_reducible first | exact VA.later hb13 | exact VA.drew.later hb13 | exact (VA.alloc _).later hb13 | exact ((VA.alloc _).alloc _).later hb13 | exact (((VA.alloc _).alloc _).alloc _).later hb13 : Cel1 w13 _ _)
              replace VB := (by with_reducible first | exact VB.later hb13 | exact VB.drew.later hb13 | exact (VB.alloc _).later hb13 | exact ((VB.alloc _).alloc _).later hb13 | exact (((VB.alloc _).alloc _).alloc _).later hb13 : Cel1 w13 _ _)
              replace VC := (by with_reducible first | exact VC.later hb13 | exact VC.drew.later hb13 | exact (VC.alloc _).later hb13 | exact ((VC.alloc _).alloc _).later hb13 | exact (((VC.alloc _).alloc _).alloc _).later hb13 : Cel1 w13 _ _)
              replace VG := (by with_reducible first | exact VG.later hb13 | exact VG.drew.later hb13 | exact (VG.alloc _).later hb13 | exact ((VG.alloc _).alloc _).later hb13 | exact (((VG.alloc _).alloc _).alloc _).later hb13 : Cel2 w13 _ _ _)
              replace C := (by with_reducible first | exact C.later hb13 | exact C.drew.later hb13 | exact (C.alloc _).later hb13 | exact ((C.alloc _).alloc _).later hb13 | exact (((C.alloc _).alloc _).alloc _).later hb13 : OB w13 _ _ _ _)
              replace hB := (by with_reducible first | exact old_trans hB hb13 | exact old_trans (old_alloc hB _) hb13 | exact old_trans (old_alloc (old_alloc hB _) _) hb13 | exact old_trans (old_alloc (old_alloc (old_alloc hB _) _) _) hb13 : Below w.heap.size w w13)
              have VA0 := VA.1
              have VA1 := VA.2.1
              have VAz := VA.2.2
              have VB0 := VB.1
              have VB1 := VB.2.1
              have VBz := VB.2.2
              have VC0 := VC.1
              have VC1 := VC.2.1
              have VCz := VC.2.2
              have VG0 := VG.1
              have VG1 := VG.2.1
              have VGz := VG.2.2.2.2
              go_wp2
              go_ret
              exact ⟨rfl, (by repeat (first | exact hB | exact Below.refl _ _ | refine Below.drew ?_ | refine old_alloc ?_ _ | refine old_trans ?_ (by assumption)))⟩
          case true =>
            go_wp2_with fail
            refine (iCutYes _ _ _ _ _ _ _ ((C.alloc _).alloc _) hcl _ _ hg hc).mono ?_
            rintro e w12 ⟨⟨ap, cp, aq, cq, rfl, M, Z⟩, hb12⟩
            clear VA0 VA1 VAz VB0 VB1 VBz
            replace VA := (by with_reducible first | exact VA.later hb12 | exact VA.drew.later hb12 | exact (VA.alloc _).later hb12 | exact ((VA.alloc _).alloc _).later hb12 | exact (((VA.alloc _).alloc _).alloc _).later hb12 : Cel1 w12 _ _)
            replace VB := (by with_reducible first | exact VB.later hb12 | exact VB.drew.later hb12 | exact (VB.alloc _).later hb12 | exact ((VB.alloc _).alloc _).later hb12 | exact (((VB.alloc _).alloc _).alloc _).later hb12 : Cel1 w12 _ _)
            replace C := (by with_reducible first | exact C.later hb12 | exact C.drew.later hb12 | exact (C.alloc _).later hb12 | exact ((C.alloc _).alloc _).later hb12 | exact (((C.alloc _).alloc _).alloc _).later hb12 : OB w12 _ _ _ _)
            replace wb1 := (by with_reducible first | exact wb1.old hb12 | exact (wb1.old ((Below.refl _ _).alloc (Nat.le_refl _) _)).old hb12 | exact ((wb1.old ((Below.refl _ _).alloc (Nat.le_refl _) _)).old ((Below.refl _ _).alloc (Nat.le_refl _) _)).old hb12 : IsCode w12 _ _ _)
            replace hB := (by with_reducible first | exact old_trans hB hb12 | exact old_trans (old_alloc hB _) hb12 | exact old_trans (old_alloc (old_alloc hB _) _) hb12 | exact old_trans (old_alloc (old_alloc (old_alloc hB _) _) _) hb12 : Below w.heap.size w w12)
            have VC := ((Cel1.made _ _ rfl (.slice ac cs.length cc) 25).alloc _).later hb12
            (try simp only [World.size_alloc] at VC)
            have VG := (Cel2.made _ _ rfl (.int .i64 gc) (.int .i64 gd) 42).later hb12
            (try simp only [World.size_alloc] at VG)
            have VA0 := VA.1
            have VA1 := VA.2.1
            have VAz := VA.2.2
            have VB0 := VB.1
            have VB1 := VB.2.1
            have VBz := VB.2.2
            have VC0 := VC.1
            have VC1 := VC.2.1
            have VCz := VC.2.2
            have VG0 := VG.1
            have VG1 := VG.2.1
            have VGz := VG.2.2.2.2
            (try simp only [World.size_alloc] at M)
            (try simp only [World.size_alloc] at Z)
            generalize w11.heap.size = bC at *
            go_upto_region 21 with fail
            clear VA0 VA1 VAz VB0 VB1 VBz VC0 VC1 VCz VG0 VG1 VGz
            clear wb1
            replace VA : Cel1 ((w12.setCell ⟨bA, 0, none⟩ (.slice ap (cutA at2 gc gd cs).length cp)).setCell ⟨bA + 1, 0, none⟩ (.slice aq (cutZ at2 gc gd cs).length cq)) bA _ := (VA.set _).other ⟨bA + 1, 0, none⟩ (by simp) _
            replace VB : Cel1 ((w12.setCell ⟨bA, 0, none⟩ (.slice ap (cutA at2 gc gd cs).length cp)).setCell ⟨bA + 1, 0, none⟩ (.slice aq (cutZ at2 gc gd cs).length cq)) (bA + 1) _ := (VB.other ⟨bA, 0, none⟩ (by simp) _).set _
            replace VC : Cel1 ((w12.setCell ⟨bA, 0, none⟩ (.slice ap (cutA at2 gc gd cs).length cp)).setCell ⟨bA + 1, 0, none⟩ (.slice aq (cutZ at2 gc gd cs).length cq)) bC _ := (VC.other ⟨bA, 0, none⟩ (by simp; omega) _).other ⟨bA + 1, 0, none⟩ (by simp; omega) _
            replace VG : Cel2 ((w12.setCell ⟨bA, 0, none⟩ (.slice ap (cutA at2 gc gd cs).length cp)).setCell ⟨bA + 1, 0, none⟩ (.slice aq (cutZ at2 gc gd cs).length cq)) (bC + 1) _ _ := (VG.other bA 0 (by omega) _).other (bA + 1) 0 (by omega) _
            replace C : OB ((w12.setCell ⟨bA, 0, none⟩ (.slice ap (cutA at2 gc gd cs).length cp)).setCell ⟨bA + 1, 0, none⟩ (.slice aq (cutZ at2 gc gd cs).length cq)) _ _ _ _ := (C.set1 (by omega) _).set1 (by omega) _
            replace M : OB ((w12.setCell ⟨bA, 0, none⟩ (.slice ap (cutA at2 gc gd cs).length cp)).setCell ⟨bA + 1, 0, none⟩ (.slice aq (cutZ at2 gc gd cs).length cq)) _ _ _ _ := (M.set1 (by omega) _).set1 (by omega) _
            replace Z : OB ((w12.setCell ⟨bA, 0, none⟩ (.slice ap (cutA at2 gc gd cs).length cp)).setCell ⟨bA + 1, 0, none⟩ (.slice aq (cutZ at2 gc gd cs).length cq)) _ _ _ _ := (Z.set1 (by omega) _).set1 (by omega) _
            replace hB : Below w.heap.size w ((w12.setCell ⟨bA, 0, none⟩ (.slice ap (cutA at2 gc gd cs).length cp)).setCell ⟨bA + 1, 0, none⟩ (.slice aq (cutZ at2 gc gd cs).length cq)) := (hB.setCell (p := ⟨bA, 0, none⟩) (by simp; omega) _).setCell (p := ⟨bA + 1, 0, none⟩) (by simp; omega) _
            generalize (w12.setCell ⟨bA, 0, none⟩ (.slice ap (cutA at2 gc gd cs).length cp)).setCell ⟨bA + 1, 0, none⟩ (.slice aq (cutZ at2 gc gd cs).length cq) = w12s at *
            have VA0 := VA.1
            have VA1 := VA.2.1
            have VAz := VA.2.2
            have VB0 := VB.1
            have VB1 := VB.2.1
            have VBz := VB.2.2
            have VC0 := VC.1
            have VC1 := VC.2.1
            have VCz := VC.2.2
            have VG0 := VG.1
            have VG1 := VG.2.1
            have VGz := VG.2.2.2.2
            go_wp2_with fail
            refine (sCutYes _ _ _ _ _ _ _ C hcl _ _ hg hc).mono ?_
            rintro e w13 ⟨⟨ap2, cp2, aq2, cq2, rfl, M2, Z2⟩, hb13⟩
            clear VA0 VA1 VAz VB0 VB1 VBz VC0 VC1 VCz VG0 VG1 VGz
            replace VA := (by with_reducible first | exact VA.later hb13 | exact VA.drew.later hb13 | exact (VA.alloc _).later hb13 | exact ((VA.alloc _).alloc _).later hb13 | exact (((VA.alloc _).alloc _).alloc _).later hb13 : Cel1 w13 _ _)
            replace VB := (by with_reducible first | exact VB.later hb13 | exact VB.drew.later hb13 | exact (VB.alloc _).later hb13 | exact ((VB.alloc _).alloc _).later hb13 | exact (((VB.alloc _).alloc _).alloc _).later hb13 : Cel1 w13 _ _)
            replace VC := (by with_reducible first | exact VC.later hb13 | exact VC.drew.later hb13 | exact (VC.alloc _).later hb13 | exact ((VC.alloc _).alloc _).later hb13 | exact (((VC.alloc _).alloc _).alloc _).later hb13 : Cel1 w13 _ _)
            replace VG := (by with_reducible first | exact VG.later hb13 | exact VG.drew.later hb13 | exact (VG.alloc _).later hb13 | exact ((VG.alloc _).alloc _).later hb13 | exact (((VG.alloc _).alloc _).alloc _).later hb13 : Cel2 w13 _ _ _)
            replace C := (by with_reducible first | exact C.later hb13 | exact C.drew.later hb13 | exact (C.alloc _).later hb13 | exact ((C.alloc _).alloc _).later hb13 | exact (((C.alloc _).alloc _).alloc _).later hb13 : OB w13 _ _ _ _)
            replace M := (by with_reducible first | exact M.later hb13 | exact M.drew.later hb13 | exact (M.alloc _).later hb13 | exact ((M.alloc _).alloc _).later hb13 | exact (((M.alloc _).alloc _).alloc _).later hb13 : OB w13 _ _ _ _)
            replace Z := (by with_reducible first | exact Z.later hb13 | exact Z.drew.later hb13 | exact (Z.alloc _).later hb13 | exact ((Z.alloc _).alloc _).later hb13 | exact (((Z.alloc _).alloc _).alloc _).later hb13 : OB w13 _ _ _ _)
            replace hB := (by with_reducible first | exact old_trans hB hb13 | exact old_trans (old_alloc hB _) hb13 | exact old_trans (old_alloc (old_alloc hB _) _) hb13 | exact old_trans (old_alloc (old_alloc (old_alloc hB _) _) _) hb13 : Below w.heap.size w w13)
            have VA0 := VA.1
            have VA1 := VA.2.1
            have VAz := VA.2.2
            have VB0 := VB.1
            have VB1 := VB.2.1
            have VBz := VB.2.2
            have VC0 := VC.1
            have VC1 := VC.2.1
            have VCz := VC.2.2
            have VG0 := VG.1
            have VG1 := VG.2.1
            have VGz := VG.2.2.2.2
            clear M2 Z2
            have hcl1 := (cut_len at2 gc gd cs).1
            have hcl2 := (cut_len at2 gc gd cs).2
            have hL := cut_less hc
            have n1 := (units_any (wd := wd2) (ps := cs) (by omega))
            have n2 := (units_any (wd := wd2) (ps := cutA at2 gc gd cs) (by omega))
            have n3 := (units_any (wd := wd2) (ps := cutZ at2 gc gd cs) (by omega))
            clear hcl1 hcl2
            generalize hu1 : unitsRow wd2 cs = u1 at *
            generalize hp1 : pathRow wd2 cs = p1 at *
            replace hu1 := hd hu1
            replace hp1 := hd hp1
            generalize hu2 : unitsRow wd2 (cutA at2 gc gd cs) = u2 at *
            generalize hp2 : pathRow wd2 (cutA at2 gc gd cs) = p2 at *
            replace hu2 := hd hu2
            replace hp2 := hd hp2
            generalize hu3 : unitsRow wd2 (cutZ at2 gc gd cs) = u3 at *
            generalize hp3 : pathRow wd2 (cutZ at2 gc gd cs) = p3 at *
            replace hu3 := hd hu3
            replace hp3 := hd hp3
            go_wp2_with fail
            refine (iUnitsV wd2 _ _ _ _ _ ((C.alloc _).alloc _) u1 hu1.out).mono ?_
            rintro e w14 ⟨rfl, hb14⟩
            clear VA0 VA1 VAz VB0 VB1 VBz VC0 VC1 VCz VG0 VG1 VGz
            replace VA := (by with_reducible first | exact VA.later hb14 | exact VA.drew.later hb14 | exact (VA.alloc _).later hb14 | exact ((VA.alloc _).alloc _).later hb14 | exact (((VA.alloc _).alloc _).alloc _).later hb14 : Cel1 w14 _ _)
            replace VB := (by with_reducible first | exact VB.later hb14 | exact VB.drew.later hb14 | exact (VB.alloc _).later hb14 | exact ((VB.alloc _).alloc _).later hb14 | exact (((VB.alloc _).alloc _).alloc _).later hb14 : Cel1 w14 _ _)
            replace VC := (by with_reducible first | exact VC.later hb14 | exact VC.drew.later hb14 | exact (VC.alloc _).later hb14 | exact ((VC.alloc _).alloc _).later hb14 | exact (((VC.alloc _).alloc _).alloc _).later hb14 : Cel1 w14 _ _)
            replace VG := (by with_reducible first | exact VG.later hb14 | exact VG.drew.later hb14 | exact (VG.alloc _).later hb14 | exact ((VG.alloc _).alloc _).later hb14 | exact (((VG.alloc _).alloc _).alloc _).later hb14 : Cel2 w14 _ _ _)
            replace C := (by with_reducible first | exact C.later hb14 | exact C.drew.later hb14 | exact (C.alloc _).later hb14 | exact ((C.alloc _).alloc _).later hb14 | exact (((C.alloc _).alloc _).alloc _).later hb14 : OB w14 _ _ _ _)
            replace M := (by with_reducible first | exact M.later hb14 | exact M.drew.later hb14 | exact (M.alloc _).later hb14 | exact ((M.alloc _).alloc _).later hb14 | exact (((M.alloc _).alloc _).alloc _).later hb14 : OB w14 _ _ _ _)
            replace Z := (by with_reducible first | exact Z.later hb14 | exact Z.drew.later hb14 | exact (Z.alloc _).later hb14 | exact ((Z.alloc _).alloc _).later hb14 | exact (((Z.alloc _).alloc _).alloc _).later hb14 : OB w14 _ _ _ _)
            replace hB := (by with_reducible first | exact old_trans hB hb14 | exact old_trans (old_alloc hB _) hb14 | exact old_trans (old_alloc (old_alloc hB _) _) hb14 | exact old_trans (old_alloc (old_alloc (old_alloc hB _) _) _) hb14 : Below w.heap.size w w14)
            have VA3 := ((Cel1.made _ _ rfl (.slice ap2 (cutA at2 gc gd cs).length cp2) 25).alloc _).later hb14
            (try simp only [World.size_alloc] at VA3)
            have VB3 := (Cel1.made _ _ rfl (.slice aq2 (cutZ at2 gc gd cs).length cq2) 25).later hb14
            (try simp only [World.size_alloc] at VB3)
            have VA0 := VA.1
            have VA1 := VA.2.1
            have VAz := VA.2.2
            have VB0 := VB.1
            have VB1 := VB.2.1
            have VBz := VB.2.2
            have VC0 := VC.1
            have VC1 := VC.2.1
            have VCz := VC.2.2
            have VA30 := VA3.1
            have VA31 := VA3.2.1
            have VA3z := VA3.2.2
            have VB30 := VB3.1
            have VB31 := VB3.2.1
            have VB3z := VB3.2.2
            have VG0 := VG.1
            have VG1 := VG.2.1
            have VGz := VG.2.2.2.2
            go_wp2_with fail
            refine (iUnitsV wd2 _ _ _ _ _ M u2 hu2.out).mono ?_
            rintro e w15 ⟨rfl, hb15⟩
            clear VA0 VA1 VAz VB0 VB1 VBz VC0 VC1 VCz VA30 VA31 VA3z VB30 VB31 VB3z VG0 VG1 VGz
            replace VA := (by with_reducible first | exact VA.later hb15 | exact VA.drew.later hb15 | exact (VA.alloc _).later hb15 | exact ((VA.alloc _).alloc _).later hb15 | exact (((VA.alloc _).alloc _).alloc _).later hb15 : Cel1 w15 _ _)
            replace VB := (by with_reducible first | exact VB.later hb15 | exact VB.drew.later hb15 | exact (VB.alloc _).later hb15 | exact ((VB.alloc _).alloc _).later hb15 | exact (((VB.alloc _).alloc _).alloc _).later hb15 : Cel1 w15 _ _)
            replace VC := (by with_reducible first | exact VC.later hb15 | exact VC.drew.later hb15 | exact (VC.alloc _).later hb15 | exact ((VC.alloc _).alloc _).later hb15 | exact (((VC.alloc _).alloc _).alloc _).later hb15 : Cel1 w15 _ _)
            replace VA3 := (by with_reducible first | exact VA3.later hb15 | exact VA3.drew.later hb15 | exact (VA3.alloc _).later hb15 | exact ((VA3.alloc _).alloc _).later hb15 | exact (((VA3.alloc _).alloc _).alloc _).later hb15 : Cel1 w15 _ _)
            replace VB3 := (by with_reducible first | exact VB3.later hb15 | exact VB3.drew.later hb15 | exact (VB3.alloc _).later hb15 | exact ((VB3.alloc _).alloc _).later hb15 | exact (((VB3.alloc _).alloc _).alloc _).later hb15 : Cel1 w15 _ _)
            replace VG := (by with_reducible first | exact VG.later hb15 | exact VG.drew.later hb15 | exact (VG.alloc _).later hb15 | exact ((VG.alloc _).alloc _).later hb15 | exact (((VG.alloc _).alloc _).alloc _).later hb15 : Cel2 w15 _ _ _)
            replace C := (by with_reducible first | exact C.later hb15 | exact C.drew.later hb15 | exact (C.alloc _).later hb15 | exact ((C.alloc _).alloc _).later hb15 | exact (((C.alloc _).alloc _).alloc _).later hb15 : OB w15 _ _ _ _)
            replace M := (by with_reducible first | exact M.later hb15 | exact M.drew.later hb15 | exact (M.alloc _).later hb15 | exact ((M.alloc _).alloc _).later hb15 | exact (((M.alloc _).alloc _).alloc _).later hb15 : OB w15 _ _ _ _)
            replace Z := (by with_reducible first | exact Z.later hb15 | exact Z.drew.later hb15 | exact (Z.alloc _).later hb15 | exact ((Z.alloc _).alloc _).later hb15 | exact (((Z.alloc _).alloc _).alloc _).later hb15 : OB w15 _ _ _ _)
            replace hB := (by with_reducible first | exact old_trans hB hb15 | exact old_trans (old_alloc hB _) hb15 | exact old_trans (old_alloc (old_alloc hB _) _) hb15 | exact old_trans (old_alloc (old_alloc (old_alloc hB _) _) _) hb15 : Below w.heap.size w w15)
            have VA0 := VA.1
            have VA1 := VA.2.1
            have VAz := VA.2.2
            have VB0 := VB.1
            have VB1 := VB.2.1
            have VBz := VB.2.2
            have VC0 := VC.1
            have VC1 := VC.2.1
            have VCz := VC.2.2
            have VA30 := VA3.1
            have VA31 := VA3.2.1
            have VA3z := VA3.2.2
            have VB30 := VB3.1
            have VB31 := VB3.2.1
            have VB3z := VB3.2.2
            have VG0 := VG.1
            have VG1 := VG.2.1
            have VGz := VG.2.2.2.2
            go_wp2_with fail
            refine (iUnitsV wd2 _ _ _ _ _ Z u3 hu3.out).mono ?_
            rintro e w16 ⟨rfl, hb16⟩
            clear VA0 VA1 VAz VB0 VB1 VBz VC0 VC1 VCz VA30 VA31 VA3z VB30 VB31 VB3z VG0 VG1 VGz
            replace VA := (by with_reducible first | exact VA.later hb16 | exact VA.drew.later hb16 | exact (VA.alloc _).later hb16 | exact ((VA.alloc _).alloc _).later hb16 | exact (((VA.alloc _).alloc _).alloc _).later hb16 : Cel1 w16 _ _)
            replace VB := (by with_reducible first | exact VB.later hb16 | exact VB.drew.later hb16 | exact (VB.alloc _).later hb16 | exact ((VB.alloc _).alloc _).later hb16 | exact (((VB.alloc _).alloc _).alloc _).later hb16 : Cel1 w16 _ _)
            replace VC := (by with_reducible first | exact VC.later hb16 | exact VC.drew.later hb16 | exact (VC.alloc _).later hb16 | exact ((VC.alloc _).alloc _).later hb16 | exact (((VC.alloc _).alloc _).alloc _).later hb16 : Cel1 w16 _ _)
            replace VA3 := (by with_reducible first | exact VA3.later hb16 | exact VA3.drew.later hb16 | exact (VA3.alloc _).later hb16 | exact ((VA3.alloc _).alloc _).later hb16 | exact (((VA3.alloc _).alloc _).alloc _).later hb16 : Cel1 w16 _ _)
            replace VB3 := (by with_reducible first | exact VB3.later hb16 | exact VB3.drew.later hb16 | exact (VB3.alloc _).later hb16 | exact ((VB3.alloc _).alloc _).later hb16 | exact (((VB3.alloc _).alloc _).alloc _).later hb16 : Cel1 w16 _ _)
            replace VG := (by with_reducible first | exact VG.later hb16 | exact VG.drew.later hb16 | exact (VG.alloc _).later hb16 | exact ((VG.alloc _).alloc _).later hb16 | exact (((VG.alloc _).alloc _).alloc _).later hb16 : Cel2 w16 _ _ _)
            replace C := (by with_reducible first | exact C.later hb16 | exact C.drew.later hb16 | exact (C.alloc _).later hb16 | exact ((C.alloc _).alloc _).later hb16 | exact (((C.alloc _).alloc _).alloc _).later hb16 : OB w16 _ _ _ _)
            replace M := (by with_reducible first | exact M.later hb16 | exact M.drew.later hb16 | exact (M.alloc _).later hb16 | exact ((M.alloc _).alloc _).later hb16 | exact (((M.alloc _).alloc _).alloc _).later hb16 : OB w16 _ _ _ _)
            replace Z := (by with_reducible first | exact Z.later hb16 | exact Z.drew.later hb16 | exact (Z.alloc _).later hb16 | exact ((Z.alloc _).alloc _).later hb16 | exact (((Z.alloc _).alloc _).alloc _).later hb16 : OB w16 _ _ _ _)
            replace hB := (by with_reducible first | exact old_trans hB hb16 | exact old_trans (old_alloc hB _) hb16 | exact old_trans (old_alloc (old_alloc hB _) _) hb16 | exact old_trans (old_alloc (old_alloc (old_alloc hB _) _) _) hb16 : Below w.heap.size w w16)
            have VA0 := VA.1
            have VA1 := VA.2.1
            have VAz := VA.2.2
            have VB0 := VB.1
            have VB1 := VB.2.1
            have VBz := VB.2.2
            have VC0 := VC.1
            have VC1 := VC.2.1
            have VCz := VC.2.2
            have VA30 := VA3.1
            have VA31 := VA3.2.1
            have VA3z := VA3.2.2
            have VB30 := VB3.1
            have VB31 := VB3.2.1
            have VB3z := VB3.2.2
            have VG0 := VG.1
            have VG1 := VG.2.1
            have VGz := VG.2.2.2.2
            have PA := hd (fun w' (hS : w'.cell? ⟨bA, 0, none⟩ = some (.slice ap (cutA at2 gc gd cs).length cp) ∧ w'.cell? ⟨bA + 1, 0, none⟩ = some (.slice aq (cutZ at2 gc gd cs).length cq) ∧ w'.cell? ⟨bC, 0, none⟩ = some (.slice ac cs.length cc)) (hb : Below w16.heap.size w16 w') => (iPathV wd2 _ _ _ _ _ (M.later hb) p2 hp2.out).mono (fun e w'' (k : _ ∧ _) => (⟨k, three_oldH hS k.2⟩ : (_ ∧ _) ∧ (w''.cell? ⟨bA, 0, none⟩ = some (.slice ap (cutA at2 gc gd cs).length cp) ∧ w''.cell? ⟨bA + 1, 0, none⟩ = some (.slice aq (cutZ at2 gc gd cs).length cq) ∧ w''.cell? ⟨bC, 0, none⟩ = some (.slice ac cs.length cc)))))
            have PZ := hd (fun w' (hS : w'.cell? ⟨bA, 0, none⟩ = some (.slice ap (cutA at2 gc gd cs).length cp) ∧ w'.cell? ⟨bA + 1, 0, none⟩ = some (.slice aq (cutZ at2 gc gd cs).length cq) ∧ w'.cell? ⟨bC, 0, none⟩ = some (.slice ac cs.length cc)) (hb : Below w16.heap.size w16 w') => (iPathV wd2 _ _ _ _ _ (Z.later hb) p3 hp3.out).mono (fun e w'' (k : _ ∧ _) => (⟨k, three_oldH hS k.2⟩ : (_ ∧ _) ∧ (w''.cell? ⟨bA, 0, none⟩ = some (.slice ap (cutA at2 gc gd cs).length cp) ∧ w''.cell? ⟨bA + 1, 0, none⟩ = some (.slice aq (cutZ at2 gc gd cs).length cq) ∧ w''.cell? ⟨bC, 0, none⟩ = some (.slice ac cs.length cc)))))
            have PC := hd (fun w' (hS : w'.cell? ⟨bA, 0, none⟩ = some (.slice ap (cutA at2 gc gd cs).length cp) ∧ w'.cell? ⟨bA + 1, 0, none⟩ = some (.slice aq (cutZ at2 gc gd cs).length cq) ∧ w'.cell? ⟨bC, 0, none⟩ = some (.slice ac cs.length cc)) (hb : Below w16.heap.size w16 w') => (iPathV wd2 _ _ _ _ _ (C.later hb) p1 hp1.out).mono (fun e w'' (k : _ ∧ _) => (⟨k, three_oldH hS k.2⟩ : (_ ∧ _) ∧ (w''.cell? ⟨bA, 0, none⟩ = some (.slice ap (cutA at2 gc gd cs).length cp) ∧ w''.cell? ⟨bA + 1, 0, none⟩ = some (.slice aq (cutZ at2 gc gd cs).length cq) ∧ w''.cell? ⟨bC, 0, none⟩ = some (.slice ac cs.length cc)))))
            have g1 : IntKind.i64.wrap (u2 + u3) = u2 + u3 := by rw [IntKind.wrap_i64]; omega
            have g2 : IntKind.i64.wrap (u2 + u3 + 1) = u2 + u3 + 1 := by rw [IntKind.wrap_i64]; omega
            have g3 : IntKind.i64.wrap (p2 + 1) = p2 + 1 := by rw [IntKind.wrap_i64]; omega
            have d2 : decide (p1 < p2 + 1) = false := decide_eq_false (by omega)
            have d3 : decide (p1 < p3) = false := decide_eq_false (by omega)
            cases hM : decide (u1 < 1000000000)
            case false =>
              as_aux_lemma =>
                clear hL n1 n2 n3
                have hk : w16.cell? ⟨bA, 0, none⟩ = some (.slice ap (cutA at2 gc gd cs).length cp) ∧ w16.cell? ⟨bA + 1, 0, none⟩ = some (.slice aq (cutZ at2 gc gd cs).length cq) ∧ w16.cell? ⟨bC, 0, none⟩ = some (.slice ac cs.length cc) := ⟨VA.1, VB.1, VC.1⟩
                go_upto_region 28 with fail
                clear VA0 VA1 VAz VB0 VB1 VBz VC0 VC1 VCz VA30 VA31 VA3z VB30 VB31 VB3z VG0 VG1 VGz
                clear VA VB VC VA3 VB3 VG C M Z
                have hB0 : Below w16.heap.size w16 w16.drew := (Below.refl _ _).drew
                refine wp_region_held_drew (S := fun w' => w'.cell? ⟨bA, 0, none⟩ = some (.slice ap (cutA at2 gc gd cs).length cp) ∧ w'.cell? ⟨bA + 1, 0, none⟩ = some (.slice aq (cutZ at2 gc gd cs).length cq) ∧ w'.cell? ⟨bC, 0, none⟩ = some (.slice ac cs.length cc)) rfl hk ?_
                intro hS
                refine wpAnyH_take (i := 0) (v := ?_) rfl (by kernel_rfl) (by kernel_rfl) (by kernel_rfl) (fun _ _ _ h => h) (Or.inl ⟨by kernel_rfl, ?_⟩) hS ?_
                rotate_left
                · intro w' hS'; obtain ⟨s0, s1, s2⟩ := hS'; go_simp <;> with_reducible rfl
                (try simp only [List.getElem_toArray, List.getElem_cons_zero, Act.put, List.setIfInBounds_toArray, List.set_cons_zero, List.set_cons_succ])
                refine wpAnyH_take (i := 1) (v := ?_) rfl (by kernel_rfl) (by kernel_rfl) (by kernel_rfl) (fun _ _ _ h => h) (Or.inl ⟨by kernel_rfl, ?_⟩) hS ?_
                rotate_left
                · intro w' hS'; obtain ⟨s0, s1, s2⟩ := hS'; go_simp <;> with_reducible rfl
                (try simp only [List.getElem_toArray, List.getElem_cons_succ, List.getElem_cons_zero, Act.put, List.setIfInBounds_toArray, List.set_cons_zero, List.set_cons_succ])
                refine wpAnyH_take (i := 2) (v := ?_) rfl (by kernel_rfl) (by kernel_rfl) (by kernel_rfl) (fun _ _ _ h => h) (Or.inl ⟨by kernel_rfl, ?_⟩) hS ?_
                rotate_left
                · intro w' hS'; obtain ⟨s0, s1, s2⟩ := hS'; go_simp <;> with_reducible rfl
                (try simp only [List.getElem_toArray, List.getElem_cons_succ, List.getElem_cons_zero, Act.put, List.setIfInBounds_toArray, List.set_cons_zero, List.set_cons_succ])
                refine wpAnyH_take (i := 3) (v := undef) rfl (by kernel_rfl) (by kernel_rfl) (by kernel_rfl) (fun _ _ _ h => h) (Or.inr ⟨by kernel_rfl, rfl⟩) hS ?_
                (try simp only [List.getElem_toArray, List.getElem_cons_succ, List.getElem_cons_zero, Act.put, List.setIfInBounds_toArray, List.set_cons_zero, List.set_cons_succ])
                refine wpAnyH_take (i := 4) (v := undef) rfl (by kernel_rfl) (by kernel_rfl) (by kernel_rfl) (fun _ _ _ h => h) (Or.inr ⟨by kernel_rfl, rfl⟩) hS ?_
                (try simp only [List.getElem_toArray, List.getElem_cons_succ, List.getElem_cons_zero, Act.put, List.setIfInBounds_toArray, List.set_cons_zero, List.set_cons_succ])
                refine wpAnyH_take (i := 5) (v := undef) rfl (by kernel_rfl) (by kernel_rfl) (by kernel_rfl) (fun _ _ _ h => h) (Or.inr ⟨by kernel_rfl, rfl⟩) hS ?_
                (try simp only [List.getElem_toArray, List.getElem_cons_succ, List.getElem_cons_zero, Act.put, List.setIfInBounds_toArray, List.set_cons_zero, List.set_cons_succ])
                refine wpAnyH_take (i := 6) (v := undef) rfl (by kernel_rfl) (by kernel_rfl) (by kernel_rfl) (fun _ _ _ h => h) (Or.inr ⟨by kernel_rfl, rfl⟩) hS ?_
                (try simp only [List.getElem_toArray, List.getElem_cons_succ, List.getElem_cons_zero, Act.put, List.setIfInBounds_toArray, List.set_cons_zero, List.set_cons_succ])
                refine wpAnyH_take (i := 7) (v := undef) rfl (by kernel_rfl) (by kernel_rfl) (by kernel_rfl) (fun _ _ _ h => h) (Or.inr ⟨by kernel_rfl, rfl⟩) hS ?_
                (try simp only [List.getElem_toArray, List.getElem_cons_succ, List.getElem_cons_zero, Act.put, List.setIfInBounds_toArray, List.set_cons_zero, List.set_cons_succ])
                refine wpAnyH_take (i := 8) (v := undef) rfl (by kernel_rfl) (by kernel_rfl) (by kernel_rfl) (fun _ _ _ h => h) (Or.inr ⟨by kernel_rfl, rfl⟩) hS ?_
                (try simp only [List.getElem_toArray, List.getElem_cons_succ, List.getElem_cons_zero, Act.put, List.setIfInBounds_toArray, List.set_cons_zero, List.set_cons_succ])
                refine wpAnyH_take (i := 9) (v := ?_) rfl (by kernel_rfl) (by kernel_rfl) (by kernel_rfl) (fun _ _ _ h => h) (Or.inl ⟨by kernel_rfl, ?_⟩) hS ?_
                rotate_left
                · intro w' hS'; obtain ⟨s0, s1, s2⟩ := hS'; go_simp <;> with_reducible rfl
                (try simp only [List.getElem_toArray, List.getElem_cons_succ, List.getElem_cons_zero, Act.put, List.setIfInBounds_toArray, List.set_cons_zero, List.set_cons_succ])
                refine wpAnyH_take (i := 10) (v := ?_) rfl (by kernel_rfl) (by kernel_rfl) (by kernel_rfl) (fun _ _ _ h => h) (Or.inl ⟨by kernel_rfl, ?_⟩) hS ?_
                rotate_left
                · intro w' hS'; obtain ⟨s0, s1, s2⟩ := hS'; go_simp <;> with_reducible rfl
                (try simp only [List.getElem_toArray, List.getElem_cons_succ, List.getElem_cons_zero, Act.put, List.setIfInBounds_toArray, List.set_cons_zero, List.set_cons_succ])
                refine wpAnyH_take (i := 11) (v := ?_) rfl (by kernel_rfl) (by kernel_rfl) (by kernel_rfl) (fun _ _ _ h => h) (Or.inl ⟨by kernel_rfl, ?_⟩) hS ?_
                rotate_left
                · intro w' hS'; obtain ⟨s0, s1, s2⟩ := hS'; go_simp <;> with_reducible rfl
                (try simp only [List.getElem_toArray, List.getElem_cons_succ, List.getElem_cons_zero, Act.put, List.setIfInBounds_toArray, List.set_cons_zero, List.set_cons_succ])
                refine wpAnyH_take (i := 12) (v := ?_) rfl (by kernel_rfl) (by kernel_rfl) (by kernel_rfl) (fun _ _ _ h => h) (Or.inl ⟨by kernel_rfl, ?_⟩) hS ?_
                rotate_left
                · intro w' hS'; obtain ⟨s0, s1, s2⟩ := hS'; go_simp <;> with_reducible rfl
                (try simp only [List.getElem_toArray, List.getElem_cons_succ, List.getElem_cons_zero, Act.put, List.setIfInBounds_toArray, List.set_cons_zero, List.set_cons_succ])
                refine wpAnyH_take (i := 15) (v := ?_) rfl (by kernel_rfl) (by kernel_rfl) (by kernel_rfl) (fun _ _ _ h => h) (Or.inl ⟨by kernel_rfl, ?_⟩) hS ?_
                rotate_left
                · intro w' hS'; obtain ⟨s0, s1, s2⟩ := hS'; go_simp <;> with_reducible rfl
                (try simp only [List.getElem_toArray, List.getElem_cons_succ, List.getElem_cons_zero, Act.put, List.setIfInBounds_toArray, List.set_cons_zero, List.set_cons_succ])
                refine wpAnyH_take (i := 16) (v := ?_) rfl (by kernel_rfl) (by kernel_rfl) (by kernel_rfl) (fun _ _ _ h => h) (Or.inl ⟨by kernel_rfl, ?_⟩) hS ?_
                rotate_left
                · intro w' hS'; obtain ⟨s0, s1, s2⟩ := hS'; go_simp <;> with_reducible rfl
                (try simp only [List.getElem_toArray, List.getElem_cons_succ, List.getElem_cons_zero, Act.put, List.setIfInBounds_toArray, List.set_cons_zero, List.set_cons_succ])
                refine wpAnyH_ready (rs := [13]) (by kernel_rfl) (by simp) ?_
                refine AllReadyH.cons rfl (fun K hK => ?_) AllReadyH.nil
                go_simp
                refine (PA.out _ hS hB0).mono ?_
                rintro e wr1 ⟨⟨rfl, hr1⟩, hc1⟩
                refine hK.out _ _ hc1 ?_
                intro hS1
                clear hK K
                (try simp only [List.getElem_toArray, List.getElem_cons_succ, List.getElem_cons_zero, Act.put, List.setIfInBounds_toArray, List.set_cons_zero, List.set_cons_succ])
                have hB1 := old_trans hB0 hr1
                refine wpAnyH_take (i := 14) (v := ?_) rfl (by kernel_rfl) (by kernel_rfl) (by kernel_rfl) (fun _ _ _ h => h) (Or.inl ⟨by kernel_rfl, ?_⟩) hS1 ?_
                rotate_left
                · intro w' hS'; obtain ⟨s0, s1, s2⟩ := hS'; go_simp <;> with_reducible rfl
                (try simp only [List.getElem_toArray, List.getElem_cons_succ, List.getElem_cons_zero, Act.put, List.setIfInBounds_toArray, List.set_cons_zero, List.set_cons_succ])
                refine wpAnyH_ready (rs := [17]) (by kernel_rfl) (by simp) ?_
                refine AllReadyH.cons rfl (fun K hK => ?_) AllReadyH.nil
                go_simp
                refine (PC.out _ hS1 hB1).mono ?_
                rintro e wr2 ⟨⟨rfl, hr2⟩, hc2⟩
                refine hK.out _ _ hc2 ?_
                intro hS2
                clear hK K
                (try simp only [List.getElem_toArray, List.getElem_cons_succ, List.getElem_cons_zero, Act.put, List.setIfInBounds_toArray, List.set_cons_zero, List.set_cons_succ])
                have hB2 := old_trans hB1 hr2
                refine wpAnyH_take (i := 18) (v := ?_) rfl (by kernel_rfl) (by kernel_rfl) (by kernel_rfl) (fun _ _ _ h => h) (Or.inl ⟨by kernel_rfl, ?_⟩) hS2 ?_
                rotate_left
                · intro w' hS'; obtain ⟨s0, s1, s2⟩ := hS'; go_simp <;> with_reducible rfl
                (try simp only [List.getElem_toArray, List.getElem_cons_succ, List.getElem_cons_zero, Act.put, List.setIfInBounds_toArray, List.set_cons_zero, List.set_cons_succ])
                refine wpAnyH_take (i := 19) (v := ?_) rfl (by kernel_rfl) (by kernel_rfl) (by kernel_rfl) (fun _ _ _ h => h) (Or.inl ⟨by kernel_rfl, ?_⟩) hS2 ?_
                rotate_left
                · intro w' hS'; obtain ⟨s0, s1, s2⟩ := hS'; go_simp <;> with_reducible rfl
                (try simp only [List.getElem_toArray, List.getElem_cons_succ, List.getElem_cons_zero, Act.put, List.setIfInBounds_toArray, List.set_cons_zero, List.set_cons_succ])
                refine wpAnyH_take (i := 20) (v := ?_) rfl (by kernel_rfl) (by kernel_rfl) (by kernel_rfl) (fun _ _ _ h => h) (Or.inl ⟨by kernel_rfl, ?_⟩) hS2 ?_
                rotate_left
                · intro w' hS'; obtain ⟨s0, s1, s2⟩ := hS'; go_simp <;> with_reducible rfl
                (try simp only [List.getElem_toArray, List.getElem_cons_succ, List.getElem_cons_zero, Act.put, List.setIfInBounds_toArray, List.set_cons_zero, List.set_cons_succ])
                refine wpAnyH_take (i := 21) (v := ?_) rfl (by kernel_rfl) (by kernel_rfl) (by kernel_rfl) (fun _ _ _ h => h) (Or.inl ⟨by kernel_rfl, ?_⟩) hS2 ?_
                rotate_left
                · intro w' hS'; obtain ⟨s0, s1, s2⟩ := hS'; go_simp <;> with_reducible rfl
                (try simp only [List.getElem_toArray, List.getElem_cons_succ, List.getElem_cons_zero, Act.put, List.setIfInBounds_toArray, List.set_cons_zero, List.set_cons_succ])
                refine wpAnyH_take (i := 22) (v := ?_) rfl (by kernel_rfl) (by kernel_rfl) (by kernel_rfl) (fun _ _ _ h => h) (Or.inl ⟨by kernel_rfl, ?_⟩) hS2 ?_
                rotate_left
                · intro w' hS'; obtain ⟨s0, s1, s2⟩ := hS'; go_simp <;> with_reducible rfl
                (try simp only [List.getElem_toArray, List.getElem_cons_succ, List.getElem_cons_zero, Act.put, List.setIfInBounds_toArray, List.set_cons_zero, List.set_cons_succ])
                refine wpAnyH_take (i := 24) (v := ?_) rfl (by kernel_rfl) (by kernel_rfl) (by kernel_rfl) (fun _ _ _ h => h) (Or.inl ⟨by kernel_rfl, ?_⟩) hS2 ?_
                rotate_left
                · intro w' hS'; obtain ⟨s0, s1, s2⟩ := hS'; go_simp <;> with_reducible rfl
                (try simp only [List.getElem_toArray, List.getElem_cons_succ, List.getElem_cons_zero, Act.put, List.setIfInBounds_toArray, List.set_cons_zero, List.set_cons_succ])
                refine wpAnyH_take (i := 25) (v := ?_) rfl (by kernel_rfl) (by kernel_rfl) (by kernel_rfl) (fun _ _ _ h => h) (Or.inl ⟨by kernel_rfl, ?_⟩) hS2 ?_
                rotate_left
                · intro w' hS'; obtain ⟨s0, s1, s2⟩ := hS'; go_simp <;> with_reducible rfl
                (try simp only [List.getElem_toArray, List.getElem_cons_succ, List.getElem_cons_zero, Act.put, List.setIfInBounds_toArray, List.set_cons_zero, List.set_cons_succ])
                refine wpAnyH_ready (rs := [23]) (by kernel_rfl) (by simp) ?_
                refine AllReadyH.cons rfl (fun K hK => ?_) AllReadyH.nil
                go_simp
                refine (PZ.out _ hS2 hB2).mono ?_
                rintro e wr3 ⟨⟨rfl, hr3⟩, hc3⟩
                refine hK.out _ _ hc3 ?_
                intro hS3
                clear hK K
                (try simp only [List.getElem_toArray, List.getElem_cons_succ, List.getElem_cons_zero, Act.put, List.setIfInBounds_toArray, List.set_cons_zero, List.set_cons_succ])
                have hB3 := old_trans hB2 hr3
                refine wpAnyH_ready (rs := [26]) (by kernel_rfl) (by simp) ?_
                refine AllReadyH.cons rfl (fun K hK => ?_) AllReadyH.nil
                go_simp
                refine (PC.out _ hS3 hB3).mono ?_
                rintro e wr4 ⟨⟨rfl, hr4⟩, hc4⟩
                refine hK.out _ _ hc4 ?_
                intro hS4
                clear hK K
                (try simp only [List.getElem_toArray, List.getElem_cons_succ, List.getElem_cons_zero, Act.put, List.setIfInBounds_toArray, List.set_cons_zero, List.set_cons_succ])
                have hB4 := old_trans hB3 hr4
                refine wpAnyH_take (i := 27) (v := ?_) rfl (by kernel_rfl) (by kernel_rfl) (by kernel_rfl) (fun _ _ _ h => h) (Or.inl ⟨by kernel_rfl, ?_⟩) hS4 ?_
                rotate_left
                · intro w' hS'; obtain ⟨s0, s1, s2⟩ := hS'; go_simp <;> with_reducible rfl
                (try simp only [List.getElem_toArray, List.getElem_cons_succ, List.getElem_cons_zero, Act.put, List.setIfInBounds_toArray, List.set_cons_zero, List.set_cons_succ])
                refine wpAnyH_take (i := 28) (v := ?_) rfl (by kernel_rfl) (by kernel_rfl) (by kernel_rfl) (fun _ _ _ h => h) (Or.inl ⟨by kernel_rfl, ?_⟩) hS4 ?_
                rotate_left
                · intro w' hS'; obtain ⟨s0, s1, s2⟩ := hS'; go_simp <;> with_reducible rfl
                (try simp only [List.getElem_toArray, List.getElem_cons_succ, List.getElem_cons_zero, Act.put, List.setIfInBounds_toArray, List.set_cons_zero, List.set_cons_succ])
                refine wpAnyH_done (by kernel_rfl) ?_ _
                go_wp2
                go_ret
                exact ⟨by kernel_rfl, old_trans hB hB4⟩
            case true =>
              as_aux_lemma =>
                have d1 : decide (u1 < u2 + u3 + 1) = false := by have := of_decide_eq_true hM; have := hL.1 this; exact decide_eq_false (by omega)
                clear hL n1 n2 n3
                have hk : w16.cell? ⟨bA, 0, none⟩ = some (.slice ap (cutA at2 gc gd cs).length cp) ∧ w16.cell? ⟨bA + 1, 0, none⟩ = some (.slice aq (cutZ at2 gc gd cs).length cq) ∧ w16.cell? ⟨bC, 0, none⟩ = some (.slice ac cs.length cc) := ⟨VA.1, VB.1, VC.1⟩
                go_upto_region 28 with fail
                clear VA0 VA1 VAz VB0 VB1 VBz VC0 VC1 VCz VA30 VA31 VA3z VB30 VB31 VB3z VG0 VG1 VGz
                clear VA VB VC VA3 VB3 VG C M Z
                have hB0 : Below w16.heap.size w16 w16.drew := (Below.refl _ _).drew
                refine wp_region_held_drew (S := fun w' => w'.cell? ⟨bA, 0, none⟩ = some (.slice ap (cutA at2 gc gd cs).length cp) ∧ w'.cell? ⟨bA + 1, 0, none⟩ = some (.slice aq (cutZ at2 gc gd cs).length cq) ∧ w'.cell? ⟨bC, 0, none⟩ = some (.slice ac cs.length cc)) rfl hk ?_
                intro hS
                refine wpAnyH_take (i := 0) (v := ?_) rfl (by kernel_rfl) (by kernel_rfl) (by kernel_rfl) (fun _ _ _ h => h) (Or.inl ⟨by kernel_rfl, ?_⟩) hS ?_
                rotate_left
                · intro w' hS'; obtain ⟨s0, s1, s2⟩ := hS'; go_simp <;> with_reducible rfl
                (try simp only [List.getElem_toArray, List.getElem_cons_zero, Act.put, List.setIfInBounds_toArray, List.set_cons_zero, List.set_cons_succ])
                refine wpAnyH_take (i := 1) (v := ?_) rfl (by kernel_rfl) (by kernel_rfl) (by kernel_rfl) (fun _ _ _ h => h) (Or.inl ⟨by kernel_rfl, ?_⟩) hS ?_
                rotate_left
                · intro w' hS'; obtain ⟨s0, s1, s2⟩ := hS'; go_simp <;> with_reducible rfl
                (try simp only [List.getElem_toArray, List.getElem_cons_succ, List.getElem_cons_zero, Act.put, List.setIfInBounds_toArray, List.set_cons_zero, List.set_cons_succ])
                refine wpAnyH_take (i := 2) (v := ?_) rfl (by kernel_rfl) (by kernel_rfl) (by kernel_rfl) (fun _ _ _ h => h) (Or.inl ⟨by kernel_rfl, ?_⟩) hS ?_
                rotate_left
                · intro w' hS'; obtain ⟨s0, s1, s2⟩ := hS'; go_simp <;> with_reducible rfl
                (try simp only [List.getElem_toArray, List.getElem_cons_succ, List.getElem_cons_zero, Act.put, List.setIfInBounds_toArray, List.set_cons_zero, List.set_cons_succ])
                refine wpAnyH_take (i := 3) (v := ?_) rfl (by kernel_rfl) (by kernel_rfl) (by kernel_rfl) (fun _ _ _ h => h) (Or.inl ⟨by kernel_rfl, ?_⟩) hS ?_
                rotate_left
                · intro w' hS'; obtain ⟨s0, s1, s2⟩ := hS'; go_simp <;> with_reducible rfl
                (try simp only [List.getElem_toArray, List.getElem_cons_succ, List.getElem_cons_zero, Act.put, List.setIfInBounds_toArray, List.set_cons_zero, List.set_cons_succ])
                refine wpAnyH_take (i := 4) (v := ?_) rfl (by kernel_rfl) (by kernel_rfl) (by kernel_rfl) (fun _ _ _ h => h) (Or.inl ⟨by kernel_rfl, ?_⟩) hS ?_
                rotate_left
                · intro w' hS'; obtain ⟨s0, s1, s2⟩ := hS'; go_simp <;> with_reducible rfl
                (try simp only [List.getElem_toArray, List.getElem_cons_succ, List.getElem_cons_zero, Act.put, List.setIfInBounds_toArray, List.set_cons_zero, List.set_cons_succ])
                refine wpAnyH_take (i := 5) (v := ?_) rfl (by kernel_rfl) (by kernel_rfl) (by kernel_rfl) (fun _ _ _ h => h) (Or.inl ⟨by kernel_rfl, ?_⟩) hS ?_
                rotate_left
                · intro w' hS'; obtain ⟨s0, s1, s2⟩ := hS'; go_simp <;> with_reducible rfl
                (try simp only [List.getElem_toArray, List.getElem_cons_succ, List.getElem_cons_zero, Act.put, List.setIfInBounds_toArray, List.set_cons_zero, List.set_cons_succ])
                refine wpAnyH_take (i := 6) (v := ?_) rfl (by kernel_rfl) (by kernel_rfl) (by kernel_rfl) (fun _ _ _ h => h) (Or.inl ⟨by kernel_rfl, ?_⟩) hS ?_
                rotate_left
                · intro w' hS'; obtain ⟨s0, s1, s2⟩ := hS'; go_simp <;> with_reducible rfl
                (try simp only [List.getElem_toArray, List.getElem_cons_succ, List.getElem_cons_zero, Act.put, List.setIfInBounds_toArray, List.set_cons_zero, List.set_cons_succ])
                refine wpAnyH_take (i := 7) (v := ?_) rfl (by kernel_rfl) (by kernel_rfl) (by kernel_rfl) (fun _ _ _ h => h) (Or.inl ⟨by kernel_rfl, ?_⟩) hS ?_
                rotate_left
                · intro w' hS'; obtain ⟨s0, s1, s2⟩ := hS'; go_simp <;> with_reducible rfl
                (try simp only [List.getElem_toArray, List.getElem_cons_succ, List.getElem_cons_zero, Act.put, List.setIfInBounds_toArray, List.set_cons_zero, List.set_cons_succ])
                refine wpAnyH_take (i := 8) (v := ?_) rfl (by kernel_rfl) (by kernel_rfl) (by kernel_rfl) (fun _ _ _ h => h) (Or.inl ⟨by kernel_rfl, ?_⟩) hS ?_
                rotate_left
                · intro w' hS'; obtain ⟨s0, s1, s2⟩ := hS'; go_simp <;> with_reducible rfl
                (try simp only [List.getElem_toArray, List.getElem_cons_succ, List.getElem_cons_zero, Act.put, List.setIfInBounds_toArray, List.set_cons_zero, List.set_cons_succ])
                refine wpAnyH_take (i := 9) (v := ?_) rfl (by kernel_rfl) (by kernel_rfl) (by kernel_rfl) (fun _ _ _ h => h) (Or.inl ⟨by kernel_rfl, ?_⟩) hS ?_
                rotate_left
                · intro w' hS'; obtain ⟨s0, s1, s2⟩ := hS'; go_simp <;> with_reducible rfl
                (try simp only [List.getElem_toArray, List.getElem_cons_succ, List.getElem_cons_zero, Act.put, List.setIfInBounds_toArray, List.set_cons_zero, List.set_cons_succ])
                refine wpAnyH_take (i := 10) (v := ?_) rfl (by kernel_rfl) (by kernel_rfl) (by kernel_rfl) (fun _ _ _ h => h) (Or.inl ⟨by kernel_rfl, ?_⟩) hS ?_
                rotate_left
                · intro w' hS'; obtain ⟨s0, s1, s2⟩ := hS'; go_simp <;> with_reducible rfl
                (try simp only [List.getElem_toArray, List.getElem_cons_succ, List.getElem_cons_zero, Act.put, List.setIfInBounds_toArray, List.set_cons_zero, List.set_cons_succ])
                refine wpAnyH_take (i := 11) (v := ?_) rfl (by kernel_rfl) (by kernel_rfl) (by kernel_rfl) (fun _ _ _ h => h) (Or.inl ⟨by kernel_rfl, ?_⟩) hS ?_
                rotate_left
                · intro w' hS'; obtain ⟨s0, s1, s2⟩ := hS'; go_simp <;> with_reducible rfl
                (try simp only [List.getElem_toArray, List.getElem_cons_succ, List.getElem_cons_zero, Act.put, List.setIfInBounds_toArray, List.set_cons_zero, List.set_cons_succ])
                refine wpAnyH_take (i := 12) (v := ?_) rfl (by kernel_rfl) (by kernel_rfl) (by kernel_rfl) (fun _ _ _ h => h) (Or.inl ⟨by kernel_rfl, ?_⟩) hS ?_
                rotate_left
                · intro w' hS'; obtain ⟨s0, s1, s2⟩ := hS'; go_simp <;> with_reducible rfl
                (try simp only [List.getElem_toArray, List.getElem_cons_succ, List.getElem_cons_zero, Act.put, List.setIfInBounds_toArray, List.set_cons_zero, List.set_cons_succ])
                refine wpAnyH_take (i := 15) (v := ?_) rfl (by kernel_rfl) (by kernel_rfl) (by kernel_rfl) (fun _ _ _ h => h) (Or.inl ⟨by kernel_rfl, ?_⟩) hS ?_
                rotate_left
                · intro w' hS'; obtain ⟨s0, s1, s2⟩ := hS'; go_simp <;> with_reducible rfl
                (try simp only [List.getElem_toArray, List.getElem_cons_succ, List.getElem_cons_zero, Act.put, List.setIfInBounds_toArray, List.set_cons_zero, List.set_cons_succ])
                refine wpAnyH_take (i := 16) (v := ?_) rfl (by kernel_rfl) (by kernel_rfl) (by kernel_rfl) (fun _ _ _ h => h) (Or.inl ⟨by kernel_rfl, ?_⟩) hS ?_
                rotate_left
                · intro w' hS'; obtain ⟨s0, s1, s2⟩ := hS'; go_simp <;> with_reducible rfl
                (try simp only [List.getElem_toArray, List.getElem_cons_succ, List.getElem_cons_zero, Act.put, List.setIfInBounds_toArray, List.set_cons_zero, List.set_cons_succ])
                refine wpAnyH_ready (rs := [13]) (by kernel_rfl) (by simp) ?_
                refine AllReadyH.cons rfl (fun K hK => ?_) AllReadyH.nil
                go_simp
                refine (PA.out _ hS hB0).mono ?_
                rintro e wr1 ⟨⟨rfl, hr1⟩, hc1⟩
                refine hK.out _ _ hc1 ?_
                intro hS1
                clear hK K
                (try simp only [List.getElem_toArray, List.getElem_cons_succ, List.getElem_cons_zero, Act.put, List.setIfInBounds_toArray, List.set_cons_zero, List.set_cons_succ])
                have hB1 := old_trans hB0 hr1
                refine wpAnyH_take (i := 14) (v := ?_) rfl (by kernel_rfl) (by kernel_rfl) (by kernel_rfl) (fun _ _ _ h => h) (Or.inl ⟨by kernel_rfl, ?_⟩) hS1 ?_
                rotate_left
                · intro w' hS'; obtain ⟨s0, s1, s2⟩ := hS'; go_simp <;> with_reducible rfl
                (try simp only [List.getElem_toArray, List.getElem_cons_succ, List.getElem_cons_zero, Act.put, List.setIfInBounds_toArray, List.set_cons_zero, List.set_cons_succ])
                refine wpAnyH_ready (rs := [17]) (by kernel_rfl) (by simp) ?_
                refine AllReadyH.cons rfl (fun K hK => ?_) AllReadyH.nil
                go_simp
                refine (PC.out _ hS1 hB1).mono ?_
                rintro e wr2 ⟨⟨rfl, hr2⟩, hc2⟩
                refine hK.out _ _ hc2 ?_
                intro hS2
                clear hK K
                (try simp only [List.getElem_toArray, List.getElem_cons_succ, List.getElem_cons_zero, Act.put, List.setIfInBounds_toArray, List.set_cons_zero, List.set_cons_succ])
                have hB2 := old_trans hB1 hr2
                refine wpAnyH_take (i := 18) (v := ?_) rfl (by kernel_rfl) (by kernel_rfl) (by kernel_rfl) (fun _ _ _ h => h) (Or.inl ⟨by kernel_rfl, ?_⟩) hS2 ?_
                rotate_left
                · intro w' hS'; obtain ⟨s0, s1, s2⟩ := hS'; go_simp <;> with_reducible rfl
                (try simp only [List.getElem_toArray, List.getElem_cons_succ, List.getElem_cons_zero, Act.put, List.setIfInBounds_toArray, List.set_cons_zero, List.set_cons_succ])
                refine wpAnyH_take (i := 19) (v := ?_) rfl (by kernel_rfl) (by kernel_rfl) (by kernel_rfl) (fun _ _ _ h => h) (Or.inl ⟨by kernel_rfl, ?_⟩) hS2 ?_
                rotate_left
                · intro w' hS'; obtain ⟨s0, s1, s2⟩ := hS'; go_simp <;> with_reducible rfl
                (try simp only [List.getElem_toArray, List.getElem_cons_succ, List.getElem_cons_zero, Act.put, List.setIfInBounds_toArray, List.set_cons_zero, List.set_cons_succ])
                refine wpAnyH_take (i := 20) (v := ?_) rfl (by kernel_rfl) (by kernel_rfl) (by kernel_rfl) (fun _ _ _ h => h) (Or.inl ⟨by kernel_rfl, ?_⟩) hS2 ?_
                rotate_left
                · intro w' hS'; obtain ⟨s0, s1, s2⟩ := hS'; go_simp <;> with_reducible rfl
                (try simp only [List.getElem_toArray, List.getElem_cons_succ, List.getElem_cons_zero, Act.put, List.setIfInBounds_toArray, List.set_cons_zero, List.set_cons_succ])
                refine wpAnyH_take (i := 21) (v := ?_) rfl (by kernel_rfl) (by kernel_rfl) (by kernel_rfl) (fun _ _ _ h => h) (Or.inl ⟨by kernel_rfl, ?_⟩) hS2 ?_
                rotate_left
                · intro w' hS'; obtain ⟨s0, s1, s2⟩ := hS'; go_simp <;> with_reducible rfl
                (try simp only [List.getElem_toArray, List.getElem_cons_succ, List.getElem_cons_zero, Act.put, List.setIfInBounds_toArray, List.set_cons_zero, List.set_cons_succ])
                refine wpAnyH_take (i := 22) (v := ?_) rfl (by kernel_rfl) (by kernel_rfl) (by kernel_rfl) (fun _ _ _ h => h) (Or.inl ⟨by kernel_rfl, ?_⟩) hS2 ?_
                rotate_left
                · intro w' hS'; obtain ⟨s0, s1, s2⟩ := hS'; go_simp <;> with_reducible rfl
                (try simp only [List.getElem_toArray, List.getElem_cons_succ, List.getElem_cons_zero, Act.put, List.setIfInBounds_toArray, List.set_cons_zero, List.set_cons_succ])
                refine wpAnyH_take (i := 24) (v := ?_) rfl (by kernel_rfl) (by kernel_rfl) (by kernel_rfl) (fun _ _ _ h => h) (Or.inl ⟨by kernel_rfl, ?_⟩) hS2 ?_
                rotate_left
                · intro w' hS'; obtain ⟨s0, s1, s2⟩ := hS'; go_simp <;> with_reducible rfl
                (try simp only [List.getElem_toArray, List.getElem_cons_succ, List.getElem_cons_zero, Act.put, List.setIfInBounds_toArray, List.set_cons_zero, List.set_cons_succ])
                refine wpAnyH_take (i := 25) (v := ?_) rfl (by kernel_rfl) (by kernel_rfl) (by kernel_rfl) (fun _ _ _ h => h) (Or.inl ⟨by kernel_rfl, ?_⟩) hS2 ?_
                rotate_left
                · intro w' hS'; obtain ⟨s0, s1, s2⟩ := hS'; go_simp <;> with_reducible rfl
                (try simp only [List.getElem_toArray, List.getElem_cons_succ, List.getElem_cons_zero, Act.put, List.setIfInBounds_toArray, List.set_cons_zero, List.set_cons_succ])
                refine wpAnyH_ready (rs := [23]) (by kernel_rfl) (by simp) ?_
                refine AllReadyH.cons rfl (fun K hK => ?_) AllReadyH.nil
                go_simp
                refine (PZ.out _ hS2 hB2).mono ?_
                rintro e wr3 ⟨⟨rfl, hr3⟩, hc3⟩
                refine hK.out _ _ hc3 ?_
                intro hS3
                clear hK K
                (try simp only [List.getElem_toArray, List.getElem_cons_succ, List.getElem_cons_zero, Act.put, List.setIfInBounds_toArray, List.set_cons_zero, List.set_cons_succ])
                have hB3 := old_trans hB2 hr3
                refine wpAnyH_ready (rs := [26]) (by kernel_rfl) (by simp) ?_
                refine AllReadyH.cons rfl (fun K hK => ?_) AllReadyH.nil
                go_simp
                refine (PC.out _ hS3 hB3).mono ?_
                rintro e wr4 ⟨⟨rfl, hr4⟩, hc4⟩
                refine hK.out _ _ hc4 ?_
                intro hS4
                clear hK K
                (try simp only [List.getElem_toArray, List.getElem_cons_succ, List.getElem_cons_zero, Act.put, List.setIfInBounds_toArray, List.set_cons_zero, List.set_cons_succ])
                have hB4 := old_trans hB3 hr4
                refine wpAnyH_take (i := 27) (v := ?_) rfl (by kernel_rfl) (by kernel_rfl) (by kernel_rfl) (fun _ _ _ h => h) (Or.inl ⟨by kernel_rfl, ?_⟩) hS4 ?_
                rotate_left
                · intro w' hS'; obtain ⟨s0, s1, s2⟩ := hS'; go_simp <;> with_reducible rfl
                (try simp only [List.getElem_toArray, List.getElem_cons_succ, List.getElem_cons_zero, Act.put, List.setIfInBounds_toArray, List.set_cons_zero, List.set_cons_succ])
                refine wpAnyH_take (i := 28) (v := ?_) rfl (by kernel_rfl) (by kernel_rfl) (by kernel_rfl) (fun _ _ _ h => h) (Or.inl ⟨by kernel_rfl, ?_⟩) hS4 ?_
                rotate_left
                · intro w' hS'; obtain ⟨s0, s1, s2⟩ := hS'; go_simp <;> with_reducible rfl
                (try simp only [List.getElem_toArray, List.getElem_cons_succ, List.getElem_cons_zero, Act.put, List.setIfInBounds_toArray, List.set_cons_zero, List.set_cons_succ])
                refine wpAnyH_done (by kernel_rfl) ?_ _
                go_wp2
                go_ret
                exact ⟨by kernel_rfl, old_trans hB hB4⟩

set_option maxRecDepth 100000 in
theorem FnBoxUnits_lifted (os : Os) (started : os.Started) (H : Type) (enc : TypeId × Value → H) :
    ReturnsInHanded {} Try.checked os 5 .any (Rows.fnBoxUnitsSpec.pre6 enc Try.prog Try.f5 Rows.fnBoxUnitsRow.domain false) (Rows.fnBoxUnitsSpec.post enc Try.prog Try.f5 false true false false) := by
  refine returnsInHanded_of_change (C := Try.checked) FnBoxUnits_own started (by kernel_rfl) Try.func5
    (ChangeSpec.witness6 (enc := enc) (C := Try.checked) false ⟨#[], #[.slice none 0 0, .slice none 0 0], []⟩ 8 (by kernel_rfl) (by kernel_rfl) (by kernel_rfl) (by kernel_rfl)) ?_
  intro W base args ds gs before hval0 hW hcnd _
  have hval : ∀ (j : Nat) t v, Try.f5.params[j]? = some t → args[j]? = some v → Value.okWide Try.prog W .any base t v := hval0
  have hW' := hW
  obtain ⟨p, q, hA0, hV, rfl, hfz, hnd⟩ := hW
  have hA : DataW.TrodAll enc Try.prog W 0 (fun _ => true) true Try.f5.params.toList args.toList ds p := hA0
  rw [Try.params5] at hA hval
  obtain ⟨v0, vs0, d0, ds0, p0, q0, hargs, rfl, rfl, h0, r0⟩ := trodAll_cons hA
  obtain ⟨v1, vs1, d1, ds1, p1, q1, rfl, rfl, rfl, h1, r1⟩ := trodAll_cons r0
  obtain ⟨rfl, rfl, rfl⟩ := trodAll_nil r1
  obtain rfl : args = #[v0, v1] := by cases args; simp_all
  obtain ⟨rfl, rfl⟩ := trodVars_none hV
  have k0 := h0
  have lt0 : ∀ x ∈ p0, x.block < W.heap.size := by obtain ⟨m, hm⟩ := k0; exact DataW.trod_lt m _ _ _ hm
  obtain ⟨a0, len0, cap0, rfl, wb0⟩ := open_bytes (hval 0 22 v0 rfl rfl) h0
  have k1 := h1
  have lt1 : ∀ x ∈ p1, x.block < W.heap.size := by obtain ⟨m, hm⟩ := k1; exact DataW.trod_lt m _ _ _ hm
  obtain ⟨a1, len1, cap1, rfl, wb1⟩ := open_bytes (hval 1 22 v1 rfl rfl) h1
  clear hA0 hval0
  refine (FnBoxUnits_walk a0 len0 cap0 a1 len1 cap1 W wb0 wb1).mono fun e W' ⟨he, bel⟩ => ?_
  subst he
  exact ⟨_, rfl, _, _, _, [], _, [], hW', trodAll_mk1 (shut_bool Try.underlying4 _), (trodAll_cons_mk (Below.trod jf1 (by kernel_rfl) (of_decide_eq_true (by kernel_rfl)) k0 bel lt0) (trodAll_cons_mk (Below.trod jf1 (by kernel_rfl) (of_decide_eq_true (by kernel_rfl)) k1 bel lt1) trodAll_mk0)), rfl, bel.frame _, fun h => by cases h⟩

theorem FnBoxUnits_k0 : (Rows.fnBoxUnitsRow.wf (OpenSpec.ofChange Rows.fnBoxUnitsSpec)) = true := by kernel_rfl
theorem FnBoxUnits_k3 : (Try.f5.params.all (Try.prog.readableRec ·)) = true := by kernel_rfl
theorem FnBoxUnits_k4 : (namedTie Try.prog Rows.fnBoxUnitsRow.named Rows.fnBoxUnitsSpec.vars) = true := by kernel_rfl
theorem FnBoxUnits_k5 : ((Rows.fnBoxUnitsRow.stops == [])) = true := by kernel_rfl
theorem FnBoxUnits_k7 : ((Rows.fnBoxUnitsRow.knobs == [])) = true := by kernel_rfl
theorem FnBoxUnits_k9 : ((Rows.fnBoxUnitsRow.inPlace == Try.prog.inPlace 5)) = true := by kernel_rfl
theorem FnBoxUnits_k10 : ((Rows.fnBoxUnitsRow.unfollowed == Try.prog.unfollowed 5)) = true := by kernel_rfl
theorem FnBoxUnits_k11 : ((Rows.fnBoxUnitsRow.recurses == Try.prog.recurses 5)) = true := by kernel_rfl
theorem FnBoxUnits_k12 : ((Rows.fnBoxUnitsRow.named == Try.prog.varsNamed 5)) = true := by kernel_rfl
theorem FnBoxUnits_k13 : ((Rows.fnBoxUnitsRow.maps == (Try.f5.params.toList ++ Rows.fnBoxUnitsSpec.plain.varTypes Try.prog).any (Try.prog.mapsRec ·))) = true := by kernel_rfl
theorem FnBoxUnits_k14 : ((Rows.fnBoxUnitsRow.ifaces == (Try.f5.params.toList ++ Rows.fnBoxUnitsSpec.plain.varTypes Try.prog).any (Try.prog.ifacesRec ·))) = true := by kernel_rfl
theorem FnBoxUnits_k15 : ((Rows.fnBoxUnitsRow.mapsOut == Try.prog.mapsAmong Try.f5.resultTypes.toList)) = true := by kernel_rfl
theorem FnBoxUnits_k16 : ((Rows.fnBoxUnitsRow.loops == (Try.f5.params.toList ++ Rows.fnBoxUnitsSpec.plain.varTypes Try.prog).any (Try.prog.loopsFrom ·))) = true := by kernel_rfl
theorem FnBoxUnits_k17 : ((Rows.fnBoxUnitsRow.wideKeys == (Try.f5.params.toList ++ Rows.fnBoxUnitsSpec.plain.varTypes Try.prog ++ Try.f5.resultTypes.toList).any (Try.prog.wideKeysFrom ·))) = true := by kernel_rfl
theorem FnBoxUnits_k18 : (Rows.fnBoxUnitsSpec.vars.all (Try.prog.varReadable ·)) = true := by kernel_rfl
theorem FnBoxUnits_k19 : (Try.f5.resultTypes.all (fun t => Try.prog.readableRec t && decide (t < Try.prog.types.size))) = true := by kernel_rfl
theorem FnBoxUnits_k20 : ((Rows.fnBoxUnitsRow.ifacesOut == Try.f5.resultTypes.toList.any (Try.prog.ifacesRec ·))) = true := by kernel_rfl
theorem FnBoxUnits_k21 : ((Rows.fnBoxUnitsRow.loopsOut == Try.f5.resultTypes.toList.any (Try.prog.loopsFrom ·))) = true := by kernel_rfl
theorem FnBoxUnits_k23 : (Rows.fnBoxUnitsRow.shortTexts.isNone) = true := by kernel_rfl
theorem FnBoxUnits_k28 : ((Rows.fnBoxUnitsRow.kinds == (if Rows.fnBoxUnitsRow.domain.isEmpty then [] else Try.f5.params.toList.map fun t => match Try.prog.underlying t with | some (.int k) => some k | _ => none))) = true := by kernel_rfl
theorem FnBoxUnits_k29 : ((Rows.fnBoxUnitsRow.pinned == Rows.fnBoxUnitsRow.pinnedBy)) = true := by kernel_rfl
theorem FnBoxUnits_k30 : ((Rows.fnBoxUnitsRow.veiled == (Try.f5.params.toList ++ Rows.fnBoxUnitsSpec.plain.varTypes Try.prog ++ Try.f5.resultTypes.toList).any (Try.prog.veiledRec ·))) = true := by kernel_rfl
theorem FnBoxUnits_k31 : (Rows.fnBoxUnitsRow.veiledFits Try.prog Try.f5.params.toList (Try.f5.params.toList ++ Rows.fnBoxUnitsSpec.plain.varTypes Try.prog ++ Try.f5.resultTypes.toList)) = true := by kernel_rfl
set_option maxRecDepth 100000 in
theorem FnBoxUnits_closed : joinedFacts Try.prog 5 Try.f5 Rows.fnBoxUnitsSpec Rows.fnBoxUnitsRow = true := (and2 (and2 (and2 (and2 (and2 (and2 (and2 (and2 (and2 (and2 (and2 (and2 (and2 (and2 (and2 (and2 (and2 (and2 (and2 (and2 (and2 (and2 (and2 (and2 (and2 (and2 (and2 (and2 (and2 (and2 (and2 FnBoxUnits_k0 jf1) jf2) FnBoxUnits_k3) FnBoxUnits_k4) FnBoxUnits_k5) jf6) FnBoxUnits_k7) jf8) FnBoxUnits_k9) FnBoxUnits_k10) FnBoxUnits_k11) FnBoxUnits_k12) FnBoxUnits_k13) FnBoxUnits_k14) FnBoxUnits_k15) FnBoxUnits_k16) FnBoxUnits_k17) FnBoxUnits_k18) FnBoxUnits_k19) FnBoxUnits_k20) FnBoxUnits_k21) jf22) FnBoxUnits_k23) jf24) jf25) jf26) jf27) FnBoxUnits_k28) FnBoxUnits_k29) FnBoxUnits_k30) FnBoxUnits_k31)
theorem FnBoxUnits_over : Rows.fnBoxUnitsRow.holds Try.pinned (OpenSpec.ofChange Rows.fnBoxUnitsSpec) :=
  OpenClaim.holds_of_wide 5 Try.f5 rfl rfl rfl rfl rfl rfl rfl ⟨rfl, rfl, rfl, rfl, rfl⟩ rfl rfl rfl rfl rfl (by kernel_rfl) Try.func5 FnBoxUnits_closed
    (of_decide_eq_true (by kernel_rfl)) (by unfold Func.isWrapper; first | (rw [if_pos (by decide +kernel)]; kernel_rfl) | (rw [if_neg (by decide +kernel)]; exact ⟨rfl, rfl⟩))
    (fun os started H enc _ => FnBoxUnits_lifted os started H enc)

theorem FnBoxUnits_proved : Rows.FnBoxUnitsSaid := FnBoxUnits_over
end Go.Proofs.Ytpnfkigeagbhpaa
