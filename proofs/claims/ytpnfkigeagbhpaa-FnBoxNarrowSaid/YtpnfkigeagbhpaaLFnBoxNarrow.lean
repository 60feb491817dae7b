/- For every code of bytes: the wide box that is drawn from it lies within the narrow one around it, widened, and that narrow one is one; the narrow box that is drawn from it, widened, comes back; the law answers true; nothing that was there is written. No condition. -/
import Derived.Test.YtpnfkigeagbhpaaRows
import Derived.WalkKit
import Derived.ProofKit
import Derived.OpenShut
import Derived.Below
import Derived.Carry
import Derived.Test.YtpnfkigeagbhpaaPK02
import Derived.Test.YtpnfkigeagbhpaaPK05
import Derived.Test.YtpnfkigeagbhpaaPK19
import Derived.Test.YtpnfkigeagbhpaaPK18
import Derived.Test.YtpnfkigeagbhpaaPK20
namespace Go.Proofs.Ytpnfkigeagbhpaa
open Go.ChangeShapes Go.WideShapes Go.ChangeAt Go.RowKit
set_option linter.unusedVariables false
set_option maxRecDepth 100000

theorem FnBoxNarrow_own : ownKnob Try.prog.godebug = none := by kernel_rfl

set_option maxRecDepth 100000 in
set_option maxHeartbeats 20000000 in
theorem FnBoxNarrow_walk (a0 : Option Addr) (len0 cap0 : Nat) (w : World) (wb0 : IsCode w a0 len0 cap0):
    Calls Try.prog 3 #[.slice a0 len0 cap0] w fun e w' => e = .returned (.bool true) ∧ Below w.heap.size w w' := by
  by_cases c0 : (1048576 : Int) < (len0 : Int)
  · have t0 : decide ((1048576 : Int) < (len0 : Int)) = true := by simp; omega
    go_enter Try.func3, Try.ntmps3
    go_wp2
    go_ret
    exact ⟨rfl, (by repeat (first | exact Below.refl _ _ | refine Below.drew ?_ | refine old_alloc ?_ _ | refine old_trans ?_ (by assumption)))⟩
  have hB : Below w.heap.size w w := Below.refl _ _
  go_enter Try.func3, Try.ntmps3
  go_wp2_with fail
  refine (drawBoxLess _ a0 len0 cap0 wb0).mono ?_
  rintro e w1 ⟨⟨av, cv, ps, rfl, hpl, O⟩, hb1⟩
  replace wb0 := (by with_reducible first | exact wb0.old hb1 | exact (wb0.old ((Below.refl _ _).alloc (Nat.le_refl _) _)).old hb1 | exact ((wb0.old ((Below.refl _ _).alloc (Nat.le_refl _) _)).old ((Below.refl _ _).alloc (Nat.le_refl _) _)).old hb1 : IsCode w1 _ _ _)
  replace hB := (by with_reducible first | exact old_trans hB hb1 | exact old_trans (old_alloc hB _) hb1 | exact old_trans (old_alloc (old_alloc hB _) _) hb1 | exact old_trans (old_alloc (old_alloc (old_alloc hB _) _) _) hb1 : Below w.heap.size w w1)
  cases hp : okRow 64 ps
  case false =>
    go_wp2_with fail
    refine (iLessNo _ _ _ _ _ (O.alloc _) hp).mono ?_
    rintro e w2 ⟨rfl, hb2⟩
    replace O := (by with_reducible first | exact O.later hb2 | exact O.drew.later hb2 | exact (O.alloc _).later hb2 | exact ((O.alloc _).alloc _).later hb2 | exact (((O.alloc _).alloc _).alloc _).later hb2 : OB w2 _ _ _ _)
    replace wb0 := (by with_reducible first | exact wb0.old hb2 | exact (wb0.old ((Below.refl _ _).alloc (Nat.le_refl _) _)).old hb2 | exact ((wb0.old ((Below.refl _ _).alloc (Nat.le_refl _) _)).old ((Below.refl _ _).alloc (Nat.le_refl _) _)).old hb2 : IsCode w2 _ _ _)
    replace hB := (by with_reducible first | exact old_trans hB hb2 | exact old_trans (old_alloc hB _) hb2 | exact old_trans (old_alloc (old_alloc hB _) _) hb2 | exact old_trans (old_alloc (old_alloc (old_alloc hB _) _) _) hb2 : Below w.heap.size w w2)
    have V := (Cel1.made _ _ rfl (.slice av ps.length cv) 25).later hb2
    (try simp only [World.size_alloc] at V)
    have V0 := V.1
    have V1 := V.2.1
    have Vz := V.2.2
    go_wp2_with fail
    refine (sOkO _ _ _ _ _ (O.alloc _) 64 false hp).mono ?_
    rintro e w3 ⟨rfl, hb3⟩
    clear V0 V1 Vz
    replace V := (by with_reducible first | exact V.later hb3 | exact V.drew.later hb3 | exact (V.alloc _).later hb3 | exact ((V.alloc _).alloc _).later hb3 | exact (((V.alloc _).alloc _).alloc _).later hb3 : Cel1 w3 _ _)
    replace O := (by with_reducible first | exact O.later hb3 | exact O.drew.later hb3 | exact (O.alloc _).later hb3 | exact ((O.alloc _).alloc _).later hb3 | exact (((O.alloc _).alloc _).alloc _).later hb3 : OB w3 _ _ _ _)
    replace wb0 := (by with_reducible first | exact wb0.old hb3 | exact (wb0.old ((Below.refl _ _).alloc (Nat.le_refl _) _)).old hb3 | exact ((wb0.old ((Below.refl _ _).alloc (Nat.le_refl _) _)).old ((Below.refl _ _).alloc (Nat.le_refl _) _)).old hb3 : IsCode w3 _ _ _)
    replace hB := (by with_reducible first | exact old_trans hB hb3 | exact old_trans (old_alloc hB _) hb3 | exact old_trans (old_alloc (old_alloc hB _) _) hb3 | exact old_trans (old_alloc (old_alloc (old_alloc hB _) _) _) hb3 : Below w.heap.size w w3)
    have VN := (Cel1.made _ _ rfl (.slice none 0 0) 25).later hb3
    (try simp only [World.size_alloc] at VN)
    have V0 := V.1
    have V1 := V.2.1
    have Vz := V.2.2
    have VN0 := VN.1
    have VN1 := VN.2.1
    have VNz := VN.2.2
    go_wp2_with fail
    refine (drawBoxMore _ a0 len0 cap0 wb0).mono ?_
    rintro e w4 ⟨⟨aq, cq, qs, rfl, hql, Q⟩, hb4⟩
    clear V0 V1 Vz VN0 VN1 VNz
    replace V := (by with_reducible first | exact V.later hb4 | exact V.drew.later hb4 | exact (V.alloc _).later hb4 | exact ((V.alloc _).alloc _).later hb4 | exact (((V.alloc _).alloc _).alloc _).later hb4 : Cel1 w4 _ _)
    replace VN := (by with_reducible first | exact VN.later hb4 | exact VN.drew.later hb4 | exact (VN.alloc _).later hb4 | exact ((VN.alloc _).alloc _).later hb4 | exact (((VN.alloc _).alloc _).alloc _).later hb4 : Cel1 w4 _ _)
    replace O := (by with_reducible first | exact O.later hb4 | exact O.drew.later hb4 | exact (O.alloc _).later hb4 | exact ((O.alloc _).alloc _).later hb4 | exact (((O.alloc _).alloc _).alloc _).later hb4 : OB w4 _ _ _ _)
    replace wb0 := (by with_reducible first | exact wb0.old hb4 | exact (wb0.old ((Below.refl _ _).alloc (Nat.le_refl _) _)).old hb4 | exact ((wb0.old ((Below.refl _ _).alloc (Nat.le_refl _) _)).old ((Below.refl _ _).alloc (Nat.le_refl _) _)).old hb4 : IsCode w4 _ _ _)
    replace hB := (by with_reducible first | exact old_trans hB hb4 | exact old_trans (old_alloc hB _) hb4 | exact old_trans (old_alloc (old_alloc hB _) _) hb4 | exact old_trans (old_alloc (old_alloc (old_alloc hB _) _) _) hb4 : Below w.heap.size w w4)
    have V0 := V.1
    have V1 := V.2.1
    have Vz := V.2.2
    have VN0 := VN.1
    have VN1 := VN.2.1
    have VNz := VN.2.2
    cases hq : okRow 32 qs
    case false =>
      go_wp2_with fail
      refine (iMoreNo _ _ _ _ _ (Q.alloc _) hq).mono ?_
      rintro e w5 ⟨rfl, hb5⟩
      clear V0 V1 Vz VN0 VN1 VNz
      replace V := (by with_reducible first | exact V.later hb5 | exact V.drew.later hb5 | exact (V.alloc _).later hb5 | exact ((V.alloc _).alloc _).later hb5 | exact (((V.alloc _).alloc _).alloc _).later hb5 : Cel1 w5 _ _)
      replace VN := (by with_reducible first | exact VN.later hb5 | exact VN.drew.later hb5 | exact (VN.alloc _).later hb5 | exact ((VN.alloc _).alloc _).later hb5 | exact (((VN.alloc _).alloc _).alloc _).later hb5 : Cel1 w5 _ _)
      replace O := (by with_reducible first | exact O.later hb5 | exact O.drew.later hb5 | exact (O.alloc _).later hb5 | exact ((O.alloc _).alloc _).later hb5 | exact (((O.alloc _).alloc _).alloc _).later hb5 : OB w5 _ _ _ _)
      replace Q := (by with_reducible first | exact Q.later hb5 | exact Q.drew.later hb5 | exact (Q.alloc _).later hb5 | exact ((Q.alloc _).alloc _).later hb5 | exact (((Q.alloc _).alloc _).alloc _).later hb5 : OB w5 _ _ _ _)
      replace wb0 := (by with_reducible first | exact wb0.old hb5 | exact (wb0.old ((Below.refl _ _).alloc (Nat.le_refl _) _)).old hb5 | exact ((wb0.old ((Below.refl _ _).alloc (Nat.le_refl _) _)).old ((Below.refl _ _).alloc (Nat.le_refl _) _)).old hb5 : IsCode w5 _ _ _)
      replace hB := (by with_reducible first | exact old_trans hB hb5 | exact old_trans (old_alloc hB _) hb5 | exact old_trans (old_alloc (old_alloc hB _) _) hb5 | exact old_trans (old_alloc (old_alloc (old_alloc hB _) _) _) hb5 : Below w.heap.size w w5)
      have VQ := (Cel1.made _ _ rfl (.slice aq qs.length cq) 25).later hb5
      (try simp only [World.size_alloc] at VQ)
      have V0 := V.1
      have V1 := V.2.1
      have Vz := V.2.2
      have VN0 := VN.1
      have VN1 := VN.2.1
      have VNz := VN.2.2
      have VQ0 := VQ.1
      have VQ1 := VQ.2.1
      have VQz := VQ.2.2
      go_wp2_with fail
      refine (sOkO _ _ _ _ _ (Q.alloc _) 32 false hq).mono ?_
      rintro e w6 ⟨rfl, hb6⟩
      clear V0 V1 Vz VN0 VN1 VNz VQ0 VQ1 VQz
      replace V := (by with_reducible first | exact V.later hb6 | exact V.drew.later hb6 | exact (V.alloc _).later hb6 | exact ((V.alloc _).alloc _).later hb6 | exact (((V.alloc _).alloc _).alloc _).later hb6 : Cel1 w6 _ _)
      replace VN := (by with_reducible first | exact VN.later hb6 | exact VN.drew.later hb6 | exact (VN.alloc _).later hb6 | exact ((VN.alloc _).alloc _).later hb6 | exact (((VN.alloc _).alloc _).alloc _).later hb6 : Cel1 w6 _ _)
      replace VQ := (by with_reducible first | exact VQ.later hb6 | exact VQ.drew.later hb6 | exact (VQ.alloc _).later hb6 | exact ((VQ.alloc _).alloc _).later hb6 | exact (((VQ.alloc _).alloc _).alloc _).later hb6 : Cel1 w6 _ _)
      replace O := (by with_reducible first | exact O.later hb6 | exact O.drew.later hb6 | exact (O.alloc _).later hb6 | exact ((O.alloc _).alloc _).later hb6 | exact (((O.alloc _).alloc _).alloc _).later hb6 : OB w6 _ _ _ _)
      replace Q := (by with_reducible first | exact Q.later hb6 | exact Q.drew.later hb6 | exact (Q.alloc _).later hb6 | exact ((Q.alloc _).alloc _).later hb6 | exact (((Q.alloc _).alloc _).alloc _).later hb6 : OB w6 _ _ _ _)
      replace wb0 := (by with_reducible first | exact wb0.old hb6 | exact (wb0.old ((Below.refl _ _).alloc (Nat.le_refl _) _)).old hb6 | exact ((wb0.old ((Below.refl _ _).alloc (Nat.le_refl _) _)).old ((Below.refl _ _).alloc (Nat.le_refl _) _)).old hb6 : IsCode w6 _ _ _)
      replace hB := (by with_reducible first | exact old_trans hB hb6 | exact old_trans (old_alloc hB _) hb6 | exact old_trans (old_alloc (old_alloc hB _) _) hb6 | exact old_trans (old_alloc (old_alloc (old_alloc hB _) _) _) hb6 : Below w.heap.size w w6)
      have VM := (Cel1.made _ _ rfl (.slice none 0 0) 25).later hb6
      (try simp only [World.size_alloc] at VM)
      have V0 := V.1
      have V1 := V.2.1
      have Vz := V.2.2
      have VN0 := VN.1
      have VN1 := VN.2.1
      have VNz := VN.2.2
      have VQ0 := VQ.1
      have VQ1 := VQ.2.1
      have VQz := VQ.2.2
      have VM0 := VM.1
      have VM1 := VM.2.1
      have VMz := VM.2.2
      go_wp2
      go_ret
      exact ⟨rfl, (by repeat (first | exact hB | exact Below.refl _ _ | refine Below.drew ?_ | refine old_alloc ?_ _ | refine old_trans ?_ (by assumption)))⟩
    case true =>
      go_wp2_with fail
      refine (iMoreYes _ _ _ _ _ (Q.alloc _) hq).mono ?_
      rintro e w5 ⟨⟨am, cm, rfl, M⟩, hb5⟩
      clear V0 V1 Vz VN0 VN1 VNz
      replace V := (by with_reducible first | exact V.later hb5 | exact V.drew.later hb5 | exact (V.alloc _).later hb5 | exact ((V.alloc _).alloc _).later hb5 | exact (((V.alloc _).alloc _).alloc _).later hb5 : Cel1 w5 _ _)
      replace VN := (by with_reducible first | exact VN.later hb5 | exact VN.drew.later hb5 | exact (VN.alloc _).later hb5 | exact ((VN.alloc _).alloc _).later hb5 | exact (((VN.alloc _).alloc _).alloc _).later hb5 : Cel1 w5 _ _)
      replace O := (by with_reducible first | exact O.later hb5 | exact O.drew.later hb5 | exact (O.alloc _).later hb5 | exact ((O.alloc _).alloc _).later hb5 | exact (((O.alloc _).alloc _).alloc _).later hb5 : OB w5 _ _ _ _)
      replace Q := (by with_reducible first | exact Q.later hb5 | exact Q.drew.later hb5 | exact (Q.alloc _).later hb5 | exact ((Q.alloc _).alloc _).later hb5 | exact (((Q.alloc _).alloc _).alloc _).later hb5 : OB w5 _ _ _ _)
      replace wb0 := (by with_reducible first | exact wb0.old hb5 | exact (wb0.old ((Below.refl _ _).alloc (Nat.le_refl _) _)).old hb5 | exact ((wb0.old ((Below.refl _ _).alloc (Nat.le_refl _) _)).old ((Below.refl _ _).alloc (Nat.le_refl _) _)).old hb5 : IsCode w5 _ _ _)
      replace hB := (by with_reducible first | exact old_trans hB hb5 | exact old_trans (old_alloc hB _) hb5 | exact old_trans (old_alloc (old_alloc hB _) _) hb5 | exact old_trans (old_alloc (old_alloc (old_alloc hB _) _) _) hb5 : Below w.heap.size w w5)
      have VQ := (Cel1.made _ _ rfl (.slice aq qs.length cq) 25).later hb5
      (try simp only [World.size_alloc] at VQ)
      have V0 := V.1
      have V1 := V.2.1
      have Vz := V.2.2
      have VN0 := VN.1
      have VN1 := VN.2.1
      have VNz := VN.2.2
      have VQ0 := VQ.1
      have VQ1 := VQ.2.1
      have VQz := VQ.2.2
      go_wp2_with fail
      refine (sOkO _ _ _ _ _ (Q.alloc _) 32 true hq).mono ?_
      rintro e w6 ⟨rfl, hb6⟩
      clear V0 V1 Vz VN0 VN1 VNz VQ0 VQ1 VQz
      replace V := (by with_reducible first | exact V.later hb6 | exact V.drew.later hb6 | exact (V.alloc _).later hb6 | exact ((V.alloc _).alloc _).later hb6 | exact (((V.alloc _).alloc _).alloc _).later hb6 : Cel1 w6 _ _)
      replace VN := (by with_reducible first | exact VN.later hb6 | exact VN.drew.later hb6 | exact (VN.alloc _).later hb6 | exact ((VN.alloc _).alloc _).later hb6 | exact (((VN.alloc _).alloc _).alloc _).later hb6 : Cel1 w6 _ _)
      replace VQ := (by with_reducible first | exact VQ.later hb6 | exact VQ.drew.later hb6 | exact (VQ.alloc _).later hb6 | exact ((VQ.alloc _).alloc _).later hb6 | exact (((VQ.alloc _).alloc _).alloc _).later hb6 : Cel1 w6 _ _)
      replace O := (by with_reducible first | exact O.later hb6 | exact O.drew.later hb6 | exact (O.alloc _).later hb6 | exact ((O.alloc _).alloc _).later hb6 | exact (((O.alloc _).alloc _).alloc _).later hb6 : OB w6 _ _ _ _)
      replace Q := (by with_reducible first | exact Q.later hb6 | exact Q.drew.later hb6 | exact (Q.alloc _).later hb6 | exact ((Q.alloc _).alloc _).later hb6 | exact (((Q.alloc _).alloc _).alloc _).later hb6 : OB w6 _ _ _ _)
      replace M := (by with_reducible first | exact M.later hb6 | exact M.drew.later hb6 | exact (M.alloc _).later hb6 | exact ((M.alloc _).alloc _).later hb6 | exact (((M.alloc _).alloc _).alloc _).later hb6 : OB w6 _ _ _ _)
      replace wb0 := (by with_reducible first | exact wb0.old hb6 | exact (wb0.old ((Below.refl _ _).alloc (Nat.le_refl _) _)).old hb6 | exact ((wb0.old ((Below.refl _ _).alloc (Nat.le_refl _) _)).old ((Below.refl _ _).alloc (Nat.le_refl _) _)).old hb6 : IsCode w6 _ _ _)
      replace hB := (by with_reducible first | exact old_trans hB hb6 | exact old_trans (old_alloc hB _) hb6 | exact old_trans (old_alloc (old_alloc hB _) _) hb6 | exact old_trans (old_alloc (old_alloc (old_alloc hB _) _) _) hb6 : Below w.heap.size w w6)
      have VM := (Cel1.made _ _ rfl (.slice am (moreL qs).length cm) 25).later hb6
      (try simp only [World.size_alloc] at VM)
      have V0 := V.1
      have V1 := V.2.1
      have Vz := V.2.2
      have VN0 := VN.1
      have VN1 := VN.2.1
      have VNz := VN.2.2
      have VQ0 := VQ.1
      have VQ1 := VQ.2.1
      have VQz := VQ.2.2
      have VM0 := VM.1
      have VM1 := VM.2.1
      have VMz := VM.2.2
      go_wp2_with fail
      refine (iLessYes _ _ _ _ _ M (more_ok hq)).mono ?_
      rintro e w7 ⟨⟨ab, cb, rfl, Bk⟩, hb7⟩
      clear V0 V1 Vz VN0 VN1 VNz VQ0 VQ1 VQz VM0 VM1 VMz
      replace V := (by with_reducible first | exact V.later hb7 | exact V.drew.later hb7 | exact (V.alloc _).later hb7 | exact ((V.alloc _).alloc _).later hb7 | exact (((V.alloc _).alloc _).alloc _).later hb7 : Cel1 w7 _ _)
      replace VN := (by with_reducible first | exact VN.later hb7 | exact VN.drew.later hb7 | exact (VN.alloc _).later hb7 | exact ((VN.alloc _).alloc _).later hb7 | exact (((VN.alloc _).alloc _).alloc _).later hb7 : Cel1 w7 _ _)
      replace VQ := (by with_reducible first | exact VQ.later hb7 | exact VQ.drew.later hb7 | exact (VQ.alloc _).later hb7 | exact ((VQ.alloc _).alloc _).later hb7 | exact (((VQ.alloc _).alloc _).alloc _).later hb7 : Cel1 w7 _ _)
      replace VM := (by with_reducible first | exact VM.later hb7 | exact VM.drew.later hb7 | exact (VM.alloc _).later hb7 | exact ((VM.alloc _).alloc _).later hb7 | exact (((VM.alloc _).alloc _).alloc _).later hb7 : Cel1 w7 _ _)
      replace O := (by with_reducible first | exact O.later hb7 | exact O.drew.later hb7 | exact (O.alloc _).later hb7 | exact ((O.alloc _).alloc _).later hb7 | exact (((O.alloc _).alloc _).alloc _).later hb7 : OB w7 _ _ _ _)
      replace Q := (by with_reducible first | exact Q.later hb7 | exact Q.drew.later hb7 | exact (Q.alloc _).later hb7 | exact ((Q.alloc _).alloc _).later hb7 | exact (((Q.alloc _).alloc _).alloc _).later hb7 : OB w7 _ _ _ _)
      replace M := (by with_reducible first | exact M.later hb7 | exact M.drew.later hb7 | exact (M.alloc _).later hb7 | exact ((M.alloc _).alloc _).later hb7 | exact (((M.alloc _).alloc _).alloc _).later hb7 : OB w7 _ _ _ _)
      replace wb0 := (by with_reducible first | exact wb0.old hb7 | exact (wb0.old ((Below.refl _ _).alloc (Nat.le_refl _) _)).old hb7 | exact ((wb0.old ((Below.refl _ _).alloc (Nat.le_refl _) _)).old ((Below.refl _ _).alloc (Nat.le_refl _) _)).old hb7 : IsCode w7 _ _ _)
      replace hB := (by with_reducible first | exact old_trans hB hb7 | exact old_trans (old_alloc hB _) hb7 | exact old_trans (old_alloc (old_alloc hB _) _) hb7 | exact old_trans (old_alloc (old_alloc (old_alloc hB _) _) _) hb7 : Below w.heap.size w w7)
      have V0 := V.1
      have V1 := V.2.1
      have Vz := V.2.2
      have VN0 := VN.1
      have VN1 := VN.2.1
      have VNz := VN.2.2
      have VQ0 := VQ.1
      have VQ1 := VQ.2.1
      have VQz := VQ.2.2
      have VM0 := VM.1
      have VM1 := VM.2.1
      have VMz := VM.2.2
      rw [more_less hq] at Bk ⊢
      go_wp2_with fail
      refine (iIsO _ _ _ _ _ (Bk.alloc _) _ _ _ _ (Q.alloc _) true (isRow_self qs)).mono ?_
      rintro e w8 ⟨rfl, hb8⟩
      clear V0 V1 Vz VN0 VN1 VNz VQ0 VQ1 VQz VM0 VM1 VMz
      replace V := (by with_reducible first | exact V.later hb8 | exact V.drew.later hb8 | exact (V.alloc _).later hb8 | exact ((V.alloc _).alloc _).later hb8 | exact (((V.alloc _).alloc _).alloc _).later hb8 : Cel1 w8 _ _)
      replace VN := (by with_reducible first | exact VN.later hb8 | exact VN.drew.later hb8 | exact (VN.alloc _).later hb8 | exact ((VN.alloc _).alloc _).later hb8 | exact (((VN.alloc _).alloc _).alloc _).later hb8 : Cel1 w8 _ _)
      replace VQ := (by with_reducible first | exact VQ.later hb8 | exact VQ.drew.later hb8 | exact (VQ.alloc _).later hb8 | exact ((VQ.alloc _).alloc _).later hb8 | exact (((VQ.alloc _).alloc _).alloc _).later hb8 : Cel1 w8 _ _)
      replace VM := (by with_reducible first | exact VM.later hb8 | exact VM.drew.later hb8 | exact (VM.alloc _).later hb8 | exact ((VM.alloc _).alloc _).later hb8 | exact (((VM.alloc _).alloc _).alloc _).later hb8 : Cel1 w8 _ _)
      replace O := (by with_reducible first | exact O.later hb8 | exact O.drew.later hb8 | exact (O.alloc _).later hb8 | exact ((O.alloc _).alloc _).later hb8 | exact (((O.alloc _).alloc _).alloc _).later hb8 : OB w8 _ _ _ _)
      replace Q := (by with_reducible first | exact Q.later hb8 | exact Q.drew.later hb8 | exact (Q.alloc _).later hb8 | exact ((Q.alloc _).alloc _).later hb8 | exact (((Q.alloc _).alloc _).alloc _).later hb8 : OB w8 _ _ _ _)
      replace M := (by with_reducible first | exact M.later hb8 | exact M.drew.later hb8 | exact (M.alloc _).later hb8 | exact ((M.alloc _).alloc _).later hb8 | exact (((M.alloc _).alloc _).alloc _).later hb8 : OB w8 _ _ _ _)
      replace Bk := (by with_reducible first | exact Bk.later hb8 | exact Bk.drew.later hb8 | exact (Bk.alloc _).later hb8 | exact ((Bk.alloc _).alloc _).later hb8 | exact (((Bk.alloc _).alloc _).alloc _).later hb8 : OB w8 _ _ _ _)
      replace wb0 := (by with_reducible first | exact wb0.old hb8 | exact (wb0.old ((Below.refl _ _).alloc (Nat.le_refl _) _)).old hb8 | exact ((wb0.old ((Below.refl _ _).alloc (Nat.le_refl _) _)).old ((Below.refl _ _).alloc (Nat.le_refl _) _)).old hb8 : IsCode w8 _ _ _)
      replace hB := (by with_reducible first | exact old_trans hB hb8 | exact old_trans (old_alloc hB _) hb8 | exact old_trans (old_alloc (old_alloc hB _) _) hb8 | exact old_trans (old_alloc (old_alloc (old_alloc hB _) _) _) hb8 : Below w.heap.size w w8)
      have VB := (Cel1.made _ _ rfl (.slice ab qs.length cb) 25).later hb8
      (try simp only [World.size_alloc] at VB)
      have V0 := V.1
      have V1 := V.2.1
      have Vz := V.2.2
      have VN0 := VN.1
      have VN1 := VN.2.1
      have VNz := VN.2.2
      have VQ0 := VQ.1
      have VQ1 := VQ.2.1
      have VQz := VQ.2.2
      have VM0 := VM.1
      have VM1 := VM.2.1
      have VMz := VM.2.2
      have VB0 := VB.1
      have VB1 := VB.2.1
      have VBz := VB.2.2
      go_wp2_with fail
      refine (iIsO _ _ _ _ _ Q _ _ _ _ Bk true (isRow_self qs)).mono ?_
      rintro e w9 ⟨rfl, hb9⟩
      clear V0 V1 Vz VN0 VN1 VNz VQ0 VQ1 VQz VM0 VM1 VMz VB0 VB1 VBz
      replace V := (by with_reducible first | exact V.later hb9 | exact V.drew.later hb9 | exact (V.alloc _).later hb9 | exact ((V.alloc _).alloc _).later hb9 | exact (((V.alloc _).alloc _).alloc _).later hb9 : Cel1 w9 _ _)
      replace VN := (by with_reducible first | exact VN.later hb9 | exact VN.drew.later hb9 | exact (VN.alloc _).later hb9 | exact ((VN.alloc _).alloc _).later hb9 | exact (((VN.alloc _).alloc _).alloc _).later hb9 : Cel1 w9 _ _)
      replace VQ := (by with_reducible first | exact VQ.later hb9 | exact VQ.drew.later hb9 | exact (VQ.alloc _).later hb9 | exact ((VQ.alloc _).alloc _).later hb9 | exact (((VQ.alloc _).alloc _).alloc _).later hb9 : Cel1 w9 _ _)
      replace VM := (by with_reducible first | exact VM.later hb9 | exact VM.drew.later hb9 | exact (VM.alloc _).later hb9 | exact ((VM.alloc _).alloc _).later hb9 | exact (((VM.alloc _).alloc _).alloc _).later hb9 : Cel1 w9 _ _)
      replace VB := (by with_reducible first | exact VB.later hb9 | exact VB.drew.later hb9 | exact (VB.alloc _).later hb9 | exact ((VB.alloc _).alloc _).later hb9 | exact (((VB.alloc _).alloc _).alloc _).later hb9 : Cel1 w9 _ _)
      replace O := (by with_reducible first | exact O.later hb9 | exact O.drew.later hb9 | exact (O.alloc _).later hb9 | exact ((O.alloc _).alloc _).later hb9 | exact (((O.alloc _).alloc _).alloc _).later hb9 : OB w9 _ _ _ _)
      replace Q := (by with_reducible first | exact Q.later hb9 | exact Q.drew.later hb9 | exact (Q.alloc _).later hb9 | exact ((Q.alloc _).alloc _).later hb9 | exact (((Q.alloc _).alloc _).alloc _).later hb9 : OB w9 _ _ _ _)
      replace M := (by with_reducible first | exact M.later hb9 | exact M.drew.later hb9 | exact (M.alloc _).later hb9 | exact ((M.alloc _).alloc _).later hb9 | exact (((M.alloc _).alloc _).alloc _).later hb9 : OB w9 _ _ _ _)
      replace Bk := (by with_reducible first | exact Bk.later hb9 | exact Bk.drew.later hb9 | exact (Bk.alloc _).later hb9 | exact ((Bk.alloc _).alloc _).later hb9 | exact (((Bk.alloc _).alloc _).alloc _).later hb9 : OB w9 _ _ _ _)
      replace wb0 := (by with_reducible first | exact wb0.old hb9 | exact (wb0.old ((Below.refl _ _).alloc (Nat.le_refl _) _)).old hb9 | exact ((wb0.old ((Below.refl _ _).alloc (Nat.le_refl _) _)).old ((Below.refl _ _).alloc (Nat.le_refl _) _)).old hb9 : IsCode w9 _ _ _)
      replace hB := (by with_reducible first | exact old_trans hB hb9 | exact old_trans (old_alloc hB _) hb9 | exact old_trans (old_alloc (old_alloc hB _) _) hb9 | exact old_trans (old_alloc (old_alloc (old_alloc hB _) _) _) hb9 : Below w.heap.size w w9)
      have V0 := V.1
      have V1 := V.2.1
      have Vz := V.2.2
      have VN0 := VN.1
      have VN1 := VN.2.1
      have VNz := VN.2.2
      have VQ0 := VQ.1
      have VQ1 := VQ.2.1
      have VQz := VQ.2.2
      have VM0 := VM.1
      have VM1 := VM.2.1
      have VMz := VM.2.2
      have VB0 := VB.1
      have VB1 := VB.2.1
      have VBz := VB.2.2
      go_wp2
      go_ret
      exact ⟨rfl, (by repeat (first | exact hB | exact Below.refl _ _ | refine Below.drew ?_ | refine old_alloc ?_ _ | refine old_trans ?_ (by assumption)))⟩
  case true =>
    go_wp2_with fail
    refine (iLessYes _ _ _ _ _ (O.alloc _) hp).mono ?_
    rintro e w2 ⟨⟨an, cn, rfl, Nn⟩, hb2⟩
    replace O := (by with_reducible first | exact O.later hb2 | exact O.drew.later hb2 | exact (O.alloc _).later hb2 | exact ((O.alloc _).alloc _).later hb2 | exact (((O.alloc _).alloc _).alloc _).later hb2 : OB w2 _ _ _ _)
    replace wb0 := (by with_reducible first | exact wb0.old hb2 | exact (wb0.old ((Below.refl _ _).alloc (Nat.le_refl _) _)).old hb2 | exact ((wb0.old ((Below.refl _ _).alloc (Nat.le_refl _) _)).old ((Below.refl _ _).alloc (Nat.le_refl _) _)).old hb2 : IsCode w2 _ _ _)
    replace hB := (by with_reducible first | exact old_trans hB hb2 | exact old_trans (old_alloc hB _) hb2 | exact old_trans (old_alloc (old_alloc hB _) _) hb2 | exact old_trans (old_alloc (old_alloc (old_alloc hB _) _) _) hb2 : Below w.heap.size w w2)
    have V := (Cel1.made _ _ rfl (.slice av ps.length cv) 25).later hb2
    (try simp only [World.size_alloc] at V)
    have V0 := V.1
    have V1 := V.2.1
    have Vz := V.2.2
    go_wp2_with fail
    refine (sOkO _ _ _ _ _ (O.alloc _) 64 true hp).mono ?_
    rintro e w3 ⟨rfl, hb3⟩
    clear V0 V1 Vz
    replace V := (by with_reducible first | exact V.later hb3 | exact V.drew.later hb3 | exact (V.alloc _).later hb3 | exact ((V.alloc _).alloc _).later hb3 | exact (((V.alloc _).alloc _).alloc _).later hb3 : Cel1 w3 _ _)
    replace O := (by with_reducible first | exact O.later hb3 | exact O.drew.later hb3 | exact (O.alloc _).later hb3 | exact ((O.alloc _).alloc _).later hb3 | exact (((O.alloc _).alloc _).alloc _).later hb3 : OB w3 _ _ _ _)
    replace Nn := (by with_reducible first | exact Nn.later hb3 | exact Nn.drew.later hb3 | exact (Nn.alloc _).later hb3 | exact ((Nn.alloc _).alloc _).later hb3 | exact (((Nn.alloc _).alloc _).alloc _).later hb3 : OB w3 _ _ _ _)
    replace wb0 := (by with_reducible first | exact wb0.old hb3 | exact (wb0.old ((Below.refl _ _).alloc (Nat.le_refl _) _)).old hb3 | exact ((wb0.old ((Below.refl _ _).alloc (Nat.le_refl _) _)).old ((Below.refl _ _).alloc (Nat.le_refl _) _)).old hb3 : IsCode w3 _ _ _)
    replace hB := (by with_reducible first | exact old_trans hB hb3 | exact old_trans (old_alloc hB _) hb3 | exact old_trans (old_alloc (old_alloc hB _) _) hb3 | exact old_trans (old_alloc (old_alloc (old_alloc hB _) _) _) hb3 : Below w.heap.size w w3)
    have VN := (Cel1.made _ _ rfl (.slice an (lessL ps).length cn) 25).later hb3
    (try simp only [World.size_alloc] at VN)
    have V0 := V.1
    have V1 := V.2.1
    have Vz := V.2.2
    have VN0 := VN.1
    have VN1 := VN.2.1
    have VNz := VN.2.2
    go_wp2_with fail
    refine (iMoreYes _ _ _ _ _ Nn (less_ok hp)).mono ?_
    rintro e w4 ⟨⟨ax, cx, rfl, X⟩, hb4⟩
    clear V0 V1 Vz VN0 VN1 VNz
    replace V := (by with_reducible first | exact V.later hb4 | exact V.drew.later hb4 | exact (V.alloc _).later hb4 | exact ((V.alloc _).alloc _).later hb4 | exact (((V.alloc _).alloc _).alloc _).later hb4 : Cel1 w4 _ _)
    replace VN := (by with_reducible first | exact VN.later hb4 | exact VN.drew.later hb4 | exact (VN.alloc _).later hb4 | exact ((VN.alloc _).alloc _).later hb4 | exact (((VN.alloc _).alloc _).alloc _).later hb4 : Cel1 w4 _ _)
    replace O := (by with_reducible first | exact O.later hb4 | exact O.drew.later hb4 | exact (O.alloc _).later hb4 | exact ((O.alloc _).alloc _).later hb4 | exact (((O.alloc _).alloc _).alloc _).later hb4 : OB w4 _ _ _ _)
    replace Nn := (by with_reducible first | exact Nn.later hb4 | exact Nn.drew.later hb4 | exact (Nn.alloc _).later hb4 | exact ((Nn.alloc _).alloc _).later hb4 | exact (((Nn.alloc _).alloc _).alloc _).later hb4 : OB w4 _ _ _ _)
    replace wb0 := (by with_reducible first | exact wb0.old hb4 | exact (wb0.old ((Below.refl _ _).alloc (Nat.le_refl _) _)).old hb4 | exact ((wb0.old ((Below.refl _ _).alloc (Nat.le_refl _) _)).old ((Below.refl _ _).alloc (Nat.le_refl _) _)).old hb4 : IsCode w4 _ _ _)
    replace hB := (by with_reducible first | exact old_trans hB hb4 | exact old_trans (old_alloc hB _) hb4 | exact old_trans (old_alloc (old_alloc hB _) _) hb4 | exact old_trans (old_alloc (old_alloc (old_alloc hB _) _) _) hb4 : Below w.heap.size w w4)
    have V0 := V.1
    have V1 := V.2.1
    have Vz := V.2.2
    have VN0 := VN.1
    have VN1 := VN.2.1
    have VNz := VN.2.2
    go_wp2_with fail
    refine (iOkO _ _ _ _ _ (Nn.alloc _) 32 true (less_ok hp)).mono ?_
    rintro e w5 ⟨rfl, hb5⟩
    clear V0 V1 Vz VN0 VN1 VNz
    replace V := (by with_reducible first | exact V.later hb5 | exact V.drew.later hb5 | exact (V.alloc _).later hb5 | exact ((V.alloc _).alloc _).later hb5 | exact (((V.alloc _).alloc _).alloc _).later hb5 : Cel1 w5 _ _)
    replace VN := (by with_reducible first | exact VN.later hb5 | exact VN.drew.later hb5 | exact (VN.alloc _).later hb5 | exact ((VN.alloc _).alloc _).later hb5 | exact (((VN.alloc _).alloc _).alloc _).later hb5 : Cel1 w5 _ _)
    replace O := (by with_reducible first | exact O.later hb5 | exact O.drew.later hb5 | exact (O.alloc _).later hb5 | exact ((O.alloc _).alloc _).later hb5 | exact (((O.alloc _).alloc _).alloc _).later hb5 : OB w5 _ _ _ _)
    replace Nn := (by with_reducible first | exact Nn.later hb5 | exact Nn.drew.later hb5 | exact (Nn.alloc _).later hb5 | exact ((Nn.alloc _).alloc _).later hb5 | exact (((Nn.alloc _).alloc _).alloc _).later hb5 : OB w5 _ _ _ _)
    replace X := (by with_reducible first | exact X.later hb5 | exact X.drew.later hb5 | exact (X.alloc _).later hb5 | exact ((X.alloc _).alloc _).later hb5 | exact (((X.alloc _).alloc _).alloc _).later hb5 : OB w5 _ _ _ _)
    replace wb0 := (by with_reducible first | exact wb0.old hb5 | exact (wb0.old ((Below.refl _ _).alloc (Nat.le_refl _) _)).old hb5 | exact ((wb0.old ((Below.refl _ _).alloc (Nat.le_refl _) _)).old ((Below.refl _ _).alloc (Nat.le_refl _) _)).old hb5 : IsCode w5 _ _ _)
    replace hB := (by with_reducible first | exact old_trans hB hb5 | exact old_trans (old_alloc hB _) hb5 | exact old_trans (old_alloc (old_alloc hB _) _) hb5 | exact old_trans (old_alloc (old_alloc (old_alloc hB _) _) _) hb5 : Below w.heap.size w w5)
    have VX := (Cel1.made _ _ rfl (.slice ax (moreL (lessL ps)).length cx) 25).later hb5
    (try simp only [World.size_alloc] at VX)
    have V0 := V.1
    have V1 := V.2.1
    have Vz := V.2.2
    have VN0 := VN.1
    have VN1 := VN.2.1
    have VNz := VN.2.2
    have VX0 := VX.1
    have VX1 := VX.2.1
    have VXz := VX.2.2
    go_wp2_with fail
    refine (iIsO _ _ _ _ _ O _ _ _ _ X true (less_more hp)).mono ?_
    rintro e w6 ⟨rfl, hb6⟩
    clear V0 V1 Vz VN0 VN1 VNz VX0 VX1 VXz
    replace V := (by with_reducible first | exact V.later hb6 | exact V.drew.later hb6 | exact (V.alloc _).later hb6 | exact ((V.alloc _).alloc _).later hb6 | exact (((V.alloc _).alloc _).alloc _).later hb6 : Cel1 w6 _ _)
    replace VN := (by with_reducible first | exact VN.later hb6 | exact VN.drew.later hb6 | exact (VN.alloc _).later hb6 | exact ((VN.alloc _).alloc _).later hb6 | exact (((VN.alloc _).alloc _).alloc _).later hb6 : Cel1 w6 _ _)
    replace VX := (by with_reducible first | exact VX.later hb6 | exact VX.drew.later hb6 | exact (VX.alloc _).later hb6 | exact ((VX.alloc _).alloc _).later hb6 | exact (((VX.alloc _).alloc _).alloc _).later hb6 : Cel1 w6 _ _)
    replace O := (by with_reducible first | exact O.later hb6 | exact O.drew.later hb6 | exact (O.alloc _).later hb6 | exact ((O.alloc _).alloc _).later hb6 | exact (((O.alloc _).alloc _).alloc _).later hb6 : OB w6 _ _ _ _)
    replace Nn := (by with_reducible first | exact Nn.later hb6 | exact Nn.drew.later hb6 | exact (Nn.alloc _).later hb6 | exact ((Nn.alloc _).alloc _).later hb6 | exact (((Nn.alloc _).alloc _).alloc _).later hb6 : OB w6 _ _ _ _)
    replace X := (by with_reducible first | exact X.later hb6 | exact X.drew.later hb6 | exact (X.alloc _).later hb6 | exact ((X.alloc _).alloc _).later hb6 | exact (((X.alloc _).alloc _).alloc _).later hb6 : OB w6 _ _ _ _)
    replace wb0 := (by with_reducible first | exact wb0.old hb6 | exact (wb0.old ((Below.refl _ _).alloc (Nat.le_refl _) _)).old hb6 | exact ((wb0.old ((Below.refl _ _).alloc (Nat.le_refl _) _)).old ((Below.refl _ _).alloc (Nat.le_refl _) _)).old hb6 : IsCode w6 _ _ _)
    replace hB := (by with_reducible first | exact old_trans hB hb6 | exact old_trans (old_alloc hB _) hb6 | exact old_trans (old_alloc (old_alloc hB _) _) hb6 | exact old_trans (old_alloc (old_alloc (old_alloc hB _) _) _) hb6 : Below w.heap.size w w6)
    have V0 := V.1
    have V1 := V.2.1
    have Vz := V.2.2
    have VN0 := VN.1
    have VN1 := VN.2.1
    have VNz := VN.2.2
    have VX0 := VX.1
    have VX1 := VX.2.1
    have VXz := VX.2.2
    go_wp2_with fail
    refine (drawBoxMore _ a0 len0 cap0 wb0).mono ?_
    rintro e w7 ⟨⟨aq, cq, qs, rfl, hql, Q⟩, hb7⟩
    clear V0 V1 Vz VN0 VN1 VNz VX0 VX1 VXz
    replace V := (by with_reducible first | exact V.later hb7 | exact V.drew.later hb7 | exact (V.alloc _).later hb7 | exact ((V.alloc _).alloc _).later hb7 | exact (((V.alloc _).alloc _).alloc _).later hb7 : Cel1 w7 _ _)
    replace VN := (by with_reducible first | exact VN.later hb7 | exact VN.drew.later hb7 | exact (VN.alloc _).later hb7 | exact ((VN.alloc _).alloc _).later hb7 | exact (((VN.alloc _).alloc _).alloc _).later hb7 : Cel1 w7 _ _)
    replace VX := (by with_reducible first | exact VX.later hb7 | exact VX.drew.later hb7 | exact (VX.alloc _).later hb7 | exact ((VX.alloc _).alloc _).later hb7 | exact (((VX.alloc _).alloc _).alloc _).later hb7 : Cel1 w7 _ _)
    replace O := (by with_reducible first | exact O.later hb7 | exact O.drew.later hb7 | exact (O.alloc _).later hb7 | exact ((O.alloc _).alloc _).later hb7 | exact (((O.alloc _).alloc _).alloc _).later hb7 : OB w7 _ _ _ _)
    replace Nn := (by with_reducible first | exact Nn.later hb7 | exact Nn.drew.later hb7 | exact (Nn.alloc _).later hb7 | exact ((Nn.alloc _).alloc _).later hb7 | exact (((Nn.alloc _).alloc _).alloc _).later hb7 : OB w7 _ _ _ _)
    replace X := (by with_reducible first | exact X.later hb7 | exact X.drew.later hb7 | exact (X.alloc _).later hb7 | exact ((X.alloc _).alloc _).later hb7 | exact (((X.alloc _).alloc _).alloc _).later hb7 : OB w7 _ _ _ _)
    replace wb0 := (by with_reducible first | exact wb0.old hb7 | exact (wb0.old ((Below.refl _ _).alloc (Nat.le_refl _) _)).old hb7 | exact ((wb0.old ((Below.refl _ _).alloc (Nat.le_refl _) _)).old ((Below.refl _ _).alloc (Nat.le_refl _) _)).old hb7 : IsCode w7 _ _ _)
    replace hB := (by with_reducible first | exact old_trans hB hb7 | exact old_trans (old_alloc hB _) hb7 | exact old_trans (old_alloc (old_alloc hB _) _) hb7 | exact old_trans (old_alloc (old_alloc (old_alloc hB _) _) _) hb7 : Below w.heap.size w w7)
    have V0 := V.1
    have V1 := V.2.1
    have Vz := V.2.2
    have VN0 := VN.1
    have VN1 := VN.2.1
    have VNz := VN.2.2
    have VX0 := VX.1
    have VX1 := VX.2.1
    have VXz := VX.2.2
    cases hq : okRow 32 qs
    case false =>
      go_wp2_with fail
      refine (iMoreNo _ _ _ _ _ (Q.alloc _) hq).mono ?_
      rintro e w8 ⟨rfl, hb8⟩
      clear V0 V1 Vz VN0 VN1 VNz VX0 VX1 VXz
      replace V := (by with_reducible first | exact V.later hb8 | exact V.drew.later hb8 | exact (V.alloc _).later hb8 | exact ((V.alloc _).alloc _).later hb8 | exact (((V.alloc _).alloc _).alloc _).later hb8 : Cel1 w8 _ _)
      replace VN := (by with_reducible first | exact VN.later hb8 | exact VN.drew.later hb8 | exact (VN.alloc _).later hb8 | exact ((VN.alloc _).alloc _).later hb8 | exact (((VN.alloc _).alloc _).alloc _).later hb8 : Cel1 w8 _ _)
      replace VX := (by with_reducible first | exact VX.later hb8 | exact VX.drew.later hb8 | exact (VX.alloc _).later hb8 | exact ((VX.alloc _).alloc _).later hb8 | exact (((VX.alloc _).alloc _).alloc _).later hb8 : Cel1 w8 _ _)
      replace O := (by with_reducible first | exact O.later hb8 | exact O.drew.later hb8 | exact (O.alloc _).later hb8 | exact ((O.alloc _).alloc _).later hb8 | exact (((O.alloc _).alloc _).alloc _).later hb8 : OB w8 _ _ _ _)
      replace Nn := (by with_reducible first | exact Nn.later hb8 | exact Nn.drew.later hb8 | exact (Nn.alloc _).later hb8 | exact ((Nn.alloc _).alloc _).later hb8 | exact (((Nn.alloc _).alloc _).alloc _).later hb8 : OB w8 _ _ _ _)
      replace X := (by with_reducible first | exact X.later hb8 | exact X.drew.later hb8 | exact (X.alloc _).later hb8 | exact ((X.alloc _).alloc _).later hb8 | exact (((X.alloc _).alloc _).alloc _).later hb8 : OB w8 _ _ _ _)
      replace Q := (by with_reducible first | exact Q.later hb8 | exact Q.drew.later hb8 | exact (Q.alloc _).later hb8 | exact ((Q.alloc _).alloc _).later hb8 | exact (((Q.alloc _).alloc _).alloc _).later hb8 : OB w8 _ _ _ _)
      replace wb0 := (by with_reducible first | exact wb0.old hb8 | exact (wb0.old ((Below.refl _ _).alloc (Nat.le_refl _) _)).old hb8 | exact ((wb0.old ((Below.refl _ _).alloc (Nat.le_refl _) _)).old ((Below.refl _ _).alloc (Nat.le_refl _) _)).old hb8 : IsCode w8 _ _ _)
      replace hB := (by with_reducible first | exact old_trans hB hb8 | exact old_trans (old_alloc hB _) hb8 | exact old_trans (old_alloc (old_alloc hB _) _) hb8 | exact old_trans (old_alloc (old_alloc (old_alloc hB _) _) _) hb8 : Below w.heap.size w w8)
      have VQ := (Cel1.made _ _ rfl (.slice aq qs.length cq) 25).later hb8
      (try simp only [World.size_alloc] at VQ)
      have V0 := V.1
      have V1 := V.2.1
      have Vz := V.2.2
      have VN0 := VN.1
      have VN1 := VN.2.1
      have VNz := VN.2.2
      have VX0 := VX.1
      have VX1 := VX.2.1
      have VXz := VX.2.2
      have VQ0 := VQ.1
      have VQ1 := VQ.2.1
      have VQz := VQ.2.2
      go_wp2_with fail
      refine (sOkO _ _ _ _ _ (Q.alloc _) 32 false hq).mono ?_
      rintro e w9 ⟨rfl, hb9⟩
      clear V0 V1 Vz VN0 VN1 VNz VX0 VX1 VXz VQ0 VQ1 VQz
      replace V := (by with_reducible first | exact V.later hb9 | exact V.drew.later hb9 | exact (V.alloc _).later hb9 | exact ((V.alloc _).alloc _).later hb9 | exact (((V.alloc _).alloc _).alloc _).later hb9 : Cel1 w9 _ _)
      replace VN := (by with_reducible first | exact VN.later hb9 | exact VN.drew.later hb9 | exact (VN.alloc _).later hb9 | exact ((VN.alloc _).alloc _).later hb9 | exact (((VN.alloc _).alloc _).alloc _).later hb9 : Cel1 w9 _ _)
      replace VX := (by with_reducible first | exact VX.later hb9 | exact VX.drew.later hb9 | exact (VX.alloc _).later hb9 | exact ((VX.alloc _).alloc _).later hb9 | exact (((VX.alloc _).alloc _).alloc _).later hb9 : Cel1 w9 _ _)
      replace VQ := (by with_reducible first | exact VQ.later hb9 | exact VQ.drew.later hb9 | exact (VQ.alloc _).later hb9 | exact ((VQ.alloc _).alloc _).later hb9 | exact (((VQ.alloc _).alloc _).alloc _).later hb9 : Cel1 w9 _ _)
      replace O := (by with_reducible first | exact O.later hb9 | exact O.drew.later hb9 | exact (O.alloc _).later hb9 | exact ((O.alloc _).alloc _).later hb9 | exact (((O.alloc _).alloc _).alloc _).later hb9 : OB w9 _ _ _ _)
      replace Nn := (by with_reducible first | exact Nn.later hb9 | exact Nn.drew.later hb9 | exact (Nn.alloc _).later hb9 | exact ((Nn.alloc _).alloc _).later hb9 | exact (((Nn.alloc _).alloc _).alloc _).later hb9 : OB w9 _ _ _ _)
      replace X := (by with_reducible first | exact X.later hb9 | exact X.drew.later hb9 | exact (X.alloc _).later hb9 | exact ((X.alloc _).alloc _).later hb9 | exact (((X.alloc _).alloc _).alloc _).later hb9 : OB w9 _ _ _ _)
      replace Q := (by with_reducible first | exact Q.later hb9 | exact Q.drew.later hb9 | exact (Q.alloc _).later hb9 | exact ((Q.alloc _).alloc _).later hb9 | exact (((Q.alloc _).alloc _).alloc _).later hb9 : OB w9 _ _ _ _)
      replace wb0 := (by with_reducible first | exact wb0.old hb9 | exact (wb0.old ((Below.refl _ _).alloc (Nat.le_refl _) _)).old hb9 | exact ((wb0.old ((Below.refl _ _).alloc (Nat.le_refl _) _)).old ((Below.refl _ _).alloc (Nat.le_refl _) _)).old hb9 : IsCode w9 _ _ _)
      replace hB := (by with_reducible first | exact old_trans hB hb9 | exact old_trans (old_alloc hB _) hb9 | exact old_trans (old_alloc (old_alloc hB _) _) hb9 | exact old_trans (old_alloc (old_alloc (old_alloc hB _) _) _) hb9 : Below w.heap.size w w9)
      have VM := (Cel1.made _ _ rfl (.slice none 0 0) 25).later hb9
      (try simp only [World.size_alloc] at VM)
      have V0 := V.1
      have V1 := V.2.1
      have Vz := V.2.2
      have VN0 := VN.1
      have VN1 := VN.2.1
      have VNz := VN.2.2
      have VX0 := VX.1
      have VX1 := VX.2.1
      have VXz := VX.2.2
      have VQ0 := VQ.1
      have VQ1 := VQ.2.1
      have VQz := VQ.2.2
      have VM0 := VM.1
      have VM1 := VM.2.1
      have VMz := VM.2.2
      go_wp2
      go_ret
      exact ⟨rfl, (by repeat (first | exact hB | exact Below.refl _ _ | refine Below.drew ?_ | refine old_alloc ?_ _ | refine old_trans ?_ (by assumption)))⟩
    case true =>
      go_wp2_with fail
      refine (iMoreYes _ _ _ _ _ (Q.alloc _) hq).mono ?_
      rintro e w8 ⟨⟨am, cm, rfl, M⟩, hb8⟩
      clear V0 V1 Vz VN0 VN1 VNz VX0 VX1 VXz
      replace V := (by with_reducible first | exact V.later hb8 | exact V.drew.later hb8 | exact (V.alloc _).later hb8 | exact ((V.alloc _).alloc _).later hb8 | exact (((V.alloc _).alloc _).alloc _).later hb8 : Cel1 w8 _ _)
      replace VN := (by with_reducible first | exact VN.later hb8 | exact VN.drew.later hb8 | exact (VN.alloc _).later hb8 | exact ((VN.alloc _).alloc _).later hb8 | exact (((VN.alloc _).alloc _).alloc _).later hb8 : Cel1 w8 _ _)
      replace VX := (by with_reducible first | exact VX.later hb8 | exact VX.drew.later hb8 | exact (VX.alloc _).later hb8 | exact ((VX.alloc _).alloc _).later hb8 | exact (((VX.alloc _).alloc _).alloc _).later hb8 : Cel1 w8 _ _)
      replace O := (by with_reducible first | exact O.later hb8 | exact O.drew.later hb8 | exact (O.alloc _).later hb8 | exact ((O.alloc _).alloc _).later hb8 | exact (((O.alloc _).alloc _).alloc _).later hb8 : OB w8 _ _ _ _)
      replace Nn := (by with_reducible first | exact Nn.later hb8 | exact Nn.drew.later hb8 | exact (Nn.alloc _).later hb8 | exact ((Nn.alloc _).alloc _).later hb8 | exact (((Nn.alloc _).alloc _).alloc _).later hb8 : OB w8 _ _ _ _)
      replace X := (by with_reducible first | exact X.later hb8 | exact X.drew.later hb8 | exact (X.alloc _).later hb8 | exact ((X.alloc _).alloc _).later hb8 | exact (((X.alloc _).alloc _).alloc _).later hb8 : OB w8 _ _ _ _)
      replace Q := (by with_reducible first | exact Q.later hb8 | exact Q.drew.later hb8 | exact (Q.alloc _).later hb8 | exact ((Q.alloc _).alloc _).later hb8 | exact (((Q.alloc _).alloc _).alloc _).later hb8 : OB w8 _ _ _ _)
      replace wb0 := (by with_reducible first | exact wb0.old hb8 | exact (wb0.old ((Below.refl _ _).alloc (Nat.le_refl _) _)).old hb8 | exact ((wb0.old ((Below.refl _ _).alloc (Nat.le_refl _) _)).old ((Below.refl _ _).alloc (Nat.le_refl _) _)).old hb8 : IsCode w8 _ _ _)
      replace hB := (by with_reducible first | exact old_trans hB hb8 | exact old_trans (old_alloc hB _) hb8 | exact old_trans (old_alloc (old_alloc hB _) _) hb8 | exact old_trans (old_alloc (old_alloc (old_alloc hB _) _) _) hb8 : Below w.heap.size w w8)
      have VQ := (Cel1.made _ _ rfl (.slice aq qs.length cq) 25).later hb8
      (try simp only [World.size_alloc] at VQ)
      have V0 := V.1
      have V1 := V.2.1
      have Vz := V.2.2
      have VN0 := VN.1
      have VN1 := VN.2.1
      have VNz := VN.2.2
      have VX0 := VX.1
      have VX1 := VX.2.1
      have VXz := VX.2.2
      have VQ0 := VQ.1
      have VQ1 := VQ.2.1
      have VQz := VQ.2.2
      go_wp2_with fail
      refine (sOkO _ _ _ _ _ (Q.alloc _) 32 true hq).mono ?_
      rintro e w9 ⟨rfl, hb9⟩
      clear V0 V1 Vz VN0 VN1 VNz VX0 VX1 VXz VQ0 VQ1 VQz
      replace V := (by with_reducible first | exact V.later hb9 | exact V.drew.later hb9 | exact (V.alloc _).later hb9 | exact ((V.alloc _).alloc _).later hb9 | exact (((V.alloc _).alloc _).alloc _).later hb9 : Cel1 w9 _ _)
      replace VN := (by with_reducible first | exact VN.later hb9 | exact VN.drew.later hb9 | exact (VN.alloc _).later hb9 | exact ((VN.alloc _).alloc _).later hb9 | exact (((VN.alloc _).alloc _).alloc _).later hb9 : Cel1 w9 _ _)
      replace VX := (by with_reducible first | exact VX.later hb9 | exact VX.drew.later hb9 | exact (VX.alloc _).later hb9 | exact ((VX.alloc _).alloc _).later hb9 | exact (((VX.alloc _).alloc _).alloc _).later hb9 : Cel1 w9 _ _)
      replace VQ := (by with_reducible first | exact VQ.later hb9 | exact VQ.drew.later hb9 | exact (VQ.alloc _).later hb9 | exact ((VQ.alloc _).alloc _).later hb9 | exact (((VQ.alloc _).alloc _).alloc _).later hb9 : Cel1 w9 _ _)
      replace O := (by with_reducible first | exact O.later hb9 | exact O.drew.later hb9 | exact (O.alloc _).later hb9 | exact ((O.alloc _).alloc _).later hb9 | exact (((O.alloc _).alloc _).alloc _).later hb9 : OB w9 _ _ _ _)
      replace Nn := (by with_reducible first | exact Nn.later hb9 | exact Nn.drew.later hb9 | exact (Nn.alloc _).later hb9 | exact ((Nn.alloc _).alloc _).later hb9 | exact (((Nn.alloc _).alloc _).alloc _).later hb9 : OB w9 _ _ _ _)
      replace X := (by with_reducible first | exact X.later hb9 | exact X.drew.later hb9 | exact (X.alloc _).later hb9 | exact ((X.alloc _).alloc _).later hb9 | exact (((X.alloc _).alloc _).alloc _).later hb9 : OB w9 _ _ _ _)
      replace Q := (by with_reducible first | exact Q.later hb9 | exact Q.drew.later hb9 | exact (Q.alloc _).later hb9 | exact ((Q.alloc _).alloc _).later hb9 | exact (((Q.alloc _).alloc _).alloc _).later hb9 : OB w9 _ _ _ _)
      replace M := (by with_reducible first | exact M.later hb9 | exact M.drew.later hb9 | exact (M.alloc _).later hb9 | exact ((M.alloc _).alloc _).later hb9 | exact (((M.alloc _).alloc _).alloc _).later hb9 : OB w9 _ _ _ _)
      replace wb0 := (by with_reducible first | exact wb0.old hb9 | exact (wb0.old ((Below.refl _ _).alloc (Nat.le_refl _) _)).old hb9 | exact ((wb0.old ((Below.refl _ _).alloc (Nat.le_refl _) _)).old ((Below.refl _ _).alloc (Nat.le_refl _) _)).old hb9 : IsCode w9 _ _ _)
      replace hB := (by with_reducible first | exact old_trans hB hb9 | exact old_trans (old_alloc hB _) hb9 | exact old_trans (old_alloc (old_alloc hB _) _) hb9 | exact old_trans (old_alloc (old_alloc (old_alloc hB _) _) _) hb9 : Below w.heap.size w w9)
      have VM := (Cel1.made _ _ rfl (.slice am (moreL qs).length cm) 25).later hb9
      (try simp only [World.size_alloc] at VM)
      have V0 := V.1
      have V1 := V.2.1
      have Vz := V.2.2
      have VN0 := VN.1
      have VN1 := VN.2.1
      have VNz := VN.2.2
      have VX0 := VX.1
      have VX1 := VX.2.1
      have VXz := VX.2.2
      have VQ0 := VQ.1
      have VQ1 := VQ.2.1
      have VQz := VQ.2.2
      have VM0 := VM.1
      have VM1 := VM.2.1
      have VMz := VM.2.2
      go_wp2_with fail
      refine (iLessYes _ _ _ _ _ M (more_ok hq)).mono ?_
      rintro e w10 ⟨⟨ab, cb, rfl, Bk⟩, hb10⟩
      clear V0 V1 Vz VN0 VN1 VNz VX0 VX1 VXz VQ0 VQ1 VQz VM0 VM1 VMz
      replace V := (by with_reducible first | exact V.later hb10 | exact V.drew.later hb10 | exact (V.alloc _).later hb10 | exact ((V.alloc _).alloc _).later hb10 | exact (((V.alloc _).alloc _).alloc _).later hb10 : Cel1 w10 _ _)
      replace VN := (by with_reducible first | exact VN.later hb10 | exact VN.drew.later hb10 | exact (VN.alloc _).later hb10 | exact ((VN.alloc _).alloc _).later hb10 | exact (((VN.alloc _).alloc _).alloc _).later hb10 : Cel1 w10 _ _)
      replace VX := (by with_reducible first | exact VX.later hb10 | exact VX.drew.later hb10 | exact (VX.alloc _).later hb10 | exact ((VX.alloc _).alloc _).later hb10 | exact (((VX.alloc _).alloc _).alloc _).later hb10 : Cel1 w10 _ _)
      replace VQ := (by with_reducible first | exact VQ.later hb10 | exact VQ.drew.later hb10 | exact (VQ.alloc _).later hb10 | exact ((VQ.alloc _).alloc _).later hb10 | exact (((VQ.alloc _).alloc _).alloc _).later hb10 : Cel1 w10 _ _)
      replace VM := (by with_reducible first | exact VM.later hb10 | exact VM.drew.later hb10 | exact (VM.alloc _).later hb10 | exact ((VM.alloc _).alloc _).later hb10 | exact (((VM.alloc _).alloc _).alloc _).later hb10 : Cel1 w10 _ _)
      replace O := (by with_reducible first | exact O.later hb10 | exact O.drew.later hb10 | exact (O.alloc _).later hb10 | exact ((O.alloc _).alloc _).later hb10 | exact (((O.alloc _).alloc _).alloc _).later hb10 : OB w10 _ _ _ _)
      replace Nn := (by with_reducible first | exact Nn.later hb10 | exact Nn.drew.later hb10 | exact (Nn.alloc _).later hb10 | exact ((Nn.alloc _).alloc _).later hb10 | exact (((Nn.alloc _).alloc _).alloc _).later hb10 : OB w10 _ _ _ _)
      replace X := (by with_reducible first | exact X.later hb10 | exact X.drew.later hb10 | exact (X.alloc _).later hb10 | exact ((X.alloc _).alloc _).later hb10 | exact (((X.alloc _).alloc _).alloc _).later hb10 : OB w10 _ _ _ _)
      replace Q := (by with_reducible first | exact Q.later hb10 | exact Q.drew.later hb10 | exact (Q.alloc _).later hb10 | exact ((Q.alloc _).alloc _).later hb10 | exact (((Q.alloc _).alloc _).alloc _).later hb10 : OB w10 _ _ _ _)
      replace M := (by with_reducible first | exact M.later hb10 | exact M.drew.later hb10 | exact (M.alloc _).later hb10 | exact ((M.alloc _).alloc _).later hb10 | exact (((M.alloc _).alloc _).alloc _).later hb10 : OB w10 _ _ _ _)
      replace wb0 := (by with_reducible first | exact wb0.old hb10 | exact (wb0.old ((Below.refl _ _).alloc (Nat.le_refl _) _)).old hb10 | exact ((wb0.old ((Below.refl _ _).alloc (Nat.le_refl _) _)).old ((Below.refl _ _).alloc (Nat.le_refl _) _)).old hb10 : IsCode w10 _ _ _)
      replace hB := (by with_reducible first | exact old_trans hB hb10 | exact old_trans (old_alloc hB _) hb10 | exact old_trans (old_alloc (old_alloc hB _) _) hb10 | exact old_trans (old_alloc (old_alloc (old_alloc hB _) _) _) hb10 : Below w.heap.size w w10)
      have V0 := V.1
      have V1 := V.2.1
      have Vz := V.2.2
      have VN0 := VN.1
      have VN1 := VN.2.1
      have VNz := VN.2.2
      have VX0 := VX.1
      have VX1 := VX.2.1
      have VXz := VX.2.2
      have VQ0 := VQ.1
      have VQ1 := VQ.2.1
      have VQz := VQ.2.2
      have VM0 := VM.1
      have VM1 := VM.2.1
      have VMz := VM.2.2
      rw [more_less hq] at Bk ⊢
      go_wp2_with fail
      refine (iIsO _ _ _ _ _ (Bk.alloc _) _ _ _ _ (Q.alloc _) true (isRow_self qs)).mono ?_
      rintro e w11 ⟨rfl, hb11⟩
      clear V0 V1 Vz VN0 VN1 VNz VX0 VX1 VXz VQ0 VQ1 VQz VM0 VM1 VMz
      replace V := (by with_reducible first | exact V.later hb11 | exact V.drew.later hb11 | exact (V.alloc _).later hb11 | exact ((V.alloc _).alloc _).later hb11 | exact (((V.alloc _).alloc _).alloc _).later hb11 : Cel1 w11 _ _)
      replace VN := (by with_reducible first | exact VN.later hb11 | exact VN.drew.later hb11 | exact (VN.alloc _).later hb11 | exact ((VN.alloc _).alloc _).later hb11 | exact (((VN.alloc _).alloc _).alloc _).later hb11 : Cel1 w11 _ _)
      replace VX := (by with_reducible first | exact VX.later hb11 | exact VX.drew.later hb11 | exact (VX.alloc _).later hb11 | exact ((VX.alloc _).alloc _).later hb11 | exact (((VX.alloc _).alloc _).alloc _).later hb11 : Cel1 w11 _ _)
      replace VQ := (by with_reducible first | exact VQ.later hb11 | exact VQ.drew.later hb11 | exact (VQ.alloc _).later hb11 | exact ((VQ.alloc _).alloc _).later hb11 | exact (((VQ.alloc _).alloc _).alloc _).later hb11 : Cel1 w11 _ _)
      replace VM := (by with_reducible first | exact VM.later hb11 | exact VM.drew.later hb11 | exact (VM.alloc _).later hb11 | exact ((VM.alloc _).alloc _).later hb11 | exact (((VM.alloc _).alloc _).alloc _).later hb11 : Cel1 w11 _ _)
      replace O := (by with_reducible first | exact O.later hb11 | exact O.drew.later hb11 | exact (O.alloc _).later hb11 | exact ((O.alloc _).alloc _).later hb11 | exact (((O.alloc _).alloc _).alloc _).later hb11 : OB w11 _ _ _ _)
      replace Nn := (by with_reducible first | exact Nn.later hb11 | exact Nn.drew.later hb11 | exact (Nn.alloc _).later hb11 | exact ((Nn.alloc _).alloc _).later hb11 | exact (((Nn.alloc _).alloc _).alloc _).later hb11 : OB w11 _ _ _ _)
      replace X := (by with_reducible first | exact X.later hb11 | exact X.drew.later hb11 | exact (X.alloc _).later hb11 | exact ((X.alloc _).alloc _).later hb11 | exact (((X.alloc _).alloc _).alloc _).later hb11 : OB w11 _ _ _ _)
      replace Q := (by with_reducible first | exact Q.later hb11 | exact Q.drew.later hb11 | exact (Q.alloc _).later hb11 | exact ((Q.alloc _).alloc _).later hb11 | exact (((Q.alloc _).alloc _).alloc _).later hb11 : OB w11 _ _ _ _)
      replace M := (by with_reducible first | exact M.later hb11 | exact M.drew.later hb11 | exact (M.alloc _).later hb11 | exact ((M.alloc _).alloc _).later hb11 | exact (((M.alloc _).alloc _).alloc _).later hb11 : OB w11 _ _ _ _)
      replace Bk := (by with_reducible first | exact Bk.later hb11 | exact Bk.drew.later hb11 | exact (Bk.alloc _).later hb11 | exact ((Bk.alloc _).alloc _).later hb11 | exact (((Bk.alloc _).alloc _).alloc _).later hb11 : OB w11 _ _ _ _)
      replace wb0 := (by with_reducible first | exact wb0.old hb11 | exact (wb0.old ((Below.refl _ _).alloc (Nat.le_refl _) _)).old hb11 | exact ((wb0.old ((Below.refl _ _).alloc (Nat.le_refl _) _)).old ((Below.refl _ _).alloc (Nat.le_refl _) _)).old hb11 : IsCode w11 _ _ _)
      replace hB := (by with_reducible first | exact old_trans hB hb11 | exact old_trans (old_alloc hB _) hb11 | exact old_trans (old_alloc (old_alloc hB _) _) hb11 | exact old_trans (old_alloc (old_alloc (old_alloc hB _) _) _) hb11 : Below w.heap.size w w11)
      have VB := (Cel1.made _ _ rfl (.slice ab qs.length cb) 25).later hb11
      (try simp only [World.size_alloc] at VB)
      have V0 := V.1
      have V1 := V.2.1
      have Vz := V.2.2
      have VN0 := VN.1
      have VN1 := VN.2.1
      have VNz := VN.2.2
      have VX0 := VX.1
      have VX1 := VX.2.1
      have VXz := VX.2.2
      have VQ0 := VQ.1
      have VQ1 := VQ.2.1
      have VQz := VQ.2.2
      have VM0 := VM.1
      have VM1 := VM.2.1
      have VMz := VM.2.2
      have VB0 := VB.1
      have VB1 := VB.2.1
      have VBz := VB.2.2
      go_wp2_with fail
      refine (iIsO _ _ _ _ _ Q _ _ _ _ Bk true (isRow_self qs)).mono ?_
      rintro e w12 ⟨rfl, hb12⟩
      clear V0 V1 Vz VN0 VN1 VNz VX0 VX1 VXz VQ0 VQ1 VQz VM0 VM1 VMz VB0 VB1 VBz
      replace V := (by with_reducible first | exact V.later hb12 | exact V.drew.later hb12 | exact (V.alloc _).later hb12 | exact ((V.alloc _).alloc _).later hb12 | exact (((V.alloc _).alloc _).alloc _).later hb12 : Cel1 w12 _ _)
      replace VN := (by with_reducible first | exact VN.later hb12 | exact VN.drew.later hb12 | exact (VN.alloc _).later hb12 | exact ((VN.alloc _).alloc _).later hb12 | exact (((VN.alloc _).alloc _).alloc _).later hb12 : Cel1 w12 _ _)
      replace VX := (by with_reducible first | exact VX.later hb12 | exact VX.drew.later hb12 | exact (VX.alloc _).later hb12 | exact ((VX.alloc _).alloc _).later hb12 | exact (((VX.alloc _).alloc _).alloc _).later hb12 : Cel1 w12 _ _)
      replace VQ := (by with_reducible first | exact VQ.later hb12 | exact VQ.drew.later hb12 | exact (VQ.alloc _).later hb12 | exact ((VQ.alloc _).alloc _).later hb12 | exact (((VQ.alloc _).alloc _).alloc _).later hb12 : Cel1 w12 _ _)
      replace VM := (by with_reducible first | exact VM.later hb12 | exact VM.drew.later hb12 | exact (VM.alloc _).later hb12 | exact ((VM.alloc _).alloc _).later hb12 | exact (((VM.alloc _).alloc _).alloc _).later hb12 : Cel1 w12 _ _)
      replace VB := (by with_reducible first | exact VB.later hb12 | exact VB.drew.later hb12 | exact (VB.alloc _).later hb12 | exact ((VB.alloc _).alloc _).later hb12 | exact (((VB.alloc _).alloc _).alloc _).later hb12 : Cel1 w12 _ _)
      replace O := (by with_reducible first | exact O.later hb12 | exact O.drew.later hb12 | exact (O.alloc _).later hb12 | exact ((O.alloc _).alloc _).later hb12 | exact (((O.alloc _).alloc _).alloc _).later hb12 : OB w12 _ _ _ _)
      replace Nn := (by with_reducible first | exact Nn.later hb12 | exact Nn.drew.later hb12 | exact (Nn.alloc _).later hb12 | exact ((Nn.alloc _).alloc _).later hb12 | exact (((Nn.alloc _).alloc _).alloc _).later hb12 : OB w12 _ _ _ _)
      replace X := (by with_reducible first | exact X.later hb12 | exact X.drew.later hb12 | exact (X.alloc _).later hb12 | exact ((X.alloc _).alloc _).later hb12 | exact (((X.alloc _).alloc _).alloc _).later hb12 : OB w12 _ _ _ _)
      replace Q := (by with_reducible first | exact Q.later hb12 | exact Q.drew.later hb12 | exact (Q.alloc _).later hb12 | exact ((Q.alloc _).alloc _).later hb12 | exact (((Q.alloc _).alloc _).alloc _).later hb12 : OB w12 _ _ _ _)
      replace M := (by with_reducible first | exact M.later hb12 | exact M.drew.later hb12 | exact (M.alloc _).later hb12 | exact ((M.alloc _).alloc _).later hb12 | exact (((M.alloc _).alloc _).alloc _).later hb12 : OB w12 _ _ _ _)
      replace Bk := (by with_reducible first | exact Bk.later hb12 | exact Bk.drew.later hb12 | exact (Bk.alloc _).later hb12 | exact ((Bk.alloc _).alloc _).later hb12 | exact (((Bk.alloc _).alloc _).alloc _).later hb12 : OB w12 _ _ _ _)
      replace wb0 := (by with_reducible first | exact wb0.old hb12 | exact (wb0.old ((Below.refl _ _).alloc (Nat.le_refl _) _)).old hb12 | exact ((wb0.old ((Below.refl _ _).alloc (Nat.le_refl _) _)).old ((Below.refl _ _).alloc (Nat.le_refl _) _)).old hb12 : IsCode w12 _ _ _)
      replace hB := (by with_reducible first | exact old_trans hB hb12 | exact old_trans (old_alloc hB _) hb12 | exact old_trans (old_alloc (old_alloc hB _) _) hb12 | exact old_trans (old_alloc (old_alloc (old_alloc hB _) _) _) hb12 : Below w.heap.size w w12)
      have V0 := V.1
      have V1 := V.2.1
      have Vz := V.2.2
      have VN0 := VN.1
      have VN1 := VN.2.1
      have VNz := VN.2.2
      have VX0 := VX.1
      have VX1 := VX.2.1
      have VXz := VX.2.2
      have VQ0 := VQ.1
      have VQ1 := VQ.2.1
      have VQz := VQ.2.2
      have VM0 := VM.1
      have VM1 := VM.2.1
      have VMz := VM.2.2
      have VB0 := VB.1
      have VB1 := VB.2.1
      have VBz := VB.2.2
      go_wp2
      go_ret
      exact ⟨rfl, (by repeat (first | exact hB | exact Below.refl _ _ | refine Below.drew ?_ | refine old_alloc ?_ _ | refine old_trans ?_ (by assumption)))⟩

set_option maxRecDepth 100000 in
theorem FnBoxNarrow_lifted (os : Os) (started : os.Started) (H : Type) (enc : TypeId × Value → H) :
    ReturnsInHanded {} Try.checked os 3 .any (Rows.fnBoxNarrowSpec.pre6 enc Try.prog Try.f3 Rows.fnBoxNarrowRow.domain false) (Rows.fnBoxNarrowSpec.post enc Try.prog Try.f3 false true false false) := by
  refine returnsInHanded_of_change (C := Try.checked) FnBoxNarrow_own started (by kernel_rfl) Try.func3
    (ChangeSpec.witness6 (enc := enc) (C := Try.checked) false ⟨#[], #[.slice none 0 0], []⟩ 8 (by kernel_rfl) (by kernel_rfl) (by kernel_rfl) (by kernel_rfl)) ?_
  intro W base args ds gs before hval0 hW hcnd _
  have hval : ∀ (j : Nat) t v, Try.f3.params[j]? = some t → args[j]? = some v → Value.okWide Try.prog W .any base t v := hval0
  have hW' := hW
  obtain ⟨p, q, hA0, hV, rfl, hfz, hnd⟩ := hW
  have hA : DataW.TrodAll enc Try.prog W 0 (fun _ => true) true Try.f3.params.toList args.toList ds p := hA0
  rw [Try.params3] at hA hval
  obtain ⟨v0, vs0, d0, ds0, p0, q0, hargs, rfl, rfl, h0, r0⟩ := trodAll_cons hA
  obtain ⟨rfl, rfl, rfl⟩ := trodAll_nil r0
  obtain rfl : args = #[v0] := by cases args; simp_all
  obtain ⟨rfl, rfl⟩ := trodVars_none hV
  have k0 := h0
  have lt0 : ∀ x ∈ p0, x.block < W.heap.size := by obtain ⟨m, hm⟩ := k0; exact DataW.trod_lt m _ _ _ hm
  obtain ⟨a0, len0, cap0, rfl, wb0⟩ := open_bytes (hval 0 22 v0 rfl rfl) h0
  clear hA0 hval0
  refine (FnBoxNarrow_walk a0 len0 cap0 W wb0).mono fun e W' ⟨he, bel⟩ => ?_
  subst he
  exact ⟨_, rfl, _, _, _, [], _, [], hW', trodAll_mk1 (shut_bool Try.underlying4 _), (trodAll_cons_mk (Below.trod jf1 (by kernel_rfl) (of_decide_eq_true (by kernel_rfl)) k0 bel lt0) trodAll_mk0), rfl, bel.frame _, fun h => by cases h⟩

theorem FnBoxNarrow_k0 : (Rows.fnBoxNarrowRow.wf (OpenSpec.ofChange Rows.fnBoxNarrowSpec)) = true := by kernel_rfl
theorem FnBoxNarrow_k3 : (Try.f3.params.all (Try.prog.readableRec ·)) = true := by kernel_rfl
theorem FnBoxNarrow_k4 : (namedTie Try.prog Rows.fnBoxNarrowRow.named Rows.fnBoxNarrowSpec.vars) = true := by kernel_rfl
theorem FnBoxNarrow_k5 : ((Rows.fnBoxNarrowRow.stops == [])) = true := by kernel_rfl
theorem FnBoxNarrow_k7 : ((Rows.fnBoxNarrowRow.knobs == [])) = true := by kernel_rfl
theorem FnBoxNarrow_k9 : ((Rows.fnBoxNarrowRow.inPlace == Try.prog.inPlace 3)) = true := by kernel_rfl
theorem FnBoxNarrow_k10 : ((Rows.fnBoxNarrowRow.unfollowed == Try.prog.unfollowed 3)) = true := by kernel_rfl
theorem FnBoxNarrow_k11 : ((Rows.fnBoxNarrowRow.recurses == Try.prog.recurses 3)) = true := by kernel_rfl
theorem FnBoxNarrow_k12 : ((Rows.fnBoxNarrowRow.named == Try.prog.varsNamed 3)) = true := by kernel_rfl
theorem FnBoxNarrow_k13 : ((Rows.fnBoxNarrowRow.maps == (Try.f3.params.toList ++ Rows.fnBoxNarrowSpec.plain.varTypes Try.prog).any (Try.prog.mapsRec ·))) = true := by kernel_rfl
theorem FnBoxNarrow_k14 : ((Rows.fnBoxNarrowRow.ifaces == (Try.f3.params.toList ++ Rows.fnBoxNarrowSpec.plain.varTypes Try.prog).any (Try.prog.ifacesRec ·))) = true := by kernel_rfl
theorem FnBoxNarrow_k15 : ((Rows.fnBoxNarrowRow.mapsOut == Try.prog.mapsAmong Try.f3.resultTypes.toList)) = true := by kernel_rfl
theorem FnBoxNarrow_k16 : ((Rows.fnBoxNarrowRow.loops == (Try.f3.params.toList ++ Rows.fnBoxNarrowSpec.plain.varTypes Try.prog).any (Try.prog.loopsFrom ·))) = true := by kernel_rfl
theorem FnBoxNarrow_k17 : ((Rows.fnBoxNarrowRow.wideKeys == (Try.f3.params.toList ++ Rows.fnBoxNarrowSpec.plain.varTypes Try.prog ++ Try.f3.resultTypes.toList).any (Try.prog.wideKeysFrom ·))) = true := by kernel_rfl
theorem FnBoxNarrow_k18 : (Rows.fnBoxNarrowSpec.vars.all (Try.prog.varReadable ·)) = true := by kernel_rfl
theorem FnBoxNarrow_k19 : (Try.f3.resultTypes.all (fun t => Try.prog.readableRec t && decide (t < Try.prog.types.size))) = true := by kernel_rfl
theorem FnBoxNarrow_k20 : ((Rows.fnBoxNarrowRow.ifacesOut == Try.f3.resultTypes.toList.any (Try.prog.ifacesRec ·))) = true := by kernel_rfl
theorem FnBoxNarrow_k21 : ((Rows.fnBoxNarrowRow.loopsOut == Try.f3.resultTypes.toList.any (Try.prog.loopsFrom ·))) = true := by kernel_rfl
theorem FnBoxNarrow_k23 : (Rows.fnBoxNarrowRow.shortTexts.isNone) = true := by kernel_rfl
theorem FnBoxNarrow_k28 : ((Rows.fnBoxNarrowRow.kinds == (if Rows.fnBoxNarrowRow.domain.isEmpty then [] else Try.f3.params.toList.map fun t => match Try.prog.underlying t with | some (.int k) => some k | _ => none))) = true := by kernel_rfl
theorem FnBoxNarrow_k29 : ((Rows.fnBoxNarrowRow.pinned == Rows.fnBoxNarrowRow.pinnedBy)) = true := by kernel_rfl
theorem FnBoxNarrow_k30 : ((Rows.fnBoxNarrowRow.veiled == (Try.f3.params.toList ++ Rows.fnBoxNarrowSpec.plain.varTypes Try.prog ++ Try.f3.resultTypes.toList).any (Try.prog.veiledRec ·))) = true := by kernel_rfl
theorem FnBoxNarrow_k31 : (Rows.fnBoxNarrowRow.veiledFits Try.prog Try.f3.params.toList (Try.f3.params.toList ++ Rows.fnBoxNarrowSpec.plain.varTypes Try.prog ++ Try.f3.resultTypes.toList)) = true := by kernel_rfl
set_option maxRecDepth 100000 in
theorem FnBoxNarrow_closed : joinedFacts Try.prog 3 Try.f3 Rows.fnBoxNarrowSpec Rows.fnBoxNarrowRow = true := (and2 (and2 (and2 (and2 (and2 (and2 (and2 (and2 (and2 (and2 (and2 (and2 (and2 (and2 (and2 (and2 (and2 (and2 (and2 (and2 (and2 (and2 (and2 (and2 (and2 (and2 (and2 (and2 (and2 (and2 (and2 FnBoxNarrow_k0 jf1) jf2) FnBoxNarrow_k3) FnBoxNarrow_k4) FnBoxNarrow_k5) jf6) FnBoxNarrow_k7) jf8) FnBoxNarrow_k9) FnBoxNarrow_k10) FnBoxNarrow_k11) FnBoxNarrow_k12) FnBoxNarrow_k13) FnBoxNarrow_k14) FnBoxNarrow_k15) FnBoxNarrow_k16) FnBoxNarrow_k17) FnBoxNarrow_k18) FnBoxNarrow_k19) FnBoxNarrow_k20) FnBoxNarrow_k21) jf22) FnBoxNarrow_k23) jf24) jf25) jf26) jf27) FnBoxNarrow_k28) FnBoxNarrow_k29) FnBoxNarrow_k30) FnBoxNarrow_k31)
theorem FnBoxNarrow_over : Rows.fnBoxNarrowRow.holds Try.pinned (OpenSpec.ofChange Rows.fnBoxNarrowSpec) :=
  OpenClaim.holds_of_wide 3 Try.f3 rfl rfl rfl rfl rfl rfl rfl ⟨rfl, rfl, rfl, rfl, rfl⟩ rfl rfl rfl rfl rfl (by kernel_rfl) Try.func3 FnBoxNarrow_closed
    (of_decide_eq_true (by kernel_rfl)) (by unfold Func.isWrapper; first | (rw [if_pos (by decide +kernel)]; kernel_rfl) | (rw [if_neg (by decide +kernel)]; exact ⟨rfl, rfl⟩))
    (fun os started H enc _ => FnBoxNarrow_lifted os started H enc)

theorem FnBoxNarrow_proved : Rows.FnBoxNarrowSaid := FnBoxNarrow_over
end Go.Proofs.Ytpnfkigeagbhpaa
