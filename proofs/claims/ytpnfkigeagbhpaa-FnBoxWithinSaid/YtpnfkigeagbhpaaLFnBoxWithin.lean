/- For every code of bytes: what the two boxes that are drawn from it have in common is as the specification says, a box, and lies in both; where the first lies within the other one it has no more units and no longer a path, is what they have in common, and is fine where that one is; the law answers true; nothing that was there is written. No condition. -/
import Derived.Test.YtpnfkigeagbhpaaRows
import Derived.WalkKit
import Derived.ProofKit
import Derived.OpenShut
import Derived.Below
import Derived.Carry
import Derived.Test.YtpnfkigeagbhpaaPK02
import Derived.Test.YtpnfkigeagbhpaaPK05
import Derived.Test.YtpnfkigeagbhpaaPK18
import Derived.Test.YtpnfkigeagbhpaaPK21
import Derived.Test.YtpnfkigeagbhpaaPK22
namespace Go.Proofs.Ytpnfkigeagbhpaa
open Go.ChangeShapes Go.WideShapes Go.ChangeAt Go.RowKit
set_option linter.unusedVariables false
set_option maxRecDepth 100000

theorem FnBoxWithin_own : ownKnob Try.prog.godebug = none := by kernel_rfl

set_option maxRecDepth 100000 in
set_option maxHeartbeats 40000000 in
theorem FnBoxWithin_walk (a0 : Option Addr) (len0 cap0 : Nat) (w : World) (wb0 : IsCode w a0 len0 cap0):
    Calls Try.prog 4 #[.slice a0 len0 cap0] w fun e w' => e = .returned (.bool true) ∧ Below w.heap.size w w' := by
  by_cases c0 : (1048576 : Int) < (len0 : Int)
  · have t0 : decide ((1048576 : Int) < (len0 : Int)) = true := by simp; omega
    go_enter Try.func4, Try.ntmps4
    go_wp2
    go_ret
    exact ⟨rfl, (by repeat (first | exact Below.refl _ _ | refine Below.drew ?_ | refine old_alloc ?_ _ | refine old_trans ?_ (by assumption)))⟩
  have hB : Below w.heap.size w w := Below.refl _ _
  have hlen : -9223372036854775808 ≤ (len0 : Int) ∧ (len0 : Int) ≤ 9223372036854775807 := by omega
  go_enter Try.func4, Try.ntmps4
  go_wp2_with fail
  refine (drawBoxMeet _ a0 len0 cap0 wb0).mono ?_
  rintro e w1 ⟨⟨wd, au, cu, us, av, cv, ps, hwd, rfl, hul, hpl, U, O⟩, hb1⟩
  replace hB := (by with_reducible first | exact old_trans hB hb1 | exact old_trans (old_alloc hB _) hb1 | exact old_trans (old_alloc (old_alloc hB _) _) hb1 | exact old_trans (old_alloc (old_alloc (old_alloc hB _) _) _) hb1 : Below w.heap.size w w1)
  cases hu : okRow wd us
  case false =>
    go_wp2_with fail
    refine (iMeetNo _ _ _ _ _ _ ((U.alloc _).alloc _) _ _ _ _ ((O.alloc _).alloc _) (meetRow_no1 hu)).mono ?_
    rintro e w2 ⟨rfl, hb2⟩
    replace U := (by with_reducible first | exact U.later hb2 | exact U.drew.later hb2 | exact (U.alloc _).later hb2 | exact ((U.alloc _).alloc _).later hb2 | exact (((U.alloc _).alloc _).alloc _).later hb2 : OB w2 _ _ _ _)
    replace O := (by with_reducible first | exact O.later hb2 | exact O.drew.later hb2 | exact (O.alloc _).later hb2 | exact ((O.alloc _).alloc _).later hb2 | exact (((O.alloc _).alloc _).alloc _).later hb2 : OB w2 _ _ _ _)
    replace hB := (by with_reducible first | exact old_trans hB hb2 | exact old_trans (old_alloc hB _) hb2 | exact old_trans (old_alloc (old_alloc hB _) _) hb2 | exact old_trans (old_alloc (old_alloc (old_alloc hB _) _) _) hb2 : Below w.heap.size w w2)
    have VA := ((Cel1.made _ _ rfl (.slice au us.length cu) 25).alloc _).later hb2
    (try simp only [World.size_alloc] at VA)
    have VB := (Cel1.made _ _ rfl (.slice av ps.length cv) 25).later hb2
    (try simp only [World.size_alloc] at VB)
    have VA0 := VA.1
    have VA1 := VA.2.1
    have VAz := VA.2.2
    have VB0 := VB.1
    have VB1 := VB.2.1
    have VBz := VB.2.2
    go_wp2_with fail
    refine (sMeetNo _ _ _ _ _ _ (U.alloc _) _ _ _ _ (O.alloc _) (meetRow_no1 hu)).mono ?_
    rintro e w3 ⟨rfl, hb3⟩
    clear VA0 VA1 VAz VB0 VB1 VBz
    replace VA := (by with_reducible first | exact VA.later hb3 | exact VA.drew.later hb3 | exact (VA.alloc _).later hb3 | exact ((VA.alloc _).alloc _).later hb3 | exact (((VA.alloc _).alloc _).alloc _).later hb3 : Cel1 w3 _ _)
    replace VB := (by with_reducible first | exact VB.later hb3 | exact VB.drew.later hb3 | exact (VB.alloc _).later hb3 | exact ((VB.alloc _).alloc _).later hb3 | exact (((VB.alloc _).alloc _).alloc _).later hb3 : Cel1 w3 _ _)
    replace U := (by with_reducible first | exact U.later hb3 | exact U.drew.later hb3 | exact (U.alloc _).later hb3 | exact ((U.alloc _).alloc _).later hb3 | exact (((U.alloc _).alloc _).alloc _).later hb3 : OB w3 _ _ _ _)
    replace O := (by with_reducible first | exact O.later hb3 | exact O.drew.later hb3 | exact (O.alloc _).later hb3 | exact ((O.alloc _).alloc _).later hb3 | exact (((O.alloc _).alloc _).alloc _).later hb3 : OB w3 _ _ _ _)
    replace hB := (by with_reducible first | exact old_trans hB hb3 | exact old_trans (old_alloc hB _) hb3 | exact old_trans (old_alloc (old_alloc hB _) _) hb3 | exact old_trans (old_alloc (old_alloc (old_alloc hB _) _) _) hb3 : Below w.heap.size w w3)
    have VM := (Cel1.made _ _ rfl (.slice none 0 0) 25).later hb3
    (try simp only [World.size_alloc] at VM)
    have VA0 := VA.1
    have VA1 := VA.2.1
    have VAz := VA.2.2
    have VB0 := VB.1
    have VB1 := VB.2.1
    have VBz := VB.2.2
    have VM0 := VM.1
    have VM1 := VM.2.1
    have VMz := VM.2.2
    go_wp2_with fail
    refine (sOkO _ _ _ _ _ (U.alloc _) _ false hu).mono ?_
    rintro e w4 ⟨rfl, hb4⟩
    clear VA0 VA1 VAz VB0 VB1 VBz VM0 VM1 VMz
    replace VA := (by with_reducible first | exact VA.later hb4 | exact VA.drew.later hb4 | exact (VA.alloc _).later hb4 | exact ((VA.alloc _).alloc _).later hb4 | exact (((VA.alloc _).alloc _).alloc _).later hb4 : Cel1 w4 _ _)
    replace VB := (by with_reducible first | exact VB.later hb4 | exact VB.drew.later hb4 | exact (VB.alloc _).later hb4 | exact ((VB.alloc _).alloc _).later hb4 | exact (((VB.alloc _).alloc _).alloc _).later hb4 : Cel1 w4 _ _)
    replace VM := (by with_reducible first | exact VM.later hb4 | exact VM.drew.later hb4 | exact (VM.alloc _).later hb4 | exact ((VM.alloc _).alloc _).later hb4 | exact (((VM.alloc _).alloc _).alloc _).later hb4 : Cel1 w4 _ _)
    replace U := (by with_reducible first | exact U.later hb4 | exact U.drew.later hb4 | exact (U.alloc _).later hb4 | exact ((U.alloc _).alloc _).later hb4 | exact (((U.alloc _).alloc _).alloc _).later hb4 : OB w4 _ _ _ _)
    replace O := (by with_reducible first | exact O.later hb4 | exact O.drew.later hb4 | exact (O.alloc _).later hb4 | exact ((O.alloc _).alloc _).later hb4 | exact (((O.alloc _).alloc _).alloc _).later hb4 : OB w4 _ _ _ _)
    replace hB := (by with_reducible first | exact old_trans hB hb4 | exact old_trans (old_alloc hB _) hb4 | exact old_trans (old_alloc (old_alloc hB _) _) hb4 | exact old_trans (old_alloc (old_alloc (old_alloc hB _) _) _) hb4 : Below w.heap.size w w4)
    have VN := (Cel1.made _ _ rfl (.slice none 0 0) 25).later hb4
    (try simp only [World.size_alloc] at VN)
    have VA0 := VA.1
    have VA1 := VA.2.1
    have VAz := VA.2.2
    have VB0 := VB.1
    have VB1 := VB.2.1
    have VBz := VB.2.2
    have VM0 := VM.1
    have VM1 := VM.2.1
    have VMz := VM.2.2
    have VN0 := VN.1
    have VN1 := VN.2.1
    have VNz := VN.2.2
    go_wp2
    go_ret
    exact ⟨rfl, (by repeat (first | exact hB | exact Below.refl _ _ | refine Below.drew ?_ | refine old_alloc ?_ _ | refine old_trans ?_ (by assumption)))⟩
  cases hp : okRow wd ps
  case false =>
    go_wp2_with fail
    refine (iMeetNo _ _ _ _ _ _ ((U.alloc _).alloc _) _ _ _ _ ((O.alloc _).alloc _) (meetRow_no2 hp)).mono ?_
    rintro e w2 ⟨rfl, hb2⟩
    replace U := (by with_reducible first | exact U.later hb2 | exact U.drew.later hb2 | exact (U.alloc _).later hb2 | exact ((U.alloc _).alloc _).later hb2 | exact (((U.alloc _).alloc _).alloc _).later hb2 : OB w2 _ _ _ _)
    replace O := (by with_reducible first | exact O.later hb2 | exact O.drew.later hb2 | exact (O.alloc _).later hb2 | exact ((O.alloc _).alloc _).later hb2 | exact (((O.alloc _).alloc _).alloc _).later hb2 : OB w2 _ _ _ _)
    replace hB := (by with_reducible first | exact old_trans hB hb2 | exact old_trans (old_alloc hB _) hb2 | exact old_trans (old_alloc (old_alloc hB _) _) hb2 | exact old_trans (old_alloc (old_alloc (old_alloc hB _) _) _) hb2 : Below w.heap.size w w2)
    have VA := ((Cel1.made _ _ rfl (.slice au us.length cu) 25).alloc _).later hb2
    (try simp only [World.size_alloc] at VA)
    have VB := (Cel1.made _ _ rfl (.slice av ps.length cv) 25).later hb2
    (try simp only [World.size_alloc] at VB)
    have VA0 := VA.1
    have VA1 := VA.2.1
    have VAz := VA.2.2
    have VB0 := VB.1
    have VB1 := VB.2.1
    have VBz := VB.2.2
    go_wp2_with fail
    refine (sMeetNo _ _ _ _ _ _ (U.alloc _) _ _ _ _ (O.alloc _) (meetRow_no2 hp)).mono ?_
    rintro e w3 ⟨rfl, hb3⟩
    clear VA0 VA1 VAz VB0 VB1 VBz
    replace VA := (by with_reducible first | exact VA.later hb3 | exact VA.drew.later hb3 | exact (VA.alloc _).later hb3 | exact ((VA.alloc _).alloc _).later hb3 | exact (((VA.alloc _).alloc _).alloc _).later hb3 : Cel1 w3 _ _)
    replace VB := (by with_reducible first | exact VB.later hb3 | exact VB.drew.later hb3 | exact (VB.alloc _).later hb3 | exact ((VB.alloc _).alloc _).later hb3 | exact (((VB.alloc _).alloc _).alloc _).later hb3 : Cel1 w3 _ _)
    replace U := (by with_reducible first | exact U.later hb3 | exact U.drew.later hb3 | exact (U.alloc _).later hb3 | exact ((U.alloc _).alloc _).later hb3 | exact (((U.alloc _).alloc _).alloc _).later hb3 : OB w3 _ _ _ _)
    replace O := (by with_reducible first | exact O.later hb3 | exact O.drew.later hb3 | exact (O.alloc _).later hb3 | exact ((O.alloc _).alloc _).later hb3 | exact (((O.alloc _).alloc _).alloc _).later hb3 : OB w3 _ _ _ _)
    replace hB := (by with_reducible first | exact old_trans hB hb3 | exact old_trans (old_alloc hB _) hb3 | exact old_trans (old_alloc (old_alloc hB _) _) hb3 | exact old_trans (old_alloc (old_alloc (old_alloc hB _) _) _) hb3 : Below w.heap.size w w3)
    have VM := (Cel1.made _ _ rfl (.slice none 0 0) 25).later hb3
    (try simp only [World.size_alloc] at VM)
    have VA0 := VA.1
    have VA1 := VA.2.1
    have VAz := VA.2.2
    have VB0 := VB.1
    have VB1 := VB.2.1
    have VBz := VB.2.2
    have VM0 := VM.1
    have VM1 := VM.2.1
    have VMz := VM.2.2
    go_wp2_with fail
    refine (sOkO _ _ _ _ _ (U.alloc _) _ true hu).mono ?_
    rintro e w4 ⟨rfl, hb4⟩
    clear VA0 VA1 VAz VB0 VB1 VBz VM0 VM1 VMz
    replace VA := (by with_reducible first | exact VA.later hb4 | exact VA.drew.later hb4 | exact (VA.alloc _).later hb4 | exact ((VA.alloc _).alloc _).later hb4 | exact (((VA.alloc _).alloc _).alloc _).later hb4 : Cel1 w4 _ _)
    replace VB := (by with_reducible first | exact VB.later hb4 | exact VB.drew.later hb4 | exact (VB.alloc _).later hb4 | exact ((VB.alloc _).alloc _).later hb4 | exact (((VB.alloc _).alloc _).alloc _).later hb4 : Cel1 w4 _ _)
    replace VM := (by with_reducible first | exact VM.later hb4 | exact VM.drew.later hb4 | exact (VM.alloc _).later hb4 | exact ((VM.alloc _).alloc _).later hb4 | exact (((VM.alloc _).alloc _).alloc _).later hb4 : Cel1 w4 _ _)
    replace U := (by with_reducible first | exact U.later hb4 | exact U.drew.later hb4 | exact (U.alloc _).later hb4 | exact ((U.alloc _).alloc _).later hb4 | exact (((U.alloc _).alloc _).alloc _).later hb4 : OB w4 _ _ _ _)
    replace O := (by with_reducible first | exact O.later hb4 | exact O.drew.later hb4 | exact (O.alloc _).later hb4 | exact ((O.alloc _).alloc _).later hb4 | exact (((O.alloc _).alloc _).alloc _).later hb4 : OB w4 _ _ _ _)
    replace hB := (by with_reducible first | exact old_trans hB hb4 | exact old_trans (old_alloc hB _) hb4 | exact old_trans (old_alloc (old_alloc hB _) _) hb4 | exact old_trans (old_alloc (old_alloc (old_alloc hB _) _) _) hb4 : Below w.heap.size w w4)
    have VN := (Cel1.made _ _ rfl (.slice none 0 0) 25).later hb4
    (try simp only [World.size_alloc] at VN)
    have VA0 := VA.1
    have VA1 := VA.2.1
    have VAz := VA.2.2
    have VB0 := VB.1
    have VB1 := VB.2.1
    have VBz := VB.2.2
    have VM0 := VM.1
    have VM1 := VM.2.1
    have VMz := VM.2.2
    have VN0 := VN.1
    have VN1 := VN.2.1
    have VNz := VN.2.2
    go_wp2_with fail
    refine (sOkO _ _ _ _ _ O _ false hp).mono ?_
    rintro e w5 ⟨rfl, hb5⟩
    clear VA0 VA1 VAz VB0 VB1 VBz VM0 VM1 VMz VN0 VN1 VNz
    replace VA := (by with_reducible first | exact VA.later hb5 | exact VA.drew.later hb5 | exact (VA.alloc _).later hb5 | exact ((VA.alloc _).alloc _).later hb5 | exact (((VA.alloc _).alloc _).alloc _).later hb5 : Cel1 w5 _ _)
    replace VB := (by with_reducible first | exact VB.later hb5 | exact VB.drew.later hb5 | exact (VB.alloc _).later hb5 | exact ((VB.alloc _).alloc _).later hb5 | exact (((VB.alloc _).alloc _).alloc _).later hb5 : Cel1 w5 _ _)
    replace VM := (by with_reducible first | exact VM.later hb5 | exact VM.drew.later hb5 | exact (VM.alloc _).later hb5 | exact ((VM.alloc _).alloc _).later hb5 | exact (((VM.alloc _).alloc _).alloc _).later hb5 : Cel1 w5 _ _)
    replace VN := (by with_reducible first | exact VN.later hb5 | exact VN.drew.later hb5 | exact (VN.alloc _).later hb5 | exact ((VN.alloc _).alloc _).later hb5 | exact (((VN.alloc _).alloc _).alloc _).later hb5 : Cel1 w5 _ _)
    replace U := (by with_reducible first | exact U.later hb5 | exact U.drew.later hb5 | exact (U.alloc _).later hb5 | exact ((U.alloc _).alloc _).later hb5 | exact (((U.alloc _).alloc _).alloc _).later hb5 : OB w5 _ _ _ _)
    replace O := (by with_reducible first | exact O.later hb5 | exact O.drew.later hb5 | exact (O.alloc _).later hb5 | exact ((O.alloc _).alloc _).later hb5 | exact (((O.alloc _).alloc _).alloc _).later hb5 : OB w5 _ _ _ _)
    replace hB := (by with_reducible first | exact old_trans hB hb5 | exact old_trans (old_alloc hB _) hb5 | exact old_trans (old_alloc (old_alloc hB _) _) hb5 | exact old_trans (old_alloc (old_alloc (old_alloc hB _) _) _) hb5 : Below w.heap.size w w5)
    have VA0 := VA.1
    have VA1 := VA.2.1
    have VAz := VA.2.2
    have VB0 := VB.1
    have VB1 := VB.2.1
    have VBz := VB.2.2
    have VM0 := VM.1
    have VM1 := VM.2.1
    have VMz := VM.2.2
    have VN0 := VN.1
    have VN1 := VN.2.1
    have VNz := VN.2.2
    go_wp2
    go_ret
    exact ⟨rfl, (by repeat (first | exact hB | exact Below.refl _ _ | refine Below.drew ?_ | refine old_alloc ?_ _ | refine old_trans ?_ (by assumption)))⟩
  cases hi : isRow us ps
  case false =>
    cases hm : meetRow wd us ps
    case false =>
      go_wp2_with fail
      refine (iMeetNo _ _ _ _ _ _ ((U.alloc _).alloc _) _ _ _ _ ((O.alloc _).alloc _) hm).mono ?_
      rintro e w2 ⟨rfl, hb2⟩
      replace U := (by with_reducible first | exact U.later hb2 | exact U.drew.later hb2 | exact (U.alloc _).later hb2 | exact ((U.alloc _).alloc _).later hb2 | exact (((U.alloc _).alloc _).alloc _).later hb2 : OB w2 _ _ _ _)
      replace O := (by with_reducible first | exact O.later hb2 | exact O.drew.later hb2 | exact (O.alloc _).later hb2 | exact ((O.alloc _).alloc _).later hb2 | exact (((O.alloc _).alloc _).alloc _).later hb2 : OB w2 _ _ _ _)
      replace hB := (by with_reducible first | exact old_trans hB hb2 | exact old_trans (old_alloc hB _) hb2 | exact old_trans (old_alloc (old_alloc hB _) _) hb2 | exact old_trans (old_alloc (old_alloc (old_alloc hB _) _) _) hb2 : Below w.heap.size w w2)
      have VA := ((Cel1.made _ _ rfl (.slice au us.length cu) 25).alloc _).later hb2
      (try simp only [World.size_alloc] at VA)
      have VB := (Cel1.made _ _ rfl (.slice av ps.length cv) 25).later hb2
      (try simp only [World.size_alloc] at VB)
      have VA0 := VA.1
      have VA1 := VA.2.1
      have VAz := VA.2.2
      have VB0 := VB.1
      have VB1 := VB.2.1
      have VBz := VB.2.2
      go_wp2_with fail
      refine (sMeetNo _ _ _ _ _ _ (U.alloc _) _ _ _ _ (O.alloc _) hm).mono ?_
      rintro e w3 ⟨rfl, hb3⟩
      clear VA0 VA1 VAz VB0 VB1 VBz
      replace VA := (by with_reducible first | exact VA.later hb3 | exact VA.drew.later hb3 | exact (VA.alloc _).later hb3 | exact ((VA.alloc _).alloc _).later hb3 | exact (((VA.alloc _).alloc _).alloc _).later hb3 : Cel1 w3 _ _)
      replace VB := (by with_reducible first | exact VB.later hb3 | exact VB.drew.later hb3 | exact (VB.alloc _).later hb3 | exact ((VB.alloc _).alloc _).later hb3 | exact (((VB.alloc _).alloc _).alloc _).later hb3 : Cel1 w3 _ _)
      replace U := (by with_reducible first | exact U.later hb3 | exact U.drew.later hb3 | exact (U.alloc _).later hb3 | exact ((U.alloc _).alloc _).later hb3 | exact (((U.alloc _).alloc _).alloc _).later hb3 : OB w3 _ _ _ _)
      replace O := (by with_reducible first | exact O.later hb3 | exact O.drew.later hb3 | exact (O.alloc _).later hb3 | exact ((O.alloc _).alloc _).later hb3 | exact (((O.alloc _).alloc _).alloc _).later hb3 : OB w3 _ _ _ _)
      replace hB := (by with_reducible first | exact old_trans hB hb3 | exact old_trans (old_alloc hB _) hb3 | exact old_trans (old_alloc (old_alloc hB _) _) hb3 | exact old_trans (old_alloc (old_alloc (old_alloc hB _) _) _) hb3 : Below w.heap.size w w3)
      have VM := (Cel1.made _ _ rfl (.slice none 0 0) 25).later hb3
      (try simp only [World.size_alloc] at VM)
      have VA0 := VA.1
      have VA1 := VA.2.1
      have VAz := VA.2.2
      have VB0 := VB.1
      have VB1 := VB.2.1
      have VBz := VB.2.2
      have VM0 := VM.1
      have VM1 := VM.2.1
      have VMz := VM.2.2
      go_wp2_with fail
      refine (sOkO _ _ _ _ _ (U.alloc _) _ true hu).mono ?_
      rintro e w4 ⟨rfl, hb4⟩
      clear VA0 VA1 VAz VB0 VB1 VBz VM0 VM1 VMz
      replace VA := (by with_reducible first | exact VA.later hb4 | exact VA.drew.later hb4 | exact (VA.alloc _).later hb4 | exact ((VA.alloc _).alloc _).later hb4 | exact (((VA.alloc _).alloc _).alloc _).later hb4 : Cel1 w4 _ _)
      replace VB := (by with_reducible first | exact VB.later hb4 | exact VB.drew.later hb4 | exact (VB.alloc _).later hb4 | exact ((VB.alloc _).alloc _).later hb4 | exact (((VB.alloc _).alloc _).alloc _).later hb4 : Cel1 w4 _ _)
      replace VM := (by with_reducible first | exact VM.later hb4 | exact VM.drew.later hb4 | exact (VM.alloc _).later hb4 | exact ((VM.alloc _).alloc _).later hb4 | exact (((VM.alloc _).alloc _).alloc _).later hb4 : Cel1 w4 _ _)
      replace U := (by with_reducible first | exact U.later hb4 | exact U.drew.later hb4 | exact (U.alloc _).later hb4 | exact ((U.alloc _).alloc _).later hb4 | exact (((U.alloc _).alloc _).alloc _).later hb4 : OB w4 _ _ _ _)
      replace O := (by with_reducible first | exact O.later hb4 | exact O.drew.later hb4 | exact (O.alloc _).later hb4 | exact ((O.alloc _).alloc _).later hb4 | exact (((O.alloc _).alloc _).alloc _).later hb4 : OB w4 _ _ _ _)
      replace hB := (by with_reducible first | exact old_trans hB hb4 | exact old_trans (old_alloc hB _) hb4 | exact old_trans (old_alloc (old_alloc hB _) _) hb4 | exact old_trans (old_alloc (old_alloc (old_alloc hB _) _) _) hb4 : Below w.heap.size w w4)
      have VN := (Cel1.made _ _ rfl (.slice none 0 0) 25).later hb4
      (try simp only [World.size_alloc] at VN)
      have VA0 := VA.1
      have VA1 := VA.2.1
      have VAz := VA.2.2
      have VB0 := VB.1
      have VB1 := VB.2.1
      have VBz := VB.2.2
      have VM0 := VM.1
      have VM1 := VM.2.1
      have VMz := VM.2.2
      have VN0 := VN.1
      have VN1 := VN.2.1
      have VNz := VN.2.2
      go_wp2_with fail
      refine (sOkO _ _ _ _ _ O _ true hp).mono ?_
      rintro e w5 ⟨rfl, hb5⟩
      clear VA0 VA1 VAz VB0 VB1 VBz VM0 VM1 VMz VN0 VN1 VNz
      replace VA := (by with_reducible first | exact VA.later hb5 | exact VA.drew.later hb5 | exact (VA.alloc _).later hb5 | exact ((VA.alloc _).alloc _).later hb5 | exact (((VA.alloc _).alloc _).alloc _).later hb5 : Cel1 w5 _ _)
      replace VB := (by with_reducible first | exact VB.later hb5 | exact VB.drew.later hb5 | exact (VB.alloc _).later hb5 | exact ((VB.alloc _).alloc _).later hb5 | exact (((VB.alloc _).alloc _).alloc _).later hb5 : Cel1 w5 _ _)
      replace VM := (by with_reducible first | exact VM.later hb5 | exact VM.drew.later hb5 | exact (VM.alloc _).later hb5 | exact ((VM.alloc _).alloc _).later hb5 | exact (((VM.alloc _).alloc _).alloc _).later hb5 : Cel1 w5 _ _)
      replace VN := (by with_reducible first | exact VN.later hb5 | exact VN.drew.later hb5 | exact (VN.alloc _).later hb5 | exact ((VN.alloc _).alloc _).later hb5 | exact (((VN.alloc _).alloc _).alloc _).later hb5 : Cel1 w5 _ _)
      replace U := (by with_reducible first | exact U.later hb5 | exact U.drew.later hb5 | exact (U.alloc _).later hb5 | exact ((U.alloc _).alloc _).later hb5 | exact (((U.alloc _).alloc _).alloc _).later hb5 : OB w5 _ _ _ _)
      replace O := (by with_reducible first | exact O.later hb5 | exact O.drew.later hb5 | exact (O.alloc _).later hb5 | exact ((O.alloc _).alloc _).later hb5 | exact (((O.alloc _).alloc _).alloc _).later hb5 : OB w5 _ _ _ _)
      replace hB := (by with_reducible first | exact old_trans hB hb5 | exact old_trans (old_alloc hB _) hb5 | exact old_trans (old_alloc (old_alloc hB _) _) hb5 | exact old_trans (old_alloc (old_alloc (old_alloc hB _) _) _) hb5 : Below w.heap.size w w5)
      have VA0 := VA.1
      have VA1 := VA.2.1
      have VAz := VA.2.2
      have VB0 := VB.1
      have VB1 := VB.2.1
      have VBz := VB.2.2
      have VM0 := VM.1
      have VM1 := VM.2.1
      have VMz := VM.2.2
      have VN0 := VN.1
      have VN1 := VN.2.1
      have VNz := VN.2.2
      go_wp2_with fail
      refine (iIsO _ _ _ _ _ U _ _ _ _ O false hi).mono ?_
      rintro e w6 ⟨rfl, hb6⟩
      clear VA0 VA1 VAz VB0 VB1 VBz VM0 VM1 VMz VN0 VN1 VNz
      replace VA := (by with_reducible first | exact VA.later hb6 | exact VA.drew.later hb6 | exact (VA.alloc _).later hb6 | exact ((VA.alloc _).alloc _).later hb6 | exact (((VA.alloc _).alloc _).alloc _).later hb6 : Cel1 w6 _ _)
      replace VB := (by with_reducible first | exact VB.later hb6 | exact VB.drew.later hb6 | exact (VB.alloc _).later hb6 | exact ((VB.alloc _).alloc _).later hb6 | exact (((VB.alloc _).alloc _).alloc _).later hb6 : Cel1 w6 _ _)
      replace VM := (by with_reducible first | exact VM.later hb6 | exact VM.drew.later hb6 | exact (VM.alloc _).later hb6 | exact ((VM.alloc _).alloc _).later hb6 | exact (((VM.alloc _).alloc _).alloc _).later hb6 : Cel1 w6 _ _)
      replace VN := (by with_reducible first | exact VN.later hb6 | exact VN.drew.later hb6 | exact (VN.alloc _).later hb6 | exact ((VN.alloc _).alloc _).later hb6 | exact (((VN.alloc _).alloc _).alloc _).later hb6 : Cel1 w6 _ _)
      replace U := (by with_reducible first | exact U.later hb6 | exact U.drew.later hb6 | exact (U.alloc _).later hb6 | exact ((U.alloc _).alloc _).later hb6 | exact (((U.alloc _).alloc _).alloc _).later hb6 : OB w6 _ _ _ _)
      replace O := (by with_reducible first | exact O.later hb6 | exact O.drew.later hb6 | exact (O.alloc _).later hb6 | exact ((O.alloc _).alloc _).later hb6 | exact (((O.alloc _).alloc _).alloc _).later hb6 : OB w6 _ _ _ _)
      replace hB := (by with_reducible first | exact old_trans hB hb6 | exact old_trans (old_alloc hB _) hb6 | exact old_trans (old_alloc (old_alloc hB _) _) hb6 | exact old_trans (old_alloc (old_alloc (old_alloc hB _) _) _) hb6 : Below w.heap.size w w6)
      have VA0 := VA.1
      have VA1 := VA.2.1
      have VAz := VA.2.2
      have VB0 := VB.1
      have VB1 := VB.2.1
      have VBz := VB.2.2
      have VM0 := VM.1
      have VM1 := VM.2.1
      have VMz := VM.2.2
      have VN0 := VN.1
      have VN1 := VN.2.1
      have VNz := VN.2.2
      go_wp2
      go_ret
      exact ⟨rfl, (by repeat (first | exact hB | exact Below.refl _ _ | refine Below.drew ?_ | refine old_alloc ?_ _ | refine old_trans ?_ (by assumption)))⟩
    case true =>
      go_wp2_with fail
      refine (iMeetYes _ _ _ _ _ _ ((U.alloc _).alloc _) _ _ _ _ ((O.alloc _).alloc _) hm).mono ?_
      rintro e w2 ⟨⟨am, cm, rfl, M⟩, hb2⟩
      replace U := (by with_reducible first | exact U.later hb2 | exact U.drew.later hb2 | exact (U.alloc _).later hb2 | exact ((U.alloc _).alloc _).later hb2 | exact (((U.alloc _).alloc _).alloc _).later hb2 : OB w2 _ _ _ _)
      replace O := (by with_reducible first | exact O.later hb2 | exact O.drew.later hb2 | exact (O.alloc _).later hb2 | exact ((O.alloc _).alloc _).later hb2 | exact (((O.alloc _).alloc _).alloc _).later hb2 : OB w2 _ _ _ _)
      replace hB := (by with_reducible first | exact old_trans hB hb2 | exact old_trans (old_alloc hB _) hb2 | exact old_trans (old_alloc (old_alloc hB _) _) hb2 | exact old_trans (old_alloc (old_alloc (old_alloc hB _) _) _) hb2 : Below w.heap.size w w2)
      have VA := ((Cel1.made _ _ rfl (.slice au us.length cu) 25).alloc _).later hb2
      (try simp only [World.size_alloc] at VA)
      have VB := (Cel1.made _ _ rfl (.slice av ps.length cv) 25).later hb2
      (try simp only [World.size_alloc] at VB)
      have VA0 := VA.1
      have VA1 := VA.2.1
      have VAz := VA.2.2
      have VB0 := VB.1
      have VB1 := VB.2.1
      have VBz := VB.2.2
      go_wp2_with fail
      refine (sMeetYes _ _ _ _ _ _ (U.alloc _) _ _ _ _ (O.alloc _) hm).mono ?_
      rintro e w3 ⟨⟨an, cn, rfl, Mn⟩, hb3⟩
      clear VA0 VA1 VAz VB0 VB1 VBz
      replace VA := (by with_reducible first | exact VA.later hb3 | exact VA.drew.later hb3 | exact (VA.alloc _).later hb3 | exact ((VA.alloc _).alloc _).later hb3 | exact (((VA.alloc _).alloc _).alloc _).later hb3 : Cel1 w3 _ _)
      replace VB := (by with_reducible first | exact VB.later hb3 | exact VB.drew.later hb3 | exact (VB.alloc _).later hb3 | exact ((VB.alloc _).alloc _).later hb3 | exact (((VB.alloc _).alloc _).alloc _).later hb3 : Cel1 w3 _ _)
      replace U := (by with_reducible first | exact U.later hb3 | exact U.drew.later hb3 | exact (U.alloc _).later hb3 | exact ((U.alloc _).alloc _).later hb3 | exact (((U.alloc _).alloc _).alloc _).later hb3 : OB w3 _ _ _ _)
      replace O := (by with_reducible first | exact O.later hb3 | exact O.drew.later hb3 | exact (O.alloc _).later hb3 | exact ((O.alloc _).alloc _).later hb3 | exact (((O.alloc _).alloc _).alloc _).later hb3 : OB w3 _ _ _ _)
      replace M := (by with_reducible first | exact M.later hb3 | exact M.drew.later hb3 | exact (M.alloc _).later hb3 | exact ((M.alloc _).alloc _).later hb3 | exact (((M.alloc _).alloc _).alloc _).later hb3 : OB w3 _ _ _ _)
      replace hB := (by with_reducible first | exact old_trans hB hb3 | exact old_trans (old_alloc hB _) hb3 | exact old_trans (old_alloc (old_alloc hB _) _) hb3 | exact old_trans (old_alloc (old_alloc (old_alloc hB _) _) _) hb3 : Below w.heap.size w w3)
      have VM := (Cel1.made _ _ rfl (.slice am (meetL us ps).length cm) 25).later hb3
      (try simp only [World.size_alloc] at VM)
      have VA0 := VA.1
      have VA1 := VA.2.1
      have VAz := VA.2.2
      have VB0 := VB.1
      have VB1 := VB.2.1
      have VBz := VB.2.2
      have VM0 := VM.1
      have VM1 := VM.2.1
      have VMz := VM.2.2
      go_wp2_with fail
      refine (iOkO _ _ _ _ _ (M.alloc _) _ true (meet_ok hm)).mono ?_
      rintro e w4 ⟨rfl, hb4⟩
      clear VA0 VA1 VAz VB0 VB1 VBz VM0 VM1 VMz
      replace VA := (by with_reducible first | exact VA.later hb4 | exact VA.drew.later hb4 | exact (VA.alloc _).later hb4 | exact ((VA.alloc _).alloc _).later hb4 | exact (((VA.alloc _).alloc _).alloc _).later hb4 : Cel1 w4 _ _)
      replace VB := (by with_reducible first | exact VB.later hb4 | exact VB.drew.later hb4 | exact (VB.alloc _).later hb4 | exact ((VB.alloc _).alloc _).later hb4 | exact (((VB.alloc _).alloc _).alloc _).later hb4 : Cel1 w4 _ _)
      replace VM := (by with_reducible first | exact VM.later hb4 | exact VM.drew.later hb4 | exact (VM.alloc _).later hb4 | exact ((VM.alloc _).alloc _).later hb4 | exact (((VM.alloc _).alloc _).alloc _).later hb4 : Cel1 w4 _ _)
      replace U := (by with_reducible first | exact U.later hb4 | exact U.drew.later hb4 | exact (U.alloc _).later hb4 | exact ((U.alloc _).alloc _).later hb4 | exact (((U.alloc _).alloc _).alloc _).later hb4 : OB w4 _ _ _ _)
      replace O := (by with_reducible first | exact O.later hb4 | exact O.drew.later hb4 | exact (O.alloc _).later hb4 | exact ((O.alloc _).alloc _).later hb4 | exact (((O.alloc _).alloc _).alloc _).later hb4 : OB w4 _ _ _ _)
      replace M := (by with_reducible first | exact M.later hb4 | exact M.drew.later hb4 | exact (M.alloc _).later hb4 | exact ((M.alloc _).alloc _).later hb4 | exact (((M.alloc _).alloc _).alloc _).later hb4 : OB w4 _ _ _ _)
      replace Mn := (by with_reducible first | exact Mn.later hb4 | exact Mn.drew.later hb4 | exact (Mn.alloc _).later hb4 | exact ((Mn.alloc _).alloc _).later hb4 | exact (((Mn.alloc _).alloc _).alloc _).later hb4 : OB w4 _ _ _ _)
      replace hB := (by with_reducible first | exact old_trans hB hb4 | exact old_trans (old_alloc hB _) hb4 | exact old_trans (old_alloc (old_alloc hB _) _) hb4 | exact old_trans (old_alloc (old_alloc (old_alloc hB _) _) _) hb4 : Below w.heap.size w w4)
      have VN := (Cel1.made _ _ rfl (.slice an (meetL us ps).length cn) 25).later hb4
      (try simp only [World.size_alloc] at VN)
      have VA0 := VA.1
      have VA1 := VA.2.1
      have VAz := VA.2.2
      have VB0 := VB.1
      have VB1 := VB.2.1
      have VBz := VB.2.2
      have VM0 := VM.1
      have VM1 := VM.2.1
      have VMz := VM.2.2
      have VN0 := VN.1
      have VN1 := VN.2.1
      have VNz := VN.2.2
      go_wp2_with fail
      refine (iIsO _ _ _ _ _ M _ _ _ _ U true meet_is1).mono ?_
      rintro e w5 ⟨rfl, hb5⟩
      clear VA0 VA1 VAz VB0 VB1 VBz VM0 VM1 VMz VN0 VN1 VNz
      replace VA := (by with_reducible first | exact VA.later hb5 | exact VA.drew.later hb5 | exact (VA.alloc _).later hb5 | exact ((VA.alloc _).alloc _).later hb5 | exact (((VA.alloc _).alloc _).alloc _).later hb5 : Cel1 w5 _ _)
      replace VB := (by with_reducible first | exact VB.later hb5 | exact VB.drew.later hb5 | exact (VB.alloc _).later hb5 | exact ((VB.alloc _).alloc _).later hb5 | exact (((VB.alloc _).alloc _).alloc _).later hb5 : Cel1 w5 _ _)
      replace VM := (by with_reducible first | exact VM.later hb5 | exact VM.drew.later hb5 | exact (VM.alloc _).later hb5 | exact ((VM.alloc _).alloc _).later hb5 | exact (((VM.alloc _).alloc _).alloc _).later hb5 : Cel1 w5 _ _)
      replace VN := (by with_reducible first | exact VN.later hb5 | exact VN.drew.later hb5 | exact (VN.alloc _).later hb5 | exact ((VN.alloc _).alloc _).later hb5 | exact (((VN.alloc _).alloc _).alloc _).later hb5 : Cel1 w5 _ _)
      replace U := (by with_reducible first | exact U.later hb5 | exact U.drew.later hb5 | exact (U.alloc _).later hb5 | exact ((U.alloc _).alloc _).later hb5 | exact (((U.alloc _).alloc _).alloc _).later hb5 : OB w5 _ _ _ _)
      replace O := (by with_reducible first | exact O.later hb5 | exact O.drew.later hb5 | exact (O.alloc _).later hb5 | exact ((O.alloc _).alloc _).later hb5 | exact (((O.alloc _).alloc _).alloc _).later hb5 : OB w5 _ _ _ _)
      replace M := (by with_reducible first | exact M.later hb5 | exact M.drew.later hb5 | exact (M.alloc _).later hb5 | exact ((M.alloc _).alloc _).later hb5 | exact (((M.alloc _).alloc _).alloc _).later hb5 : OB w5 _ _ _ _)
      replace Mn := (by with_reducible first | exact Mn.later hb5 | exact Mn.drew.later hb5 | exact (Mn.alloc _).later hb5 | exact ((Mn.alloc _).alloc _).later hb5 | exact (((Mn.alloc _).alloc _).alloc _).later hb5 : OB w5 _ _ _ _)
      replace hB := (by with_reducible first | exact old_trans hB hb5 | exact old_trans (old_alloc hB _) hb5 | exact old_trans (old_alloc (old_alloc hB _) _) hb5 | exact old_trans (old_alloc (old_alloc (old_alloc hB _) _) _) hb5 : Below w.heap.size w w5)
      have VA0 := VA.1
      have VA1 := VA.2.1
      have VAz := VA.2.2
      have VB0 := VB.1
      have VB1 := VB.2.1
      have VBz := VB.2.2
      have VM0 := VM.1
      have VM1 := VM.2.1
      have VMz := VM.2.2
      have VN0 := VN.1
      have VN1 := VN.2.1
      have VNz := VN.2.2
      go_wp2_with fail
      refine (iIsO _ _ _ _ _ M _ _ _ _ O true (meet_is2 (meetRow_in hm).2.2.1)).mono ?_
      rintro e w6 ⟨rfl, hb6⟩
      clear VA0 VA1 VAz VB0 VB1 VBz VM0 VM1 VMz VN0 VN1 VNz
      replace VA := (by with_reducible first | exact VA.later hb6 | exact VA.drew.later hb6 | exact (VA.alloc _).later hb6 | exact ((VA.alloc _).alloc _).later hb6 | exact (((VA.alloc _).alloc _).alloc _).later hb6 : Cel1 w6 _ _)
      replace VB := (by with_reducible first | exact VB.later hb6 | exact VB.drew.later hb6 | exact (VB.alloc _).later hb6 | exact ((VB.alloc _).alloc _).later hb6 | exact (((VB.alloc _).alloc _).alloc _).later hb6 : Cel1 w6 _ _)
      replace VM := (by with_reducible first | exact VM.later hb6 | exact VM.drew.later hb6 | exact (VM.alloc _).later hb6 | exact ((VM.alloc _).alloc _).later hb6 | exact (((VM.alloc _).alloc _).alloc _).later hb6 : Cel1 w6 _ _)
      replace VN := (by with_reducible first | exact VN.later hb6 | exact VN.drew.later hb6 | exact (VN.alloc _).later hb6 | exact ((VN.alloc _).alloc _).later hb6 | exact (((VN.alloc _).alloc _).alloc _).later hb6 : Cel1 w6 _ _)
      replace U := (by with_reducible first | exact U.later hb6 | exact U.drew.later hb6 | exact (U.alloc _).later hb6 | exact ((U.alloc _).alloc _).later hb6 | exact (((U.alloc _).alloc _).alloc _).later hb6 : OB w6 _ _ _ _)
      replace O := (by with_reducible first | exact O.later hb6 | exact O.drew.later hb6 | exact (O.alloc _).later hb6 | exact ((O.alloc _).alloc _).later hb6 | exact (((O.alloc _).alloc _).alloc _).later hb6 : OB w6 _ _ _ _)
      replace M := (by with_reducible first | exact M.later hb6 | exact M.drew.later hb6 | exact (M.alloc _).later hb6 | exact ((M.alloc _).alloc _).later hb6 | exact (((M.alloc _).alloc _).alloc _).later hb6 : OB w6 _ _ _ _)
      replace Mn := (by with_reducible first | exact Mn.later hb6 | exact Mn.drew.later hb6 | exact (Mn.alloc _).later hb6 | exact ((Mn.alloc _).alloc _).later hb6 | exact (((Mn.alloc _).alloc _).alloc _).later hb6 : OB w6 _ _ _ _)
      replace hB := (by with_reducible first | exact old_trans hB hb6 | exact old_trans (old_alloc hB _) hb6 | exact old_trans (old_alloc (old_alloc hB _) _) hb6 | exact old_trans (old_alloc (old_alloc (old_alloc hB _) _) _) hb6 : Below w.heap.size w w6)
      have VA0 := VA.1
      have VA1 := VA.2.1
      have VAz := VA.2.2
      have VB0 := VB.1
      have VB1 := VB.2.1
      have VBz := VB.2.2
      have VM0 := VM.1
      have VM1 := VM.2.1
      have VMz := VM.2.2
      have VN0 := VN.1
      have VN1 := VN.2.1
      have VNz := VN.2.2
      go_wp2_with fail
      refine (sOkO _ _ _ _ _ U _ true hu).mono ?_
      rintro e w7 ⟨rfl, hb7⟩
      clear VA0 VA1 VAz VB0 VB1 VBz VM0 VM1 VMz VN0 VN1 VNz
      replace VA := (by with_reducible first | exact VA.later hb7 | exact VA.drew.later hb7 | exact (VA.alloc _).later hb7 | exact ((VA.alloc _).alloc _).later hb7 | exact (((VA.alloc _).alloc _).alloc _).later hb7 : Cel1 w7 _ _)
      replace VB := (by with_reducible first | exact VB.later hb7 | exact VB.drew.later hb7 | exact (VB.alloc _).later hb7 | exact ((VB.alloc _).alloc _).later hb7 | exact (((VB.alloc _).alloc _).alloc _).later hb7 : Cel1 w7 _ _)
      replace VM := (by with_reducible first | exact VM.later hb7 | exact VM.drew.later hb7 | exact (VM.alloc _).later hb7 | exact ((VM.alloc _).alloc _).later hb7 | exact (((VM.alloc _).alloc _).alloc _).later hb7 : Cel1 w7 _ _)
      replace VN := (by with_reducible first | exact VN.later hb7 | exact VN.drew.later hb7 | exact (VN.alloc _).later hb7 | exact ((VN.alloc _).alloc _).later hb7 | exact (((VN.alloc _).alloc _).alloc _).later hb7 : Cel1 w7 _ _)
      replace U := (by with_reducible first | exact U.later hb7 | exact U.drew.later hb7 | exact (U.alloc _).later hb7 | exact ((U.alloc _).alloc _).later hb7 | exact (((U.alloc _).alloc _).alloc _).later hb7 : OB w7 _ _ _ _)
      replace O := (by with_reducible first | exact O.later hb7 | exact O.drew.later hb7 | exact (O.alloc _).later hb7 | exact ((O.alloc _).alloc _).later hb7 | exact (((O.alloc _).alloc _).alloc _).later hb7 : OB w7 _ _ _ _)
      replace M := (by with_reducible first | exact M.later hb7 | exact M.drew.later hb7 | exact (M.alloc _).later hb7 | exact ((M.alloc _).alloc _).later hb7 | exact (((M.alloc _).alloc _).alloc _).later hb7 : OB w7 _ _ _ _)
      replace Mn := (by with_reducible first | exact Mn.later hb7 | exact Mn.drew.later hb7 | exact (Mn.alloc _).later hb7 | exact ((Mn.alloc _).alloc _).later hb7 | exact (((Mn.alloc _).alloc _).alloc _).later hb7 : OB w7 _ _ _ _)
      replace hB := (by with_reducible first | exact old_trans hB hb7 | exact old_trans (old_alloc hB _) hb7 | exact old_trans (old_alloc (old_alloc hB _) _) hb7 | exact old_trans (old_alloc (old_alloc (old_alloc hB _) _) _) hb7 : Below w.heap.size w w7)
      have VA0 := VA.1
      have VA1 := VA.2.1
      have VAz := VA.2.2
      have VB0 := VB.1
      have VB1 := VB.2.1
      have VBz := VB.2.2
      have VM0 := VM.1
      have VM1 := VM.2.1
      have VMz := VM.2.2
      have VN0 := VN.1
      have VN1 := VN.2.1
      have VNz := VN.2.2
      go_wp2_with fail
      refine (sOkO _ _ _ _ _ O _ true hp).mono ?_
      rintro e w8 ⟨rfl, hb8⟩
      clear VA0 VA1 VAz VB0 VB1 VBz VM0 VM1 VMz VN0 VN1 VNz
      replace VA := (by with_reducible first | exact VA.later hb8 | exact VA.drew.later hb8 | exact (VA.alloc _).later hb8 | exact ((VA.alloc _).alloc _).later hb8 | exact (((VA.alloc _).alloc _).alloc _).later hb8 : Cel1 w8 _ _)
      replace VB := (by with_reducible first | exact VB.later hb8 | exact VB.drew.later hb8 | exact (VB.alloc _).later hb8 | exact ((VB.alloc _).alloc _).later hb8 | exact (((VB.alloc _).alloc _).alloc _).later hb8 : Cel1 w8 _ _)
      replace VM := (by with_reducible first | exact VM.later hb8 | exact VM.drew.later hb8 | exact (VM.alloc _).later hb8 | exact ((VM.alloc _).alloc _).later hb8 | exact (((VM.alloc _).alloc _).alloc _).later hb8 : Cel1 w8 _ _)
      replace VN := (by with_reducible first | exact VN.later hb8 | exact VN.drew.later hb8 | exact (VN.alloc _).later hb8 | exact ((VN.alloc _).alloc _).later hb8 | exact (((VN.alloc _).alloc _).alloc _).later hb8 : Cel1 w8 _ _)
      replace U := (by with_reducible first | exact U.later hb8 | exact U.drew.later hb8 | exact (U.alloc _).later hb8 | exact ((U.alloc _).alloc _).later hb8 | exact (((U.alloc _).alloc _).alloc _).later hb8 : OB w8 _ _ _ _)
      replace O := (by with_reducible first | exact O.later hb8 | exact O.drew.later hb8 | exact (O.alloc _).later hb8 | exact ((O.alloc _).alloc _).later hb8 | exact (((O.alloc _).alloc _).alloc _).later hb8 : OB w8 _ _ _ _)
      replace M := (by with_reducible first | exact M.later hb8 | exact M.drew.later hb8 | exact (M.alloc _).later hb8 | exact ((M.alloc _).alloc _).later hb8 | exact (((M.alloc _).alloc _).alloc _).later hb8 : OB w8 _ _ _ _)
      replace Mn := (by with_reducible first | exact Mn.later hb8 | exact Mn.drew.later hb8 | exact (Mn.alloc _).later hb8 | exact ((Mn.alloc _).alloc _).later hb8 | exact (((Mn.alloc _).alloc _).alloc _).later hb8 : OB w8 _ _ _ _)
      replace hB := (by with_reducible first | exact old_trans hB hb8 | exact old_trans (old_alloc hB _) hb8 | exact old_trans (old_alloc (old_alloc hB _) _) hb8 | exact old_trans (old_alloc (old_alloc (old_alloc hB _) _) _) hb8 : Below w.heap.size w w8)
      have VA0 := VA.1
      have VA1 := VA.2.1
      have VAz := VA.2.2
      have VB0 := VB.1
      have VB1 := VB.2.1
      have VBz := VB.2.2
      have VM0 := VM.1
      have VM1 := VM.2.1
      have VMz := VM.2.2
      have VN0 := VN.1
      have VN1 := VN.2.1
      have VNz := VN.2.2
      go_wp2_with fail
      refine (iIsO _ _ _ _ _ U _ _ _ _ O false hi).mono ?_
      rintro e w9 ⟨rfl, hb9⟩
      clear VA0 VA1 VAz VB0 VB1 VBz VM0 VM1 VMz VN0 VN1 VNz
      replace VA := (by with_reducible first | exact VA.later hb9 | exact VA.drew.later hb9 | exact (VA.alloc _).later hb9 | exact ((VA.alloc _).alloc _).later hb9 | exact (((VA.alloc _).alloc _).alloc _).later hb9 : Cel1 w9 _ _)
      replace VB := (by with_reducible first | exact VB.later hb9 | exact VB.drew.later hb9 | exact (VB.alloc _).later hb9 | exact ((VB.alloc _).alloc _).later hb9 | exact (((VB.alloc _).alloc _).alloc _).later hb9 : Cel1 w9 _ _)
      replace VM := (by with_reducible first | exact VM.later hb9 | exact VM.drew.later hb9 | exact (VM.alloc _).later hb9 | exact ((VM.alloc _).alloc _).later hb9 | exact (((VM.alloc _).alloc _).alloc _).later hb9 : Cel1 w9 _ _)
      replace VN := (by with_reducible first | exact VN.later hb9 | exact VN.drew.later hb9 | exact (VN.alloc _).later hb9 | exact ((VN.alloc _).alloc _).later hb9 | exact (((VN.alloc _).alloc _).alloc _).later hb9 : Cel1 w9 _ _)
      replace U := (by with_reducible first | exact U.later hb9 | exact U.drew.later hb9 | exact (U.alloc _).later hb9 | exact ((U.alloc _).alloc _).later hb9 | exact (((U.alloc _).alloc _).alloc _).later hb9 : OB w9 _ _ _ _)
      replace O := (by with_reducible first | exact O.later hb9 | exact O.drew.later hb9 | exact (O.alloc _).later hb9 | exact ((O.alloc _).alloc _).later hb9 | exact (((O.alloc _).alloc _).alloc _).later hb9 : OB w9 _ _ _ _)
      replace M := (by with_reducible first | exact M.later hb9 | exact M.drew.later hb9 | exact (M.alloc _).later hb9 | exact ((M.alloc _).alloc _).later hb9 | exact (((M.alloc _).alloc _).alloc _).later hb9 : OB w9 _ _ _ _)
      replace Mn := (by with_reducible first | exact Mn.later hb9 | exact Mn.drew.later hb9 | exact (Mn.alloc _).later hb9 | exact ((Mn.alloc _).alloc _).later hb9 | exact (((Mn.alloc _).alloc _).alloc _).later hb9 : OB w9 _ _ _ _)
      replace hB := (by with_reducible first | exact old_trans hB hb9 | exact old_trans (old_alloc hB _) hb9 | exact old_trans (old_alloc (old_alloc hB _) _) hb9 | exact old_trans (old_alloc (old_alloc (old_alloc hB _) _) _) hb9 : Below w.heap.size w w9)
      have VA0 := VA.1
      have VA1 := VA.2.1
      have VAz := VA.2.2
      have VB0 := VB.1
      have VB1 := VB.2.1
      have VBz := VB.2.2
      have VM0 := VM.1
      have VM1 := VM.2.1
      have VMz := VM.2.2
      have VN0 := VN.1
      have VN1 := VN.2.1
      have VNz := VN.2.2
      go_wp2
      go_ret
      exact ⟨rfl, (by repeat (first | exact hB | exact Below.refl _ _ | refine Below.drew ?_ | refine old_alloc ?_ _ | refine old_trans ?_ (by assumption)))⟩
  case true =>
    have hm := within_meet hu hp hi
    go_wp2_with fail
    refine (iMeetYes _ _ _ _ _ _ ((U.alloc _).alloc _) _ _ _ _ ((O.alloc _).alloc _) hm.1).mono ?_
    rintro e w2 ⟨⟨am, cm, rfl, M⟩, hb2⟩
    replace U := (by with_reducible first | exact U.later hb2 | exact U.drew.later hb2 | exact (U.alloc _).later hb2 | exact ((U.alloc _).alloc _).later hb2 | exact (((U.alloc _).alloc _).alloc _).later hb2 : OB w2 _ _ _ _)
    replace O := (by with_reducible first | exact O.later hb2 | exact O.drew.later hb2 | exact (O.alloc _).later hb2 | exact ((O.alloc _).alloc _).later hb2 | exact (((O.alloc _).alloc _).alloc _).later hb2 : OB w2 _ _ _ _)
    replace hB := (by with_reducible first | exact old_trans hB hb2 | exact old_trans (old_alloc hB _) hb2 | exact old_trans (old_alloc (old_alloc hB _) _) hb2 | exact old_trans (old_alloc (old_alloc (old_alloc hB _) _) _) hb2 : Below w.heap.size w w2)
    have VA := ((Cel1.made _ _ rfl (.slice au us.length cu) 25).alloc _).later hb2
    (try simp only [World.size_alloc] at VA)
    have VB := (Cel1.made _ _ rfl (.slice av ps.length cv) 25).later hb2
    (try simp only [World.size_alloc] at VB)
    have VA0 := VA.1
    have VA1 := VA.2.1
    have VAz := VA.2.2
    have VB0 := VB.1
    have VB1 := VB.2.1
    have VBz := VB.2.2
    go_wp2_with fail
    refine (sMeetYes _ _ _ _ _ _ (U.alloc _) _ _ _ _ (O.alloc _) hm.1).mono ?_
    rintro e w3 ⟨⟨an, cn, rfl, Mn⟩, hb3⟩
    clear VA0 VA1 VAz VB0 VB1 VBz
    replace VA := (by with_reducible first | exact VA.later hb3 | exact VA.drew.later hb3 | exact (VA.alloc _).later hb3 | exact ((VA.alloc _).alloc _).later hb3 | exact (((VA.alloc _).alloc _).alloc _).later hb3 : Cel1 w3 _ _)
    replace VB := (by with_reducible first | exact VB.later hb3 | exact VB.drew.later hb3 | exact (VB.alloc _).later hb3 | exact ((VB.alloc _).alloc _).later hb3 | exact (((VB.alloc _).alloc _).alloc _).later hb3 : Cel1 w3 _ _)
    replace U := (by with_reducible first | exact U.later hb3 | exact U.drew.later hb3 | exact (U.alloc _).later hb3 | exact ((U.alloc _).alloc _).later hb3 | exact (((U.alloc _).alloc _).alloc _).later hb3 : OB w3 _ _ _ _)
    replace O := (by with_reducible first | exact O.later hb3 | exact O.drew.later hb3 | exact (O.alloc _).later hb3 | exact ((O.alloc _).alloc _).later hb3 | exact (((O.alloc _).alloc _).alloc _).later hb3 : OB w3 _ _ _ _)
    replace M := (by with_reducible first | exact M.later hb3 | exact M.drew.later hb3 | exact (M.alloc _).later hb3 | exact ((M.alloc _).alloc _).later hb3 | exact (((M.alloc _).alloc _).alloc _).later hb3 : OB w3 _ _ _ _)
    replace hB := (by with_reducible first | exact old_trans hB hb3 | exact old_trans (old_alloc hB _) hb3 | exact old_trans (old_alloc (old_alloc hB _) _) hb3 | exact old_trans (old_alloc (old_alloc (old_alloc hB _) _) _) hb3 : Below w.heap.size w w3)
    have VM := (Cel1.made _ _ rfl (.slice am (meetL us ps).length cm) 25).later hb3
    (try simp only [World.size_alloc] at VM)
    have VA0 := VA.1
    have VA1 := VA.2.1
    have VAz := VA.2.2
    have VB0 := VB.1
    have VB1 := VB.2.1
    have VBz := VB.2.2
    have VM0 := VM.1
    have VM1 := VM.2.1
    have VMz := VM.2.2
    go_wp2_with fail
    refine (iOkO _ _ _ _ _ (M.alloc _) _ true (meet_ok hm.1)).mono ?_
    rintro e w4 ⟨rfl, hb4⟩
    clear VA0 VA1 VAz VB0 VB1 VBz VM0 VM1 VMz
    replace VA := (by with_reducible first | exact VA.later hb4 | exact VA.drew.later hb4 | exact (VA.alloc _).later hb4 | exact ((VA.alloc _).alloc _).later hb4 | exact (((VA.alloc _).alloc _).alloc _).later hb4 : Cel1 w4 _ _)
    replace VB := (by with_reducible first | exact VB.later hb4 | exact VB.drew.later hb4 | exact (VB.alloc _).later hb4 | exact ((VB.alloc _).alloc _).later hb4 | exact (((VB.alloc _).alloc _).alloc _).later hb4 : Cel1 w4 _ _)
    replace VM := (by with_reducible first | exact VM.later hb4 | exact VM.drew.later hb4 | exact (VM.alloc _).later hb4 | exact ((VM.alloc _).alloc _).later hb4 | exact (((VM.alloc _).alloc _).alloc _).later hb4 : Cel1 w4 _ _)
    replace U := (by with_reducible first | exact U.later hb4 | exact U.drew.later hb4 | exact (U.alloc _).later hb4 | exact ((U.alloc _).alloc _).later hb4 | exact (((U.alloc _).alloc _).alloc _).later hb4 : OB w4 _ _ _ _)
    replace O := (by with_reducible first | exact O.later hb4 | exact O.drew.later hb4 | exact (O.alloc _).later hb4 | exact ((O.alloc _).alloc _).later hb4 | exact (((O.alloc _).alloc _).alloc _).later hb4 : OB w4 _ _ _ _)
    replace M := (by with_reducible first | exact M.later hb4 | exact M.drew.later hb4 | exact (M.alloc _).later hb4 | exact ((M.alloc _).alloc _).later hb4 | exact (((M.alloc _).alloc _).alloc _).later hb4 : OB w4 _ _ _ _)
    replace Mn := (by with_reducible first | exact Mn.later hb4 | exact Mn.drew.later hb4 | exact (Mn.alloc _).later hb4 | exact ((Mn.alloc _).alloc _).later hb4 | exact (((Mn.alloc _).alloc _).alloc _).later hb4 : OB w4 _ _ _ _)
    replace hB := (by with_reducible first | exact old_trans hB hb4 | exact old_trans (old_alloc hB _) hb4 | exact old_trans (old_alloc (old_alloc hB _) _) hb4 | exact old_trans (old_alloc (old_alloc (old_alloc hB _) _) _) hb4 : Below w.heap.size w w4)
    have VN := (Cel1.made _ _ rfl (.slice an (meetL us ps).length cn) 25).later hb4
    (try simp only [World.size_alloc] at VN)
    have VA0 := VA.1
    have VA1 := VA.2.1
    have VAz := VA.2.2
    have VB0 := VB.1
    have VB1 := VB.2.1
    have VBz := VB.2.2
    have VM0 := VM.1
    have VM1 := VM.2.1
    have VMz := VM.2.2
    have VN0 := VN.1
    have VN1 := VN.2.1
    have VNz := VN.2.2
    go_wp2_with fail
    refine (iIsO _ _ _ _ _ M _ _ _ _ U true meet_is1).mono ?_
    rintro e w5 ⟨rfl, hb5⟩
    clear VA0 VA1 VAz VB0 VB1 VBz VM0 VM1 VMz VN0 VN1 VNz
    replace VA := (by with_reducible first | exact VA.later hb5 | exact VA.drew.later hb5 | exact (VA.alloc _).later hb5 | exact ((VA.alloc _).alloc _).later hb5 | exact (((VA.alloc _).alloc _).alloc _).later hb5 : Cel1 w5 _ _)
    replace VB := (by with_reducible first | exact VB.later hb5 | exact VB.drew.later hb5 | exact (VB.alloc _).later hb5 | exact ((VB.alloc _).alloc _).later hb5 | exact (((VB.alloc _).alloc _).alloc _).later hb5 : Cel1 w5 _ _)
    replace VM := (by with_reducible first | exact VM.later hb5 | exact VM.drew.later hb5 | exact (VM.alloc _).later hb5 | exact ((VM.alloc _).alloc _).later hb5 | exact (((VM.alloc _).alloc _).alloc _).later hb5 : Cel1 w5 _ _)
    replace VN := (by with_reducible first | exact VN.later hb5 | exact VN.drew.later hb5 | exact (VN.alloc _).later hb5 | exact ((VN.alloc _).alloc _).later hb5 | exact (((VN.alloc _).alloc _).alloc _).later hb5 : Cel1 w5 _ _)
    replace U := (by with_reducible first | exact U.later hb5 | exact U.drew.later hb5 | exact (U.alloc _).later hb5 | exact ((U.alloc _).alloc _).later hb5 | exact (((U.alloc _).alloc _).alloc _).later hb5 : OB w5 _ _ _ _)
    replace O := (by with_reducible first | exact O.later hb5 | exact O.drew.later hb5 | exact (O.alloc _).later hb5 | exact ((O.alloc _).alloc _).later hb5 | exact (((O.alloc _).alloc _).alloc _).later hb5 : OB w5 _ _ _ _)
    replace M := (by with_reducible first | exact M.later hb5 | exact M.drew.later hb5 | exact (M.alloc _).later hb5 | exact ((M.alloc _).alloc _).later hb5 | exact (((M.alloc _).alloc _).alloc _).later hb5 : OB w5 _ _ _ _)
    replace Mn := (by with_reducible first | exact Mn.later hb5 | exact Mn.drew.later hb5 | exact (Mn.alloc _).later hb5 | exact ((Mn.alloc _).alloc _).later hb5 | exact (((Mn.alloc _).alloc _).alloc _).later hb5 : OB w5 _ _ _ _)
    replace hB := (by with_reducible first | exact old_trans hB hb5 | exact old_trans (old_alloc hB _) hb5 | exact old_trans (old_alloc (old_alloc hB _) _) hb5 | exact old_trans (old_alloc (old_alloc (old_alloc hB _) _) _) hb5 : Below w.heap.size w w5)
    have VA0 := VA.1
    have VA1 := VA.2.1
    have VAz := VA.2.2
    have VB0 := VB.1
    have VB1 := VB.2.1
    have VBz := VB.2.2
    have VM0 := VM.1
    have VM1 := VM.2.1
    have VMz := VM.2.2
    have VN0 := VN.1
    have VN1 := VN.2.1
    have VNz := VN.2.2
    go_wp2_with fail
    refine (iIsO _ _ _ _ _ M _ _ _ _ O true (meet_is2 (meetRow_in hm.1).2.2.1)).mono ?_
    rintro e w6 ⟨rfl, hb6⟩
    clear VA0 VA1 VAz VB0 VB1 VBz VM0 VM1 VMz VN0 VN1 VNz
    replace VA := (by with_reducible first | exact VA.later hb6 | exact VA.drew.later hb6 | exact (VA.alloc _).later hb6 | exact ((VA.alloc _).alloc _).later hb6 | exact (((VA.alloc _).alloc _).alloc _).later hb6 : Cel1 w6 _ _)
    replace VB := (by with_reducible first | exact VB.later hb6 | exact VB.drew.later hb6 | exact (VB.alloc _).later hb6 | exact ((VB.alloc _).alloc _).later hb6 | exact (((VB.alloc _).alloc _).alloc _).later hb6 : Cel1 w6 _ _)
    replace VM := (by with_reducible first | exact VM.later hb6 | exact VM.drew.later hb6 | exact (VM.alloc _).later hb6 | exact ((VM.alloc _).alloc _).later hb6 | exact (((VM.alloc _).alloc _).alloc _).later hb6 : Cel1 w6 _ _)
    replace VN := (by with_reducible first | exact VN.later hb6 | exact VN.drew.later hb6 | exact (VN.alloc _).later hb6 | exact ((VN.alloc _).alloc _).later hb6 | exact (((VN.alloc _).alloc _).alloc _).later hb6 : Cel1 w6 _ _)
    replace U := (by with_reducible first | exact U.later hb6 | exact U.drew.later hb6 | exact (U.alloc _).later hb6 | exact ((U.alloc _).alloc _).later hb6 | exact (((U.alloc _).alloc _).alloc _).later hb6 : OB w6 _ _ _ _)
    replace O := (by with_reducible first | exact O.later hb6 | exact O.drew.later hb6 | exact (O.alloc _).later hb6 | exact ((O.alloc _).alloc _).later hb6 | exact (((O.alloc _).alloc _).alloc _).later hb6 : OB w6 _ _ _ _)
    replace M := (by with_reducible first | exact M.later hb6 | exact M.drew.later hb6 | exact (M.alloc _).later hb6 | exact ((M.alloc _).alloc _).later hb6 | exact (((M.alloc _).alloc _).alloc _).later hb6 : OB w6 _ _ _ _)
    replace Mn := (by with_reducible first | exact Mn.later hb6 | exact Mn.drew.later hb6 | exact (Mn.alloc _).later hb6 | exact ((Mn.alloc _).alloc _).later hb6 | exact (((Mn.alloc _).alloc _).alloc _).later hb6 : OB w6 _ _ _ _)
    replace hB := (by with_reducible first | exact old_trans hB hb6 | exact old_trans (old_alloc hB _) hb6 | exact old_trans (old_alloc (old_alloc hB _) _) hb6 | exact old_trans (old_alloc (old_alloc (old_alloc hB _) _) _) hb6 : Below w.heap.size w w6)
    have VA0 := VA.1
    have VA1 := VA.2.1
    have VAz := VA.2.2
    have VB0 := VB.1
    have VB1 := VB.2.1
    have VBz := VB.2.2
    have VM0 := VM.1
    have VM1 := VM.2.1
    have VMz := VM.2.2
    have VN0 := VN.1
    have VN1 := VN.2.1
    have VNz := VN.2.2
    go_wp2_with fail
    refine (sOkO _ _ _ _ _ U _ true hu).mono ?_
    rintro e w7 ⟨rfl, hb7⟩
    clear VA0 VA1 VAz VB0 VB1 VBz VM0 VM1 VMz VN0 VN1 VNz
    replace VA := (by with_reducible first | exact VA.later hb7 | exact VA.drew.later hb7 | exact (VA.alloc _).later hb7 | exact ((VA.alloc _).alloc _).later hb7 | exact (((VA.alloc _).alloc _).alloc _).later hb7 : Cel1 w7 _ _)
    replace VB := (by with_reducible first | exact VB.later hb7 | exact VB.drew.later hb7 | exact (VB.alloc _).later hb7 | exact ((VB.alloc _).alloc _).later hb7 | exact (((VB.alloc _).alloc _).alloc _).later hb7 : Cel1 w7 _ _)
    replace VM := (by with_reducible first | exact VM.later hb7 | exact VM.drew.later hb7 | exact (VM.alloc _).later hb7 | exact ((VM.alloc _).alloc _).later hb7 | exact (((VM.alloc _).alloc _).alloc _).later hb7 : Cel1 w7 _ _)
    replace VN := (by with_reducible first | exact VN.later hb7 | exact VN.drew.later hb7 | exact (VN.alloc _).later hb7 | exact ((VN.alloc _).alloc _).later hb7 | exact (((VN.alloc _).alloc _).alloc _).later hb7 : Cel1 w7 _ _)
    replace U := (by with_reducible first | exact U.later hb7 | exact U.drew.later hb7 | exact (U.alloc _).later hb7 | exact ((U.alloc _).alloc _).later hb7 | exact (((U.alloc _).alloc _).alloc _).later hb7 : OB w7 _ _ _ _)
    replace O := (by with_reducible first | exact O.later hb7 | exact O.drew.later hb7 | exact (O.alloc _).later hb7 | exact ((O.alloc _).alloc _).later hb7 | exact (((O.alloc _).alloc _).alloc _).later hb7 : OB w7 _ _ _ _)
    replace M := (by with_reducible first | exact M.later hb7 | exact M.drew.later hb7 | exact (M.alloc _).later hb7 | exact ((M.alloc _).alloc _).later hb7 | exact (((M.alloc _).alloc _).alloc _).later hb7 : OB w7 _ _ _ _)
    replace Mn := (by with_reducible first | exact Mn.later hb7 | exact Mn.drew.later hb7 | exact (Mn.alloc _).later hb7 | exact ((Mn.alloc _).alloc _).later hb7 | exact (((Mn.alloc _).alloc _).alloc _).later hb7 : OB w7 _ _ _ _)
    replace hB := (by with_reducible first | exact old_trans hB hb7 | exact old_trans (old_alloc hB _) hb7 | exact old_trans (old_alloc (old_alloc hB _) _) hb7 | exact old_trans (old_alloc (old_alloc (old_alloc hB _) _) _) hb7 : Below w.heap.size w w7)
    have VA0 := VA.1
    have VA1 := VA.2.1
    have VAz := VA.2.2
    have VB0 := VB.1
    have VB1 := VB.2.1
    have VBz := VB.2.2
    have VM0 := VM.1
    have VM1 := VM.2.1
    have VMz := VM.2.2
    have VN0 := VN.1
    have VN1 := VN.2.1
    have VNz := VN.2.2
    go_wp2_with fail
    refine (sOkO _ _ _ _ _ O _ true hp).mono ?_
    rintro e w8 ⟨rfl, hb8⟩
    clear VA0 VA1 VAz VB0 VB1 VBz VM0 VM1 VMz VN0 VN1 VNz
    replace VA := (by with_reducible first | exact VA.later hb8 | exact VA.drew.later hb8 | exact (VA.alloc _).later hb8 | exact ((VA.alloc _).alloc _).later hb8 | exact (((VA.alloc _).alloc _).alloc _).later hb8 : Cel1 w8 _ _)
    replace VB := (by with_reducible first | exact VB.later hb8 | exact VB.drew.later hb8 | exact (VB.alloc _).later hb8 | exact ((VB.alloc _).alloc _).later hb8 | exact (((VB.alloc _).alloc _).alloc _).later hb8 : Cel1 w8 _ _)
    replace VM := (by with_reducible first | exact VM.later hb8 | exact VM.drew.later hb8 | exact (VM.alloc _).later hb8 | exact ((VM.alloc _).alloc _).later hb8 | exact (((VM.alloc _).alloc _).alloc _).later hb8 : Cel1 w8 _ _)
    replace VN := (by with_reducible first | exact VN.later hb8 | exact VN.drew.later hb8 | exact (VN.alloc _).later hb8 | exact ((VN.alloc _).alloc _).later hb8 | exact (((VN.alloc _).alloc _).alloc _).later hb8 : Cel1 w8 _ _)
    replace U := (by with_reducible first | exact U.later hb8 | exact U.drew.later hb8 | exact (U.alloc _).later hb8 | exact ((U.alloc _).alloc _).later hb8 | exact (((U.alloc _).alloc _).alloc _).later hb8 : OB w8 _ _ _ _)
    replace O := (by with_reducible first | exact O.later hb8 | exact O.drew.later hb8 | exact (O.alloc _).later hb8 | exact ((O.alloc _).alloc _).later hb8 | exact (((O.alloc _).alloc _).alloc _).later hb8 : OB w8 _ _ _ _)
    replace M := (by with_reducible first | exact M.later hb8 | exact M.drew.later hb8 | exact (M.alloc _).later hb8 | exact ((M.alloc _).alloc _).later hb8 | exact (((M.alloc _).alloc _).alloc _).later hb8 : OB w8 _ _ _ _)
    replace Mn := (by with_reducible first | exact Mn.later hb8 | exact Mn.drew.later hb8 | exact (Mn.alloc _).later hb8 | exact ((Mn.alloc _).alloc _).later hb8 | exact (((Mn.alloc _).alloc _).alloc _).later hb8 : OB w8 _ _ _ _)
    replace hB := (by with_reducible first | exact old_trans hB hb8 | exact old_trans (old_alloc hB _) hb8 | exact old_trans (old_alloc (old_alloc hB _) _) hb8 | exact old_trans (old_alloc (old_alloc (old_alloc hB _) _) _) hb8 : Below w.heap.size w w8)
    have VA0 := VA.1
    have VA1 := VA.2.1
    have VAz := VA.2.2
    have VB0 := VB.1
    have VB1 := VB.2.1
    have VBz := VB.2.2
    have VM0 := VM.1
    have VM1 := VM.2.1
    have VMz := VM.2.2
    have VN0 := VN.1
    have VN1 := VN.2.1
    have VNz := VN.2.2
    go_wp2_with fail
    refine (iIsO _ _ _ _ _ U _ _ _ _ O true hi).mono ?_
    rintro e w9 ⟨rfl, hb9⟩
    clear VA0 VA1 VAz VB0 VB1 VBz VM0 VM1 VMz VN0 VN1 VNz
    replace VA := (by with_reducible first | exact VA.later hb9 | exact VA.drew.later hb9 | exact (VA.alloc _).later hb9 | exact ((VA.alloc _).alloc _).later hb9 | exact (((VA.alloc _).alloc _).alloc _).later hb9 : Cel1 w9 _ _)
    replace VB := (by with_reducible first | exact VB.later hb9 | exact VB.drew.later hb9 | exact (VB.alloc _).later hb9 | exact ((VB.alloc _).alloc _).later hb9 | exact (((VB.alloc _).alloc _).alloc _).later hb9 : Cel1 w9 _ _)
    replace VM := (by with_reducible first | exact VM.later hb9 | exact VM.drew.later hb9 | exact (VM.alloc _).later hb9 | exact ((VM.alloc _).alloc _).later hb9 | exact (((VM.alloc _).alloc _).alloc _).later hb9 : Cel1 w9 _ _)
    replace VN := (by with_reducible first | exact VN.later hb9 | exact VN.drew.later hb9 | exact (VN.alloc _).later hb9 | exact ((VN.alloc _).alloc _).later hb9 | exact (((VN.alloc _).alloc _).alloc _).later hb9 : Cel1 w9 _ _)
    replace U := (by with_reducible first | exact U.later hb9 | exact U.drew.later hb9 | exact (U.alloc _).later hb9 | exact ((U.alloc _).alloc _).later hb9 | exact (((U.alloc _).alloc _).alloc _).later hb9 : OB w9 _ _ _ _)
    replace O := (by with_reducible first | exact O.later hb9 | exact O.drew.later hb9 | exact (O.alloc _).later hb9 | exact ((O.alloc _).alloc _).later hb9 | exact (((O.alloc _).alloc _).alloc _).later hb9 : OB w9 _ _ _ _)
    replace M := (by with_reducible first | exact M.later hb9 | exact M.drew.later hb9 | exact (M.alloc _).later hb9 | exact ((M.alloc _).alloc _).later hb9 | exact (((M.alloc _).alloc _).alloc _).later hb9 : OB w9 _ _ _ _)
    replace Mn := (by with_reducible first | exact Mn.later hb9 | exact Mn.drew.later hb9 | exact (Mn.alloc _).later hb9 | exact ((Mn.alloc _).alloc _).later hb9 | exact (((Mn.alloc _).alloc _).alloc _).later hb9 : OB w9 _ _ _ _)
    replace hB := (by with_reducible first | exact old_trans hB hb9 | exact old_trans (old_alloc hB _) hb9 | exact old_trans (old_alloc (old_alloc hB _) _) hb9 | exact old_trans (old_alloc (old_alloc (old_alloc hB _) _) _) hb9 : Below w.heap.size w w9)
    have VA0 := VA.1
    have VA1 := VA.2.1
    have VAz := VA.2.2
    have VB0 := VB.1
    have VB1 := VB.2.1
    have VBz := VB.2.2
    have VM0 := VM.1
    have VM1 := VM.2.1
    have VMz := VM.2.2
    have VN0 := VN.1
    have VN1 := VN.2.1
    have VNz := VN.2.2
    have ule := units_le hu hp hi
    have ple := path_le hu hp hi
    have Ia := hd (fun (W : World) (hb : Below w9.heap.size w9 W) => iIsO _ _ _ _ _ (U.later hb) _ _ _ _ (M.later hb) true hm.2)
    have Ua := hd (fun (W : World) (hb : Below w9.heap.size w9 W) => iUnitsO wd _ _ _ _ _ (U.later hb))
    have Ub := hd (fun (W : World) (hb : Below w9.heap.size w9 W) => iUnitsO wd _ _ _ _ _ (O.later hb))
    have Pa := hd (fun (W : World) (hb : Below w9.heap.size w9 W) => iPathO wd _ _ _ _ _ (U.later hb))
    have Pb := hd (fun (W : World) (hb : Below w9.heap.size w9 W) => iPathO wd _ _ _ _ _ (O.later hb))
    generalize unitsRow wd us = xu at *
    generalize unitsRow wd ps = xp at *
    generalize pathRow wd us = yu at *
    generalize pathRow wd ps = yp at *
    have du : decide (xp < xu) = false := by simp; omega
    have dp : decide (yp < yu) = false := by simp; omega
    have hc : Below w9.heap.size w9 w9 := Below.refl _ _
    go_wp2_with fail
    go_region_held3 (fun w' => w'.cell? ⟨w1.heap.size, 0, none⟩ = some (.slice au us.length cu) ∧ w'.cell? ⟨w1.heap.size + 1, 0, none⟩ = some (.slice av ps.length cv) ∧ w'.cell? ⟨w2.heap.size, 0, none⟩ = some (.slice am (meetL us ps).length cm)) (go_keep) (first | (go_at_call 11; refine (Ia.out _ (by with_reducible first | exact hc | exact Below.drew hc)).mono ?_; rintro e wx ⟨rfl, hbx⟩; have hc := (by with_reducible first | exact old_trans hc hbx | exact old_trans (Below.drew hc) hbx : Below w9.heap.size w9 wx); have a0' := (VA.later hc).1; have b0' := (VB.later hc).1; have m0' := (VM.later hc).1) | (go_at_call_of 16 (Value.agg #[.slice au us.length cu]); refine (Ua.out _ (by with_reducible first | exact hc | exact Below.drew hc)).mono ?_; rintro e wx ⟨rfl, hbx⟩; have hc := (by with_reducible first | exact old_trans hc hbx | exact old_trans (Below.drew hc) hbx : Below w9.heap.size w9 wx); have a0' := (VA.later hc).1; have b0' := (VB.later hc).1; have m0' := (VM.later hc).1) | (go_at_call_of 16 (Value.agg #[.slice av ps.length cv]); refine (Ub.out _ (by with_reducible first | exact hc | exact Below.drew hc)).mono ?_; rintro e wx ⟨rfl, hbx⟩; have hc := (by with_reducible first | exact old_trans hc hbx | exact old_trans (Below.drew hc) hbx : Below w9.heap.size w9 wx); have a0' := (VA.later hc).1; have b0' := (VB.later hc).1; have m0' := (VM.later hc).1) | (go_at_call_of 17 (Value.agg #[.slice au us.length cu]); refine (Pa.out _ (by with_reducible first | exact hc | exact Below.drew hc)).mono ?_; rintro e wx ⟨rfl, hbx⟩; have hc := (by with_reducible first | exact old_trans hc hbx | exact old_trans (Below.drew hc) hbx : Below w9.heap.size w9 wx); have a0' := (VA.later hc).1; have b0' := (VB.later hc).1; have m0' := (VM.later hc).1) | (go_at_call_of 17 (Value.agg #[.slice av ps.length cv]); refine (Pb.out _ (by with_reducible first | exact hc | exact Below.drew hc)).mono ?_; rintro e wx ⟨rfl, hbx⟩; have hc := (by with_reducible first | exact old_trans hc hbx | exact old_trans (Below.drew hc) hbx : Below w9.heap.size w9 wx); have a0' := (VA.later hc).1; have b0' := (VB.later hc).1; have m0' := (VM.later hc).1))
    all_goals
      have hcc := hc
      have U' := U.later hcc
      have O' := O.later hcc
      replace VA := VA.later hcc
      replace VB := VB.later hcc
      replace hB := old_trans hB hcc
      clear VA0 VA1 VAz VB0 VB1 VBz VM0 VM1 VMz VN0 VN1 VNz
      have VA0 := VA.1
      have VA1 := VA.2.1
      have VAz := VA.2.2
      have VB0 := VB.1
      have VB1 := VB.2.1
      have VBz := VB.2.2
      cases hf : fineRow wd ps (len0 : Int)
      case false =>
        go_wp2_with fail
        refine (iFineO _ _ _ _ _ _ O' _ hlen false hf).mono ?_
        rintro e w10 ⟨rfl, hb10⟩
        clear VA0 VA1 VAz VB0 VB1 VBz
        replace VA := (by with_reducible first | exact VA.later hb10 | exact VA.drew.later hb10 | exact (VA.alloc _).later hb10 | exact ((VA.alloc _).alloc _).later hb10 | exact (((VA.alloc _).alloc _).alloc _).later hb10 : Cel1 w10 _ _)
        replace VB := (by with_reducible first | exact VB.later hb10 | exact VB.drew.later hb10 | exact (VB.alloc _).later hb10 | exact ((VB.alloc _).alloc _).later hb10 | exact (((VB.alloc _).alloc _).alloc _).later hb10 : Cel1 w10 _ _)
        replace U' := (by with_reducible first | exact U'.later hb10 | exact U'.drew.later hb10 | exact (U'.alloc _).later hb10 | exact ((U'.alloc _).alloc _).later hb10 | exact (((U'.alloc _).alloc _).alloc _).later hb10 : OB w10 _ _ _ _)
        replace O' := (by with_reducible first | exact O'.later hb10 | exact O'.drew.later hb10 | exact (O'.alloc _).later hb10 | exact ((O'.alloc _).alloc _).later hb10 | exact (((O'.alloc _).alloc _).alloc _).later hb10 : OB w10 _ _ _ _)
        replace hB := (by with_reducible first | exact old_trans hB hb10 | exact old_trans (old_alloc hB _) hb10 | exact old_trans (old_alloc (old_alloc hB _) _) hb10 | exact old_trans (old_alloc (old_alloc (old_alloc hB _) _) _) hb10 : Below w.heap.size w w10)
        have VA0 := VA.1
        have VA1 := VA.2.1
        have VAz := VA.2.2
        have VB0 := VB.1
        have VB1 := VB.2.1
        have VBz := VB.2.2
        go_wp2
        go_ret
        exact ⟨rfl, (by repeat (first | exact hB | exact Below.refl _ _ | refine Below.drew ?_ | refine old_alloc ?_ _ | refine old_trans ?_ (by assumption)))⟩
      case true =>
        go_wp2_with fail
        refine (iFineO _ _ _ _ _ _ O' _ hlen true hf).mono ?_
        rintro e w10 ⟨rfl, hb10⟩
        clear VA0 VA1 VAz VB0 VB1 VBz
        replace VA := (by with_reducible first | exact VA.later hb10 | exact VA.drew.later hb10 | exact (VA.alloc _).later hb10 | exact ((VA.alloc _).alloc _).later hb10 | exact (((VA.alloc _).alloc _).alloc _).later hb10 : Cel1 w10 _ _)
        replace VB := (by with_reducible first | exact VB.later hb10 | exact VB.drew.later hb10 | exact (VB.alloc _).later hb10 | exact ((VB.alloc _).alloc _).later hb10 | exact (((VB.alloc _).alloc _).alloc _).later hb10 : Cel1 w10 _ _)
        replace U' := (by with_reducible first | exact U'.later hb10 | exact U'.drew.later hb10 | exact (U'.alloc _).later hb10 | exact ((U'.alloc _).alloc _).later hb10 | exact (((U'.alloc _).alloc _).alloc _).later hb10 : OB w10 _ _ _ _)
        replace O' := (by with_reducible first | exact O'.later hb10 | exact O'.drew.later hb10 | exact (O'.alloc _).later hb10 | exact ((O'.alloc _).alloc _).later hb10 | exact (((O'.alloc _).alloc _).alloc _).later hb10 : OB w10 _ _ _ _)
        replace hB := (by with_reducible first | exact old_trans hB hb10 | exact old_trans (old_alloc hB _) hb10 | exact old_trans (old_alloc (old_alloc hB _) _) hb10 | exact old_trans (old_alloc (old_alloc (old_alloc hB _) _) _) hb10 : Below w.heap.size w w10)
        have VA0 := VA.1
        have VA1 := VA.2.1
        have VAz := VA.2.2
        have VB0 := VB.1
        have VB1 := VB.2.1
        have VBz := VB.2.2
        go_wp2_with fail
        refine (iFineO _ _ _ _ _ _ U' _ hlen true (fine_le hu hp hi hf)).mono ?_
        rintro e w11 ⟨rfl, hb11⟩
        clear VA0 VA1 VAz VB0 VB1 VBz
        replace VA := (by with_reducible first | exact VA.later hb11 | exact VA.drew.later hb11 | exact (VA.alloc _).later hb11 | exact ((VA.alloc _).alloc _).later hb11 | exact (((VA.alloc _).alloc _).alloc _).later hb11 : Cel1 w11 _ _)
        replace VB := (by with_reducible first | exact VB.later hb11 | exact VB.drew.later hb11 | exact (VB.alloc _).later hb11 | exact ((VB.alloc _).alloc _).later hb11 | exact (((VB.alloc _).alloc _).alloc _).later hb11 : Cel1 w11 _ _)
        replace U' := (by with_reducible first | exact U'.later hb11 | exact U'.drew.later hb11 | exact (U'.alloc _).later hb11 | exact ((U'.alloc _).alloc _).later hb11 | exact (((U'.alloc _).alloc _).alloc _).later hb11 : OB w11 _ _ _ _)
        replace O' := (by with_reducible first | exact O'.later hb11 | exact O'.drew.later hb11 | exact (O'.alloc _).later hb11 | exact ((O'.alloc _).alloc _).later hb11 | exact (((O'.alloc _).alloc _).alloc _).later hb11 : OB w11 _ _ _ _)
        replace hB := (by with_reducible first | exact old_trans hB hb11 | exact old_trans (old_alloc hB _) hb11 | exact old_trans (old_alloc (old_alloc hB _) _) hb11 | exact old_trans (old_alloc (old_alloc (old_alloc hB _) _) _) hb11 : Below w.heap.size w w11)
        have VA0 := VA.1
        have VA1 := VA.2.1
        have VAz := VA.2.2
        have VB0 := VB.1
        have VB1 := VB.2.1
        have VBz := VB.2.2
        go_wp2
        go_ret
        exact ⟨rfl, (by repeat (first | exact hB | exact Below.refl _ _ | refine Below.drew ?_ | refine old_alloc ?_ _ | refine old_trans ?_ (by assumption)))⟩

set_option maxRecDepth 100000 in
theorem FnBoxWithin_lifted (os : Os) (started : os.Started) (H : Type) (enc : TypeId × Value → H) :
    ReturnsInHanded {} Try.checked os 4 .any (Rows.fnBoxWithinSpec.pre6 enc Try.prog Try.f4 Rows.fnBoxWithinRow.domain false) (Rows.fnBoxWithinSpec.post enc Try.prog Try.f4 false true false false) := by
  refine returnsInHanded_of_change (C := Try.checked) FnBoxWithin_own started (by kernel_rfl) Try.func4
    (ChangeSpec.witness6 (enc := enc) (C := Try.checked) false ⟨#[], #[.slice none 0 0], []⟩ 8 (by kernel_rfl) (by kernel_rfl) (by kernel_rfl) (by kernel_rfl)) ?_
  intro W base args ds gs before hval0 hW hcnd _
  have hval : ∀ (j : Nat) t v, Try.f4.params[j]? = some t → args[j]? = some v → Value.okWide Try.prog W .any base t v := hval0
  have hW' := hW
  obtain ⟨p, q, hA0, hV, rfl, hfz, hnd⟩ := hW
  have hA : DataW.TrodAll enc Try.prog W 0 (fun _ => true) true Try.f4.params.toList args.toList ds p := hA0
  rw [Try.params4] at hA hval
  obtain ⟨v0, vs0, d0, ds0, p0, q0, hargs, rfl, rfl, h0, r0⟩ := trodAll_cons hA
  obtain ⟨rfl, rfl, rfl⟩ := trodAll_nil r0
  obtain rfl : args = #[v0] := by cases args; simp_all
  obtain ⟨rfl, rfl⟩ := trodVars_none hV
  have k0 := h0
  have lt0 : ∀ x ∈ p0, x.block < W.heap.size := by obtain ⟨m, hm⟩ := k0; exact DataW.trod_lt m _ _ _ hm
  obtain ⟨a0, len0, cap0, rfl, wb0⟩ := open_bytes (hval 0 22 v0 rfl rfl) h0
  clear hA0 hval0
  refine (FnBoxWithin_walk a0 len0 cap0 W wb0).mono fun e W' ⟨he, bel⟩ => ?_
  subst he
  exact ⟨_, rfl, _, _, _, [], _, [], hW', trodAll_mk1 (shut_bool Try.underlying4 _), (trodAll_cons_mk (Below.trod jf1 (by kernel_rfl) (of_decide_eq_true (by kernel_rfl)) k0 bel lt0) trodAll_mk0), rfl, bel.frame _, fun h => by cases h⟩

theorem FnBoxWithin_k0 : (Rows.fnBoxWithinRow.wf (OpenSpec.ofChange Rows.fnBoxWithinSpec)) = true := by kernel_rfl
theorem FnBoxWithin_k3 : (Try.f4.params.all (Try.prog.readableRec ·)) = true := by kernel_rfl
theorem FnBoxWithin_k4 : (namedTie Try.prog Rows.fnBoxWithinRow.named Rows.fnBoxWithinSpec.vars) = true := by kernel_rfl
theorem FnBoxWithin_k5 : ((Rows.fnBoxWithinRow.stops == [])) = true := by kernel_rfl
theorem FnBoxWithin_k7 : ((Rows.fnBoxWithinRow.knobs == [])) = true := by kernel_rfl
theorem FnBoxWithin_k9 : ((Rows.fnBoxWithinRow.inPlace == Try.prog.inPlace 4)) = true := by kernel_rfl
theorem FnBoxWithin_k10 : ((Rows.fnBoxWithinRow.unfollowed == Try.prog.unfollowed 4)) = true := by kernel_rfl
theorem FnBoxWithin_k11 : ((Rows.fnBoxWithinRow.recurses == Try.prog.recurses 4)) = true := by kernel_rfl
theorem FnBoxWithin_k12 : ((Rows.fnBoxWithinRow.named == Try.prog.varsNamed 4)) = true := by kernel_rfl
theorem FnBoxWithin_k13 : ((Rows.fnBoxWithinRow.maps == (Try.f4.params.toList ++ Rows.fnBoxWithinSpec.plain.varTypes Try.prog).any (Try.prog.mapsRec ·))) = true := by kernel_rfl
theorem FnBoxWithin_k14 : ((Rows.fnBoxWithinRow.ifaces == (Try.f4.params.toList ++ Rows.fnBoxWithinSpec.plain.varTypes Try.prog).any (Try.prog.ifacesRec ·))) = true := by kernel_rfl
theorem FnBoxWithin_k15 : ((Rows.fnBoxWithinRow.mapsOut == Try.prog.mapsAmong Try.f4.resultTypes.toList)) = true := by kernel_rfl
theorem FnBoxWithin_k16 : ((Rows.fnBoxWithinRow.loops == (Try.f4.params.toList ++ Rows.fnBoxWithinSpec.plain.varTypes Try.prog).any (Try.prog.loopsFrom ·))) = true := by kernel_rfl
theorem FnBoxWithin_k17 : ((Rows.fnBoxWithinRow.wideKeys == (Try.f4.params.toList ++ Rows.fnBoxWithinSpec.plain.varTypes Try.prog ++ Try.f4.resultTypes.toList).any (Try.prog.wideKeysFrom ·))) = true := by kernel_rfl
theorem FnBoxWithin_k18 : (Rows.fnBoxWithinSpec.vars.all (Try.prog.varReadable ·)) = true := by kernel_rfl
theorem FnBoxWithin_k19 : (Try.f4.resultTypes.all (fun t => Try.prog.readableRec t && decide (t < Try.prog.types.size))) = true := by kernel_rfl
theorem FnBoxWithin_k20 : ((Rows.fnBoxWithinRow.ifacesOut == Try.f4.resultTypes.toList.any (Try.prog.ifacesRec ·))) = true := by kernel_rfl
theorem FnBoxWithin_k21 : ((Rows.fnBoxWithinRow.loopsOut == Try.f4.resultTypes.toList.any (Try.prog.loopsFrom ·))) = true := by kernel_rfl
theorem FnBoxWithin_k23 : (Rows.fnBoxWithinRow.shortTexts.isNone) = true := by kernel_rfl
theorem FnBoxWithin_k28 : ((Rows.fnBoxWithinRow.kinds == (if Rows.fnBoxWithinRow.domain.isEmpty then [] else Try.f4.params.toList.map fun t => match Try.prog.underlying t with | some (.int k) => some k | _ => none))) = true := by kernel_rfl
theorem FnBoxWithin_k29 : ((Rows.fnBoxWithinRow.pinned == Rows.fnBoxWithinRow.pinnedBy)) = true := by kernel_rfl
theorem FnBoxWithin_k30 : ((Rows.fnBoxWithinRow.veiled == (Try.f4.params.toList ++ Rows.fnBoxWithinSpec.plain.varTypes Try.prog ++ Try.f4.resultTypes.toList).any (Try.prog.veiledRec ·))) = true := by kernel_rfl
theorem FnBoxWithin_k31 : (Rows.fnBoxWithinRow.veiledFits Try.prog Try.f4.params.toList (Try.f4.params.toList ++ Rows.fnBoxWithinSpec.plain.varTypes Try.prog ++ Try.f4.resultTypes.toList)) = true := by kernel_rfl
set_option maxRecDepth 100000 in
theorem FnBoxWithin_closed : joinedFacts Try.prog 4 Try.f4 Rows.fnBoxWithinSpec Rows.fnBoxWithinRow = true := (and2 (and2 (and2 (and2 (and2 (and2 (and2 (and2 (and2 (and2 (and2 (and2 (and2 (and2 (and2 (and2 (and2 (and2 (and2 (and2 (and2 (and2 (and2 (and2 (and2 (and2 (and2 (and2 (and2 (and2 (and2 FnBoxWithin_k0 jf1) jf2) FnBoxWithin_k3) FnBoxWithin_k4) FnBoxWithin_k5) jf6) FnBoxWithin_k7) jf8) FnBoxWithin_k9) FnBoxWithin_k10) FnBoxWithin_k11) FnBoxWithin_k12) FnBoxWithin_k13) FnBoxWithin_k14) FnBoxWithin_k15) FnBoxWithin_k16) FnBoxWithin_k17) FnBoxWithin_k18) FnBoxWithin_k19) FnBoxWithin_k20) FnBoxWithin_k21) jf22) FnBoxWithin_k23) jf24) jf25) jf26) jf27) FnBoxWithin_k28) FnBoxWithin_k29) FnBoxWithin_k30) FnBoxWithin_k31)
theorem FnBoxWithin_over : Rows.fnBoxWithinRow.holds Try.pinned (OpenSpec.ofChange Rows.fnBoxWithinSpec) :=
  OpenClaim.holds_of_wide 4 Try.f4 rfl rfl rfl rfl rfl rfl rfl ⟨rfl, rfl, rfl, rfl, rfl⟩ rfl rfl rfl rfl rfl (by kernel_rfl) Try.func4 FnBoxWithin_closed
    (of_decide_eq_true (by kernel_rfl)) (by unfold Func.isWrapper; first | (rw [if_pos (by decide +kernel)]; kernel_rfl) | (rw [if_neg (by decide +kernel)]; exact ⟨rfl, rfl⟩))
    (fun os started H enc _ => FnBoxWithin_lifted os started H enc)

theorem FnBoxWithin_proved : Rows.FnBoxWithinSaid := FnBoxWithin_over
end Go.Proofs.Ytpnfkigeagbhpaa
