/- For every two codes of bytes, of the three fractions drawn from them: sums and products do not hang on their order or on how they are put together, products go over sums, what is taken away or divided by comes back, as long as all that comes up is there; the program's sums and products are the specification's. The law answers true; nothing that was there is written. Condition: the library's tables and its handle of errors hold what their texts lay (the card ties them). -/
import Derived.Test.YtekhokemekaeoaaGreatDoorRows
import Derived.Test.YtekhokemekaeoaaGreatDoorTie
import Derived.Test.YtekhokemekaeoaaGreatDoorCards
import Derived.WalkKit
import Derived.ProofKit
import Derived.OpenShut
import Derived.Below
import Derived.Carry
import Derived.Test.YtekhokemekaeoaaGreatDoorN0
import Derived.Test.YtekhokemekaeoaaGreatDoorLH
import Derived.Test.YtekhokemekaeoaaGreatDoorFL
import Derived.Test.YtekhokemekaeoaaGreatDoorU8
import Derived.Test.YtekhokemekaeoaaGreatDoorBJ
namespace Go.Proofs.YtekhokemekaeoaaGreatDoor
open Go.ChangeShapes Go.WideShapes Go.ChangeAt Go.RowKit
set_option linter.unusedVariables false
set_option maxRecDepth 100000

set_option maxRecDepth 100000 in
set_option maxHeartbeats 16000000 in
theorem FnNumTop_walk (a0 : Option Addr) (len0 cap0 : Nat) (a1 : Option Addr) (len1 cap1 : Nat) (w : World) (wb0 : IsCode w a0 len0 cap0) (wb1 : IsCode w a1 len1 cap1) (hT : Tab w ∧ ET w) :
    Calls Tryz.prog 3 #[.slice a0 len0 cap0, .slice a1 len1 cap1] w fun e w' => e = .returned (.bool true) ∧ Below w.heap.size w w' := by
  have TT := hd (fun (w' : World) (h : Below w.heap.size w w') => (⟨hT.1.old h, hT.2.old h⟩ : Tab w' ∧ ET w'))
  clear hT
  have hlen0 := wb0.2.1
  have hlen1 := wb1.2.1
  have hle0 := wb0.1
  have hle1 := wb1.1
  by_cases c0 : (len0 : Int) ≤ 1048576
  case neg =>
    have c0' : (1048576 : Int) < (len0 : Int) := by omega
    go_enter Tryz.func3, Tryz.ntmps3
    go_wp2
    go_ret
    exact ⟨rfl, (by repeat (first | exact Below.refl _ _ | refine Below.drew ?_ | refine old_alloc ?_ _ | refine old_trans ?_ (by assumption)))⟩
  by_cases c1 : (len1 : Int) ≤ 1048576
  case neg =>
    have c1' : (1048576 : Int) < (len1 : Int) := by omega
    go_enter Tryz.func3, Tryz.ntmps3
    go_wp2
    go_ret
    exact ⟨rfl, (by repeat (first | exact Below.refl _ _ | refine Below.drew ?_ | refine old_alloc ?_ _ | refine old_trans ?_ (by assumption)))⟩
  have D0 := hd (dFracAdd2 w a0 len0 cap0 wb0)
  have D1 := hd (fun w' (h : Below w.heap.size w w') => goodFrac w' a1 len1 cap1 (wb1.old h))
  clear wb0 wb1 hlen0 hlen1 hle0 hle1
  go_enter Tryz.func3, Tryz.ntmps3
  go_wp2_with fail
  refine D0.out.mono ?_
  rintro e w0 ⟨⟨ba, avX, cvX, xs, avY, cvY, ys, bb, avU, cvU, us, avV, cvV, vs, rfl, ⟨X, Y⟩, U, V⟩, hB⟩
  clear D0 c0 c1
  have KA_ := (Cel3.new w0 (.bool ba) (.slice avX xs.length cvX) (.slice avY ys.length cvY) 25).old (old_alloc (Below.refl _ _) (.cells #[.bool bb, .slice avU us.length cvU, .slice avV vs.length cvV] 25))
  have KB_ := Cel3.new (w0.alloc (.cells #[.bool ba, .slice avX xs.length cvX, .slice avY ys.length cvY] 25)) (.bool bb) (.slice avU us.length cvU) (.slice avV vs.length cvV) 25
  simp only [World.size_alloc] at KB_
  have halKA : Below w0.heap.size w0 ((w0.alloc (.cells #[.bool ba, .slice avX xs.length cvX, .slice avY ys.length cvY] 25)).alloc (.cells #[.bool bb, .slice avU us.length cvU, .slice avV vs.length cvV] 25)) := (by repeat (first | exact Below.refl _ _ | refine Below.drew ?_ | refine old_alloc ?_ _ | refine old_trans ?_ (by assumption)))
  replace X := X.later halKA
  replace Y := Y.later halKA
  replace U := U.later halKA
  replace V := V.later halKA
  replace hB := old_trans hB halKA
  clear halKA
  have KA := KA_
  have KB := KB_
  clear KA_ KB_
  obtain ⟨KAa, ⟨KAb, KAc, KAd⟩, -⟩ := id KA
  obtain ⟨KBa, ⟨KBb, KBc, KBd⟩, -⟩ := id KB
  go_wp2_with fail
  refine (D1.out _ hB).mono ?_
  rintro e w1 ⟨⟨bc, avP, cvP, ps, avQ, cvQ, qs, rfl, P, Q, -, hc⟩, hb1⟩
  clear KAa KAb KAc KAd KBa KBb KBc KBd
  replace X := X.later hb1
  replace Y := Y.later hb1
  replace U := U.later hb1
  replace V := V.later hb1
  replace KA := KA.old hb1
  replace KB := KB.old hb1
  replace hB := old_trans hB hb1
  clear hb1
  obtain ⟨KAa, ⟨KAb, KAc, KAd⟩, -⟩ := id KA
  obtain ⟨KBa, ⟨KBb, KBc, KBd⟩, -⟩ := id KB
  clear KAa KAb KAc KAd KBa KBb KBc KBd
  have KC_ := Cel3.new w1 (.bool bc) (.slice avP ps.length cvP) (.slice avQ qs.length cvQ) 25
  have halKC : Below w1.heap.size w1 (w1.alloc (.cells #[.bool bc, .slice avP ps.length cvP, .slice avQ qs.length cvQ] 25)) := old_alloc (Below.refl _ _) _
  replace X := X.later halKC
  replace Y := Y.later halKC
  replace U := U.later halKC
  replace V := V.later halKC
  replace P := P.later halKC
  replace Q := Q.later halKC
  replace KA := KA.old halKC
  replace KB := KB.old halKC
  replace hB := old_trans hB halKC
  clear halKC
  have KC := KC_
  clear KC_
  obtain ⟨KAa, ⟨KAb, KAc, KAd⟩, -⟩ := id KA
  obtain ⟨KBa, ⟨KBb, KBc, KBd⟩, -⟩ := id KB
  obtain ⟨KCa, ⟨KCb, KCc, KCd⟩, -⟩ := id KC
  have hch := hd hc
  clear hc D1
  have PF := hd (fun bf xs ys a b a' b' la lb ca cb ca' cb' w h1 h2 h3 h4 => lPwFrac bf a b a' b' la lb ca cb ca' cb' xs ys w h1 h2 h3 h4)
  obtain ⟨r1, s1, t1, u1, H1_, I1_, J1_⟩ := add_res ba xs ys bb us vs
  obtain ⟨r2, s2, t2, u2, H2_, I2_, J2_⟩ := mul_res ba xs ys bb us vs
  have H1 := hd H1_
  have H2 := hd H2_
  have I1 := hd I1_
  have I2 := hd I2_
  have J1 := hd J1_
  have J2 := hd J2_
  clear H1_ H2_ I1_ I2_ J1_ J2_
  cases r1
  · cases r2
    · as_aux_lemma =>
      clear H1 H2 hch
      go_wp2_with fail
      refine (I1.out _ _ _ _ _ _ _ _ _ _ _ _ _ X.inI Y.inI U.inI V.inI (TT.out _ hB)).mono ?_
      rintro e w2 ⟨⟨avS, cvS, avS', cvS', rfl, S, S'⟩, hb2⟩
      clear KAa KAb KAc KAd KBa KBb KBc KBd KCa KCb KCc KCd
      replace X := X.later hb2
      replace Y := Y.later hb2
      replace U := U.later hb2
      replace V := V.later hb2
      replace P := P.later hb2
      replace Q := Q.later hb2
      replace KA := KA.old hb2
      replace KB := KB.old hb2
      replace KC := KC.old hb2
      replace hB := old_trans hB hb2
      clear hb2
      obtain ⟨KAa, ⟨KAb, KAc, KAd⟩, -⟩ := id KA
      obtain ⟨KBa, ⟨KBb, KBc, KBd⟩, -⟩ := id KB
      obtain ⟨KCa, ⟨KCb, KCc, KCd⟩, -⟩ := id KC
      clear KAa KAb KAc KAd KBa KBb KBc KBd KCa KCb KCc KCd
      have KS_ := Cel3.new w2 (.bool s1) (.slice avS t1.length cvS) (.slice avS' u1.length cvS') 25
      have halKS : Below w2.heap.size w2 (w2.alloc (.cells #[.bool s1, .slice avS t1.length cvS, .slice avS' u1.length cvS'] 25)) := old_alloc (Below.refl _ _) _
      replace X := X.later halKS
      replace Y := Y.later halKS
      replace U := U.later halKS
      replace V := V.later halKS
      replace P := P.later halKS
      replace Q := Q.later halKS
      replace S := S.later halKS
      replace S' := S'.later halKS
      replace KA := KA.old halKS
      replace KB := KB.old halKS
      replace KC := KC.old halKS
      replace hB := old_trans hB halKS
      clear halKS
      have KS := KS_
      clear KS_
      obtain ⟨KAa, ⟨KAb, KAc, KAd⟩, -⟩ := id KA
      obtain ⟨KBa, ⟨KBb, KBc, KBd⟩, -⟩ := id KB
      obtain ⟨KCa, ⟨KCb, KCc, KCd⟩, -⟩ := id KC
      obtain ⟨KSa, ⟨KSb, KSc, KSd⟩, -⟩ := id KS
      go_wp2_with fail
      refine (J1.out _ _ _ _ _ _ _ _ _ _ _ _ _ X.inI Y.inI U.inI V.inI (TT.out _ hB)).mono ?_
      rintro e w3 ⟨⟨avW, cvW, avW', cvW', rfl, W, W'⟩, hb3⟩
      clear KAa KAb KAc KAd KBa KBb KBc KBd KCa KCb KCc KCd KSa KSb KSc KSd
      replace X := X.later hb3
      replace Y := Y.later hb3
      replace U := U.later hb3
      replace V := V.later hb3
      replace P := P.later hb3
      replace Q := Q.later hb3
      replace S := S.later hb3
      replace S' := S'.later hb3
      replace KA := KA.old hb3
      replace KB := KB.old hb3
      replace KC := KC.old hb3
      replace KS := KS.old hb3
      replace hB := old_trans hB hb3
      clear hb3
      obtain ⟨KAa, ⟨KAb, KAc, KAd⟩, -⟩ := id KA
      obtain ⟨KBa, ⟨KBb, KBc, KBd⟩, -⟩ := id KB
      obtain ⟨KCa, ⟨KCb, KCc, KCd⟩, -⟩ := id KC
      obtain ⟨KSa, ⟨KSb, KSc, KSd⟩, -⟩ := id KS
      clear KAa KAb KAc KAd KBa KBb KBc KBd KCa KCb KCc KCd KSa KSb KSc KSd
      have KW_ := Cel3.new w3 (.bool s1) (.slice avW t1.length cvW) (.slice avW' u1.length cvW') 25
      have halKW : Below w3.heap.size w3 (w3.alloc (.cells #[.bool s1, .slice avW t1.length cvW, .slice avW' u1.length cvW'] 25)) := old_alloc (Below.refl _ _) _
      replace X := X.later halKW
      replace Y := Y.later halKW
      replace U := U.later halKW
      replace V := V.later halKW
      replace P := P.later halKW
      replace Q := Q.later halKW
      replace S := S.later halKW
      replace S' := S'.later halKW
      replace W := W.later halKW
      replace W' := W'.later halKW
      replace KA := KA.old halKW
      replace KB := KB.old halKW
      replace KC := KC.old halKW
      replace KS := KS.old halKW
      replace hB := old_trans hB halKW
      clear halKW
      have KW := KW_
      clear KW_
      obtain ⟨KAa, ⟨KAb, KAc, KAd⟩, -⟩ := id KA
      obtain ⟨KBa, ⟨KBb, KBc, KBd⟩, -⟩ := id KB
      obtain ⟨KCa, ⟨KCb, KCc, KCd⟩, -⟩ := id KC
      obtain ⟨KSa, ⟨KSb, KSc, KSd⟩, -⟩ := id KS
      obtain ⟨KWa, ⟨KWb, KWc, KWd⟩, -⟩ := id KW
      go_wp2_with fail
      refine (PF.out _ _ _ _ _ _ _ _ _ _ _ _ _ _ S.inI S'.inI W.inI W'.inI).mono ?_
      rintro e w4 ⟨rfl, hb4⟩
      clear KAa KAb KAc KAd KBa KBb KBc KBd KCa KCb KCc KCd KSa KSb KSc KSd KWa KWb KWc KWd
      replace X := X.later hb4
      replace Y := Y.later hb4
      replace U := U.later hb4
      replace V := V.later hb4
      replace P := P.later hb4
      replace Q := Q.later hb4
      replace S := S.later hb4
      replace S' := S'.later hb4
      replace W := W.later hb4
      replace W' := W'.later hb4
      replace KA := KA.old hb4
      replace KB := KB.old hb4
      replace KC := KC.old hb4
      replace KS := KS.old hb4
      replace KW := KW.old hb4
      replace hB := old_trans hB hb4
      clear hb4
      obtain ⟨KAa, ⟨KAb, KAc, KAd⟩, -⟩ := id KA
      obtain ⟨KBa, ⟨KBb, KBc, KBd⟩, -⟩ := id KB
      obtain ⟨KCa, ⟨KCb, KCc, KCd⟩, -⟩ := id KC
      obtain ⟨KSa, ⟨KSb, KSc, KSd⟩, -⟩ := id KS
      obtain ⟨KWa, ⟨KWb, KWc, KWd⟩, -⟩ := id KW
      clear KAa KAb KAc KAd KBa KBb KBc KBd KCa KCb KCc KCd KSa KSb KSc KSd KWa KWb KWc KWd
      clear W W' KW
      obtain ⟨KAa, ⟨KAb, KAc, KAd⟩, -⟩ := id KA
      obtain ⟨KBa, ⟨KBb, KBc, KBd⟩, -⟩ := id KB
      obtain ⟨KCa, ⟨KCb, KCc, KCd⟩, -⟩ := id KC
      obtain ⟨KSa, ⟨KSb, KSc, KSd⟩, -⟩ := id KS
      go_wp2_with fail
      refine (I2.out _ _ _ _ _ _ _ _ _ _ _ _ _ X.inI Y.inI U.inI V.inI (TT.out _ hB)).mono ?_
      rintro e w5 ⟨⟨avT, cvT, avT', cvT', rfl, T, T'⟩, hb5⟩
      clear KAa KAb KAc KAd KBa KBb KBc KBd KCa KCb KCc KCd KSa KSb KSc KSd
      replace X := X.later hb5
      replace Y := Y.later hb5
      replace U := U.later hb5
      replace V := V.later hb5
      replace P := P.later hb5
      replace Q := Q.later hb5
      replace S := S.later hb5
      replace S' := S'.later hb5
      replace KA := KA.old hb5
      replace KB := KB.old hb5
      replace KC := KC.old hb5
      replace KS := KS.old hb5
      replace hB := old_trans hB hb5
      clear hb5
      obtain ⟨KAa, ⟨KAb, KAc, KAd⟩, -⟩ := id KA
      obtain ⟨KBa, ⟨KBb, KBc, KBd⟩, -⟩ := id KB
      obtain ⟨KCa, ⟨KCb, KCc, KCd⟩, -⟩ := id KC
      obtain ⟨KSa, ⟨KSb, KSc, KSd⟩, -⟩ := id KS
      clear KAa KAb KAc KAd KBa KBb KBc KBd KCa KCb KCc KCd KSa KSb KSc KSd
      have KP_ := Cel3.new w5 (.bool s2) (.slice avT t2.length cvT) (.slice avT' u2.length cvT') 25
      have halKP : Below w5.heap.size w5 (w5.alloc (.cells #[.bool s2, .slice avT t2.length cvT, .slice avT' u2.length cvT'] 25)) := old_alloc (Below.refl _ _) _
      replace X := X.later halKP
      replace Y := Y.later halKP
      replace U := U.later halKP
      replace V := V.later halKP
      replace P := P.later halKP
      replace Q := Q.later halKP
      replace S := S.later halKP
      replace S' := S'.later halKP
      replace T := T.later halKP
      replace T' := T'.later halKP
      replace KA := KA.old halKP
      replace KB := KB.old halKP
      replace KC := KC.old halKP
      replace KS := KS.old halKP
      replace hB := old_trans hB halKP
      clear halKP
      have KP := KP_
      clear KP_
      obtain ⟨KAa, ⟨KAb, KAc, KAd⟩, -⟩ := id KA
      obtain ⟨KBa, ⟨KBb, KBc, KBd⟩, -⟩ := id KB
      obtain ⟨KCa, ⟨KCb, KCc, KCd⟩, -⟩ := id KC
      obtain ⟨KSa, ⟨KSb, KSc, KSd⟩, -⟩ := id KS
      obtain ⟨KPa, ⟨KPb, KPc, KPd⟩, -⟩ := id KP
      go_wp2_with fail
      refine (J2.out _ _ _ _ _ _ _ _ _ _ _ _ _ X.inI Y.inI U.inI V.inI (TT.out _ hB)).mono ?_
      rintro e w6 ⟨⟨avZ, cvZ, avZ', cvZ', rfl, Z, Z'⟩, hb6⟩
      clear KAa KAb KAc KAd KBa KBb KBc KBd KCa KCb KCc KCd KSa KSb KSc KSd KPa KPb KPc KPd
      replace X := X.later hb6
      replace Y := Y.later hb6
      replace U := U.later hb6
      replace V := V.later hb6
      replace P := P.later hb6
      replace Q := Q.later hb6
      replace S := S.later hb6
      replace S' := S'.later hb6
      replace T := T.later hb6
      replace T' := T'.later hb6
      replace KA := KA.old hb6
      replace KB := KB.old hb6
      replace KC := KC.old hb6
      replace KS := KS.old hb6
      replace KP := KP.old hb6
      replace hB := old_trans hB hb6
      clear hb6
      obtain ⟨KAa, ⟨KAb, KAc, KAd⟩, -⟩ := id KA
      obtain ⟨KBa, ⟨KBb, KBc, KBd⟩, -⟩ := id KB
      obtain ⟨KCa, ⟨KCb, KCc, KCd⟩, -⟩ := id KC
      obtain ⟨KSa, ⟨KSb, KSc, KSd⟩, -⟩ := id KS
      obtain ⟨KPa, ⟨KPb, KPc, KPd⟩, -⟩ := id KP
      clear KAa KAb KAc KAd KBa KBb KBc KBd KCa KCb KCc KCd KSa KSb KSc KSd KPa KPb KPc KPd
      have KZ_ := Cel3.new w6 (.bool s2) (.slice avZ t2.length cvZ) (.slice avZ' u2.length cvZ') 25
      have halKZ : Below w6.heap.size w6 (w6.alloc (.cells #[.bool s2, .slice avZ t2.length cvZ, .slice avZ' u2.length cvZ'] 25)) := old_alloc (Below.refl _ _) _
      replace X := X.later halKZ
      replace Y := Y.later halKZ
      replace U := U.later halKZ
      replace V := V.later halKZ
      replace P := P.later halKZ
      replace Q := Q.later halKZ
      replace S := S.later halKZ
      replace S' := S'.later halKZ
      replace T := T.later halKZ
      replace T' := T'.later halKZ
      replace Z := Z.later halKZ
      replace Z' := Z'.later halKZ
      replace KA := KA.old halKZ
      replace KB := KB.old halKZ
      replace KC := KC.old halKZ
      replace KS := KS.old halKZ
      replace KP := KP.old halKZ
      replace hB := old_trans hB halKZ
      clear halKZ
      have KZ := KZ_
      clear KZ_
      obtain ⟨KAa, ⟨KAb, KAc, KAd⟩, -⟩ := id KA
      obtain ⟨KBa, ⟨KBb, KBc, KBd⟩, -⟩ := id KB
      obtain ⟨KCa, ⟨KCb, KCc, KCd⟩, -⟩ := id KC
      obtain ⟨KSa, ⟨KSb, KSc, KSd⟩, -⟩ := id KS
      obtain ⟨KPa, ⟨KPb, KPc, KPd⟩, -⟩ := id KP
      obtain ⟨KZa, ⟨KZb, KZc, KZd⟩, -⟩ := id KZ
      go_wp2_with fail
      refine (PF.out _ _ _ _ _ _ _ _ _ _ _ _ _ _ T.inI T'.inI Z.inI Z'.inI).mono ?_
      rintro e w7 ⟨rfl, hb7⟩
      clear KAa KAb KAc KAd KBa KBb KBc KBd KCa KCb KCc KCd KSa KSb KSc KSd KPa KPb KPc KPd KZa KZb KZc KZd
      replace X := X.later hb7
      replace Y := Y.later hb7
      replace U := U.later hb7
      replace V := V.later hb7
      replace P := P.later hb7
      replace Q := Q.later hb7
      replace S := S.later hb7
      replace S' := S'.later hb7
      replace T := T.later hb7
      replace T' := T'.later hb7
      replace Z := Z.later hb7
      replace Z' := Z'.later hb7
      replace KA := KA.old hb7
      replace KB := KB.old hb7
      replace KC := KC.old hb7
      replace KS := KS.old hb7
      replace KP := KP.old hb7
      replace KZ := KZ.old hb7
      replace hB := old_trans hB hb7
      clear hb7
      obtain ⟨KAa, ⟨KAb, KAc, KAd⟩, -⟩ := id KA
      obtain ⟨KBa, ⟨KBb, KBc, KBd⟩, -⟩ := id KB
      obtain ⟨KCa, ⟨KCb, KCc, KCd⟩, -⟩ := id KC
      obtain ⟨KSa, ⟨KSb, KSc, KSd⟩, -⟩ := id KS
      obtain ⟨KPa, ⟨KPb, KPc, KPd⟩, -⟩ := id KP
      obtain ⟨KZa, ⟨KZb, KZc, KZd⟩, -⟩ := id KZ
      clear KAa KAb KAc KAd KBa KBb KBc KBd KCa KCb KCc KCd KSa KSb KSc KSd KPa KPb KPc KPd KZa KZb KZc KZd
      clear Z Z' KZ
      obtain ⟨KAa, ⟨KAb, KAc, KAd⟩, -⟩ := id KA
      obtain ⟨KBa, ⟨KBb, KBc, KBd⟩, -⟩ := id KB
      obtain ⟨KCa, ⟨KCb, KCc, KCd⟩, -⟩ := id KC
      obtain ⟨KSa, ⟨KSb, KSc, KSd⟩, -⟩ := id KS
      obtain ⟨KPa, ⟨KPb, KPc, KPd⟩, -⟩ := id KP
      go_wp2
      go_ret
      exact ⟨rfl, hB⟩
    · as_aux_lemma =>
      clear H1 H2 hch
      go_wp2_with fail
      refine (I1.out _ _ _ _ _ _ _ _ _ _ _ _ _ X.inI Y.inI U.inI V.inI (TT.out _ hB)).mono ?_
      rintro e w2 ⟨⟨avS, cvS, avS', cvS', rfl, S, S'⟩, hb2⟩
      clear KAa KAb KAc KAd KBa KBb KBc KBd KCa KCb KCc KCd
      replace X := X.later hb2
      replace Y := Y.later hb2
      replace U := U.later hb2
      replace V := V.later hb2
      replace P := P.later hb2
      replace Q := Q.later hb2
      replace KA := KA.old hb2
      replace KB := KB.old hb2
      replace KC := KC.old hb2
      replace hB := old_trans hB hb2
      clear hb2
      obtain ⟨KAa, ⟨KAb, KAc, KAd⟩, -⟩ := id KA
      obtain ⟨KBa, ⟨KBb, KBc, KBd⟩, -⟩ := id KB
      obtain ⟨KCa, ⟨KCb, KCc, KCd⟩, -⟩ := id KC
      clear KAa KAb KAc KAd KBa KBb KBc KBd KCa KCb KCc KCd
      have KS_ := Cel3.new w2 (.bool s1) (.slice avS t1.length cvS) (.slice avS' u1.length cvS') 25
      have halKS : Below w2.heap.size w2 (w2.alloc (.cells #[.bool s1, .slice avS t1.length cvS, .slice avS' u1.length cvS'] 25)) := old_alloc (Below.refl _ _) _
      replace X := X.later halKS
      replace Y := Y.later halKS
      replace U := U.later halKS
      replace V := V.later halKS
      replace P := P.later halKS
      replace Q := Q.later halKS
      replace S := S.later halKS
      replace S' := S'.later halKS
      replace KA := KA.old halKS
      replace KB := KB.old halKS
      replace KC := KC.old halKS
      replace hB := old_trans hB halKS
      clear halKS
      have KS := KS_
      clear KS_
      obtain ⟨KAa, ⟨KAb, KAc, KAd⟩, -⟩ := id KA
      obtain ⟨KBa, ⟨KBb, KBc, KBd⟩, -⟩ := id KB
      obtain ⟨KCa, ⟨KCb, KCc, KCd⟩, -⟩ := id KC
      obtain ⟨KSa, ⟨KSb, KSc, KSd⟩, -⟩ := id KS
      go_wp2_with fail
      refine (J1.out _ _ _ _ _ _ _ _ _ _ _ _ _ X.inI Y.inI U.inI V.inI (TT.out _ hB)).mono ?_
      rintro e w3 ⟨⟨avW, cvW, avW', cvW', rfl, W, W'⟩, hb3⟩
      clear KAa KAb KAc KAd KBa KBb KBc KBd KCa KCb KCc KCd KSa KSb KSc KSd
      replace X := X.later hb3
      replace Y := Y.later hb3
      replace U := U.later hb3
      replace V := V.later hb3
      replace P := P.later hb3
      replace Q := Q.later hb3
      replace S := S.later hb3
      replace S' := S'.later hb3
      replace KA := KA.old hb3
      replace KB := KB.old hb3
      replace KC := KC.old hb3
      replace KS := KS.old hb3
      replace hB := old_trans hB hb3
      clear hb3
      obtain ⟨KAa, ⟨KAb, KAc, KAd⟩, -⟩ := id KA
      obtain ⟨KBa, ⟨KBb, KBc, KBd⟩, -⟩ := id KB
      obtain ⟨KCa, ⟨KCb, KCc, KCd⟩, -⟩ := id KC
      obtain ⟨KSa, ⟨KSb, KSc, KSd⟩, -⟩ := id KS
      clear KAa KAb KAc KAd KBa KBb KBc KBd KCa KCb KCc KCd KSa KSb KSc KSd
      have KW_ := Cel3.new w3 (.bool s1) (.slice avW t1.length cvW) (.slice avW' u1.length cvW') 25
      have halKW : Below w3.heap.size w3 (w3.alloc (.cells #[.bool s1, .slice avW t1.length cvW, .slice avW' u1.length cvW'] 25)) := old_alloc (Below.refl _ _) _
      replace X := X.later halKW
      replace Y := Y.later halKW
      replace U := U.later halKW
      replace V := V.later halKW
      replace P := P.later halKW
      replace Q := Q.later halKW
      replace S := S.later halKW
      replace S' := S'.later halKW
      replace W := W.later halKW
      replace W' := W'.later halKW
      replace KA := KA.old halKW
      replace KB := KB.old halKW
      replace KC := KC.old halKW
      replace KS := KS.old halKW
      replace hB := old_trans hB halKW
      clear halKW
      have KW := KW_
      clear KW_
      obtain ⟨KAa, ⟨KAb, KAc, KAd⟩, -⟩ := id KA
      obtain ⟨KBa, ⟨KBb, KBc, KBd⟩, -⟩ := id KB
      obtain ⟨KCa, ⟨KCb, KCc, KCd⟩, -⟩ := id KC
      obtain ⟨KSa, ⟨KSb, KSc, KSd⟩, -⟩ := id KS
      obtain ⟨KWa, ⟨KWb, KWc, KWd⟩, -⟩ := id KW
      go_wp2_with fail
      refine (PF.out _ _ _ _ _ _ _ _ _ _ _ _ _ _ S.inI S'.inI W.inI W'.inI).mono ?_
      rintro e w4 ⟨rfl, hb4⟩
      clear KAa KAb KAc KAd KBa KBb KBc KBd KCa KCb KCc KCd KSa KSb KSc KSd KWa KWb KWc KWd
      replace X := X.later hb4
      replace Y := Y.later hb4
      replace U := U.later hb4
      replace V := V.later hb4
      replace P := P.later hb4
      replace Q := Q.later hb4
      replace S := S.later hb4
      replace S' := S'.later hb4
      replace W := W.later hb4
      replace W' := W'.later hb4
      replace KA := KA.old hb4
      replace KB := KB.old hb4
      replace KC := KC.old hb4
      replace KS := KS.old hb4
      replace KW := KW.old hb4
      replace hB := old_trans hB hb4
      clear hb4
      obtain ⟨KAa, ⟨KAb, KAc, KAd⟩, -⟩ := id KA
      obtain ⟨KBa, ⟨KBb, KBc, KBd⟩, -⟩ := id KB
      obtain ⟨KCa, ⟨KCb, KCc, KCd⟩, -⟩ := id KC
      obtain ⟨KSa, ⟨KSb, KSc, KSd⟩, -⟩ := id KS
      obtain ⟨KWa, ⟨KWb, KWc, KWd⟩, -⟩ := id KW
      clear KAa KAb KAc KAd KBa KBb KBc KBd KCa KCb KCc KCd KSa KSb KSc KSd KWa KWb KWc KWd
      clear W W' KW
      obtain ⟨KAa, ⟨KAb, KAc, KAd⟩, -⟩ := id KA
      obtain ⟨KBa, ⟨KBb, KBc, KBd⟩, -⟩ := id KB
      obtain ⟨KCa, ⟨KCb, KCc, KCd⟩, -⟩ := id KC
      obtain ⟨KSa, ⟨KSb, KSc, KSd⟩, -⟩ := id KS
      go_wp2_with fail
      refine (I2.out _ _ _ _ _ _ _ _ _ _ _ _ _ X.inI Y.inI U.inI V.inI (TT.out _ hB)).mono ?_
      rintro e w5 ⟨⟨avT, cvT, avT', cvT', rfl, T, T'⟩, hb5⟩
      clear KAa KAb KAc KAd KBa KBb KBc KBd KCa KCb KCc KCd KSa KSb KSc KSd
      replace X := X.later hb5
      replace Y := Y.later hb5
      replace U := U.later hb5
      replace V := V.later hb5
      replace P := P.later hb5
      replace Q := Q.later hb5
      replace S := S.later hb5
      replace S' := S'.later hb5
      replace KA := KA.old hb5
      replace KB := KB.old hb5
      replace KC := KC.old hb5
      replace KS := KS.old hb5
      replace hB := old_trans hB hb5
      clear hb5
      obtain ⟨KAa, ⟨KAb, KAc, KAd⟩, -⟩ := id KA
      obtain ⟨KBa, ⟨KBb, KBc, KBd⟩, -⟩ := id KB
      obtain ⟨KCa, ⟨KCb, KCc, KCd⟩, -⟩ := id KC
      obtain ⟨KSa, ⟨KSb, KSc, KSd⟩, -⟩ := id KS
      clear KAa KAb KAc KAd KBa KBb KBc KBd KCa KCb KCc KCd KSa KSb KSc KSd
      have KP_ := Cel3.new w5 (.bool s2) (.slice avT t2.length cvT) (.slice avT' u2.length cvT') 25
      have halKP : Below w5.heap.size w5 (w5.alloc (.cells #[.bool s2, .slice avT t2.length cvT, .slice avT' u2.length cvT'] 25)) := old_alloc (Below.refl _ _) _
      replace X := X.later halKP
      replace Y := Y.later halKP
      replace U := U.later halKP
      replace V := V.later halKP
      replace P := P.later halKP
      replace Q := Q.later halKP
      replace S := S.later halKP
      replace S' := S'.later halKP
      replace T := T.later halKP
      replace T' := T'.later halKP
      replace KA := KA.old halKP
      replace KB := KB.old halKP
      replace KC := KC.old halKP
      replace KS := KS.old halKP
      replace hB := old_trans hB halKP
      clear halKP
      have KP := KP_
      clear KP_
      obtain ⟨KAa, ⟨KAb, KAc, KAd⟩, -⟩ := id KA
      obtain ⟨KBa, ⟨KBb, KBc, KBd⟩, -⟩ := id KB
      obtain ⟨KCa, ⟨KCb, KCc, KCd⟩, -⟩ := id KC
      obtain ⟨KSa, ⟨KSb, KSc, KSd⟩, -⟩ := id KS
      obtain ⟨KPa, ⟨KPb, KPc, KPd⟩, -⟩ := id KP
      go_wp2_with fail
      refine (J2.out _ _ _ _ _ _ _ _ _ _ _ _ _ X.inI Y.inI U.inI V.inI (TT.out _ hB)).mono ?_
      rintro e w6 ⟨⟨avZ, cvZ, avZ', cvZ', rfl, Z, Z'⟩, hb6⟩
      clear KAa KAb KAc KAd KBa KBb KBc KBd KCa KCb KCc KCd KSa KSb KSc KSd KPa KPb KPc KPd
      replace X := X.later hb6
      replace Y := Y.later hb6
      replace U := U.later hb6
      replace V := V.later hb6
      replace P := P.later hb6
      replace Q := Q.later hb6
      replace S := S.later hb6
      replace S' := S'.later hb6
      replace T := T.later hb6
      replace T' := T'.later hb6
      replace KA := KA.old hb6
      replace KB := KB.old hb6
      replace KC := KC.old hb6
      replace KS := KS.old hb6
      replace KP := KP.old hb6
      replace hB := old_trans hB hb6
      clear hb6
      obtain ⟨KAa, ⟨KAb, KAc, KAd⟩, -⟩ := id KA
      obtain ⟨KBa, ⟨KBb, KBc, KBd⟩, -⟩ := id KB
      obtain ⟨KCa, ⟨KCb, KCc, KCd⟩, -⟩ := id KC
      obtain ⟨KSa, ⟨KSb, KSc, KSd⟩, -⟩ := id KS
      obtain ⟨KPa, ⟨KPb, KPc, KPd⟩, -⟩ := id KP
      clear KAa KAb KAc KAd KBa KBb KBc KBd KCa KCb KCc KCd KSa KSb KSc KSd KPa KPb KPc KPd
      have KZ_ := Cel3.new w6 (.bool s2) (.slice avZ t2.length cvZ) (.slice avZ' u2.length cvZ') 25
      have halKZ : Below w6.heap.size w6 (w6.alloc (.cells #[.bool s2, .slice avZ t2.length cvZ, .slice avZ' u2.length cvZ'] 25)) := old_alloc (Below.refl _ _) _
      replace X := X.later halKZ
      replace Y := Y.later halKZ
      replace U := U.later halKZ
      replace V := V.later halKZ
      replace P := P.later halKZ
      replace Q := Q.later halKZ
      replace S := S.later halKZ
      replace S' := S'.later halKZ
      replace T := T.later halKZ
      replace T' := T'.later halKZ
      replace Z := Z.later halKZ
      replace Z' := Z'.later halKZ
      replace KA := KA.old halKZ
      replace KB := KB.old halKZ
      replace KC := KC.old halKZ
      replace KS := KS.old halKZ
      replace KP := KP.old halKZ
      replace hB := old_trans hB halKZ
      clear halKZ
      have KZ := KZ_
      clear KZ_
      obtain ⟨KAa, ⟨KAb, KAc, KAd⟩, -⟩ := id KA
      obtain ⟨KBa, ⟨KBb, KBc, KBd⟩, -⟩ := id KB
      obtain ⟨KCa, ⟨KCb, KCc, KCd⟩, -⟩ := id KC
      obtain ⟨KSa, ⟨KSb, KSc, KSd⟩, -⟩ := id KS
      obtain ⟨KPa, ⟨KPb, KPc, KPd⟩, -⟩ := id KP
      obtain ⟨KZa, ⟨KZb, KZc, KZd⟩, -⟩ := id KZ
      go_wp2_with fail
      refine (PF.out _ _ _ _ _ _ _ _ _ _ _ _ _ _ T.inI T'.inI Z.inI Z'.inI).mono ?_
      rintro e w7 ⟨rfl, hb7⟩
      clear KAa KAb KAc KAd KBa KBb KBc KBd KCa KCb KCc KCd KSa KSb KSc KSd KPa KPb KPc KPd KZa KZb KZc KZd
      replace X := X.later hb7
      replace Y := Y.later hb7
      replace U := U.later hb7
      replace V := V.later hb7
      replace P := P.later hb7
      replace Q := Q.later hb7
      replace S := S.later hb7
      replace S' := S'.later hb7
      replace T := T.later hb7
      replace T' := T'.later hb7
      replace Z := Z.later hb7
      replace Z' := Z'.later hb7
      replace KA := KA.old hb7
      replace KB := KB.old hb7
      replace KC := KC.old hb7
      replace KS := KS.old hb7
      replace KP := KP.old hb7
      replace KZ := KZ.old hb7
      replace hB := old_trans hB hb7
      clear hb7
      obtain ⟨KAa, ⟨KAb, KAc, KAd⟩, -⟩ := id KA
      obtain ⟨KBa, ⟨KBb, KBc, KBd⟩, -⟩ := id KB
      obtain ⟨KCa, ⟨KCb, KCc, KCd⟩, -⟩ := id KC
      obtain ⟨KSa, ⟨KSb, KSc, KSd⟩, -⟩ := id KS
      obtain ⟨KPa, ⟨KPb, KPc, KPd⟩, -⟩ := id KP
      obtain ⟨KZa, ⟨KZb, KZc, KZd⟩, -⟩ := id KZ
      clear KAa KAb KAc KAd KBa KBb KBc KBd KCa KCb KCc KCd KSa KSb KSc KSd KPa KPb KPc KPd KZa KZb KZc KZd
      clear Z Z' KZ
      obtain ⟨KAa, ⟨KAb, KAc, KAd⟩, -⟩ := id KA
      obtain ⟨KBa, ⟨KBb, KBc, KBd⟩, -⟩ := id KB
      obtain ⟨KCa, ⟨KCb, KCc, KCd⟩, -⟩ := id KC
      obtain ⟨KSa, ⟨KSb, KSc, KSd⟩, -⟩ := id KS
      obtain ⟨KPa, ⟨KPb, KPc, KPd⟩, -⟩ := id KP
      go_wp2
      go_ret
      exact ⟨rfl, hB⟩
  cases r2
  · as_aux_lemma =>
    clear H1 H2 hch
    go_wp2_with fail
    refine (I1.out _ _ _ _ _ _ _ _ _ _ _ _ _ X.inI Y.inI U.inI V.inI (TT.out _ hB)).mono ?_
    rintro e w2 ⟨⟨avS, cvS, avS', cvS', rfl, S, S'⟩, hb2⟩
    clear KAa KAb KAc KAd KBa KBb KBc KBd KCa KCb KCc KCd
    replace X := X.later hb2
    replace Y := Y.later hb2
    replace U := U.later hb2
    replace V := V.later hb2
    replace P := P.later hb2
    replace Q := Q.later hb2
    replace KA := KA.old hb2
    replace KB := KB.old hb2
    replace KC := KC.old hb2
    replace hB := old_trans hB hb2
    clear hb2
    obtain ⟨KAa, ⟨KAb, KAc, KAd⟩, -⟩ := id KA
    obtain ⟨KBa, ⟨KBb, KBc, KBd⟩, -⟩ := id KB
    obtain ⟨KCa, ⟨KCb, KCc, KCd⟩, -⟩ := id KC
    clear KAa KAb KAc KAd KBa KBb KBc KBd KCa KCb KCc KCd
    have KS_ := Cel3.new w2 (.bool s1) (.slice avS t1.length cvS) (.slice avS' u1.length cvS') 25
    have halKS : Below w2.heap.size w2 (w2.alloc (.cells #[.bool s1, .slice avS t1.length cvS, .slice avS' u1.length cvS'] 25)) := old_alloc (Below.refl _ _) _
    replace X := X.later halKS
    replace Y := Y.later halKS
    replace U := U.later halKS
    replace V := V.later halKS
    replace P := P.later halKS
    replace Q := Q.later halKS
    replace S := S.later halKS
    replace S' := S'.later halKS
    replace KA := KA.old halKS
    replace KB := KB.old halKS
    replace KC := KC.old halKS
    replace hB := old_trans hB halKS
    clear halKS
    have KS := KS_
    clear KS_
    obtain ⟨KAa, ⟨KAb, KAc, KAd⟩, -⟩ := id KA
    obtain ⟨KBa, ⟨KBb, KBc, KBd⟩, -⟩ := id KB
    obtain ⟨KCa, ⟨KCb, KCc, KCd⟩, -⟩ := id KC
    obtain ⟨KSa, ⟨KSb, KSc, KSd⟩, -⟩ := id KS
    go_wp2_with fail
    refine (J1.out _ _ _ _ _ _ _ _ _ _ _ _ _ X.inI Y.inI U.inI V.inI (TT.out _ hB)).mono ?_
    rintro e w3 ⟨⟨avW, cvW, avW', cvW', rfl, W, W'⟩, hb3⟩
    clear KAa KAb KAc KAd KBa KBb KBc KBd KCa KCb KCc KCd KSa KSb KSc KSd
    replace X := X.later hb3
    replace Y := Y.later hb3
    replace U := U.later hb3
    replace V := V.later hb3
    replace P := P.later hb3
    replace Q := Q.later hb3
    replace S := S.later hb3
    replace S' := S'.later hb3
    replace KA := KA.old hb3
    replace KB := KB.old hb3
    replace KC := KC.old hb3
    replace KS := KS.old hb3
    replace hB := old_trans hB hb3
    clear hb3
    obtain ⟨KAa, ⟨KAb, KAc, KAd⟩, -⟩ := id KA
    obtain ⟨KBa, ⟨KBb, KBc, KBd⟩, -⟩ := id KB
    obtain ⟨KCa, ⟨KCb, KCc, KCd⟩, -⟩ := id KC
    obtain ⟨KSa, ⟨KSb, KSc, KSd⟩, -⟩ := id KS
    clear KAa KAb KAc KAd KBa KBb KBc KBd KCa KCb KCc KCd KSa KSb KSc KSd
    have KW_ := Cel3.new w3 (.bool s1) (.slice avW t1.length cvW) (.slice avW' u1.length cvW') 25
    have halKW : Below w3.heap.size w3 (w3.alloc (.cells #[.bool s1, .slice avW t1.length cvW, .slice avW' u1.length cvW'] 25)) := old_alloc (Below.refl _ _) _
    replace X := X.later halKW
    replace Y := Y.later halKW
    replace U := U.later halKW
    replace V := V.later halKW
    replace P := P.later halKW
    replace Q := Q.later halKW
    replace S := S.later halKW
    replace S' := S'.later halKW
    replace W := W.later halKW
    replace W' := W'.later halKW
    replace KA := KA.old halKW
    replace KB := KB.old halKW
    replace KC := KC.old halKW
    replace KS := KS.old halKW
    replace hB := old_trans hB halKW
    clear halKW
    have KW := KW_
    clear KW_
    obtain ⟨KAa, ⟨KAb, KAc, KAd⟩, -⟩ := id KA
    obtain ⟨KBa, ⟨KBb, KBc, KBd⟩, -⟩ := id KB
    obtain ⟨KCa, ⟨KCb, KCc, KCd⟩, -⟩ := id KC
    obtain ⟨KSa, ⟨KSb, KSc, KSd⟩, -⟩ := id KS
    obtain ⟨KWa, ⟨KWb, KWc, KWd⟩, -⟩ := id KW
    go_wp2_with fail
    refine (PF.out _ _ _ _ _ _ _ _ _ _ _ _ _ _ S.inI S'.inI W.inI W'.inI).mono ?_
    rintro e w4 ⟨rfl, hb4⟩
    clear KAa KAb KAc KAd KBa KBb KBc KBd KCa KCb KCc KCd KSa KSb KSc KSd KWa KWb KWc KWd
    replace X := X.later hb4
    replace Y := Y.later hb4
    replace U := U.later hb4
    replace V := V.later hb4
    replace P := P.later hb4
    replace Q := Q.later hb4
    replace S := S.later hb4
    replace S' := S'.later hb4
    replace W := W.later hb4
    replace W' := W'.later hb4
    replace KA := KA.old hb4
    replace KB := KB.old hb4
    replace KC := KC.old hb4
    replace KS := KS.old hb4
    replace KW := KW.old hb4
    replace hB := old_trans hB hb4
    clear hb4
    obtain ⟨KAa, ⟨KAb, KAc, KAd⟩, -⟩ := id KA
    obtain ⟨KBa, ⟨KBb, KBc, KBd⟩, -⟩ := id KB
    obtain ⟨KCa, ⟨KCb, KCc, KCd⟩, -⟩ := id KC
    obtain ⟨KSa, ⟨KSb, KSc, KSd⟩, -⟩ := id KS
    obtain ⟨KWa, ⟨KWb, KWc, KWd⟩, -⟩ := id KW
    clear KAa KAb KAc KAd KBa KBb KBc KBd KCa KCb KCc KCd KSa KSb KSc KSd KWa KWb KWc KWd
    clear W W' KW
    obtain ⟨KAa, ⟨KAb, KAc, KAd⟩, -⟩ := id KA
    obtain ⟨KBa, ⟨KBb, KBc, KBd⟩, -⟩ := id KB
    obtain ⟨KCa, ⟨KCb, KCc, KCd⟩, -⟩ := id KC
    obtain ⟨KSa, ⟨KSb, KSc, KSd⟩, -⟩ := id KS
    go_wp2_with fail
    refine (I2.out _ _ _ _ _ _ _ _ _ _ _ _ _ X.inI Y.inI U.inI V.inI (TT.out _ hB)).mono ?_
    rintro e w5 ⟨⟨avT, cvT, avT', cvT', rfl, T, T'⟩, hb5⟩
    clear KAa KAb KAc KAd KBa KBb KBc KBd KCa KCb KCc KCd KSa KSb KSc KSd
    replace X := X.later hb5
    replace Y := Y.later hb5
    replace U := U.later hb5
    replace V := V.later hb5
    replace P := P.later hb5
    replace Q := Q.later hb5
    replace S := S.later hb5
    replace S' := S'.later hb5
    replace KA := KA.old hb5
    replace KB := KB.old hb5
    replace KC := KC.old hb5
    replace KS := KS.old hb5
    replace hB := old_trans hB hb5
    clear hb5
    obtain ⟨KAa, ⟨KAb, KAc, KAd⟩, -⟩ := id KA
    obtain ⟨KBa, ⟨KBb, KBc, KBd⟩, -⟩ := id KB
    obtain ⟨KCa, ⟨KCb, KCc, KCd⟩, -⟩ := id KC
    obtain ⟨KSa, ⟨KSb, KSc, KSd⟩, -⟩ := id KS
    clear KAa KAb KAc KAd KBa KBb KBc KBd KCa KCb KCc KCd KSa KSb KSc KSd
    have KP_ := Cel3.new w5 (.bool s2) (.slice avT t2.length cvT) (.slice avT' u2.length cvT') 25
    have halKP : Below w5.heap.size w5 (w5.alloc (.cells #[.bool s2, .slice avT t2.length cvT, .slice avT' u2.length cvT'] 25)) := old_alloc (Below.refl _ _) _
    replace X := X.later halKP
    replace Y := Y.later halKP
    replace U := U.later halKP
    replace V := V.later halKP
    replace P := P.later halKP
    replace Q := Q.later halKP
    replace S := S.later halKP
    replace S' := S'.later halKP
    replace T := T.later halKP
    replace T' := T'.later halKP
    replace KA := KA.old halKP
    replace KB := KB.old halKP
    replace KC := KC.old halKP
    replace KS := KS.old halKP
    replace hB := old_trans hB halKP
    clear halKP
    have KP := KP_
    clear KP_
    obtain ⟨KAa, ⟨KAb, KAc, KAd⟩, -⟩ := id KA
    obtain ⟨KBa, ⟨KBb, KBc, KBd⟩, -⟩ := id KB
    obtain ⟨KCa, ⟨KCb, KCc, KCd⟩, -⟩ := id KC
    obtain ⟨KSa, ⟨KSb, KSc, KSd⟩, -⟩ := id KS
    obtain ⟨KPa, ⟨KPb, KPc, KPd⟩, -⟩ := id KP
    go_wp2_with fail
    refine (J2.out _ _ _ _ _ _ _ _ _ _ _ _ _ X.inI Y.inI U.inI V.inI (TT.out _ hB)).mono ?_
    rintro e w6 ⟨⟨avZ, cvZ, avZ', cvZ', rfl, Z, Z'⟩, hb6⟩
    clear KAa KAb KAc KAd KBa KBb KBc KBd KCa KCb KCc KCd KSa KSb KSc KSd KPa KPb KPc KPd
    replace X := X.later hb6
    replace Y := Y.later hb6
    replace U := U.later hb6
    replace V := V.later hb6
    replace P := P.later hb6
    replace Q := Q.later hb6
    replace S := S.later hb6
    replace S' := S'.later hb6
    replace T := T.later hb6
    replace T' := T'.later hb6
    replace KA := KA.old hb6
    replace KB := KB.old hb6
    replace KC := KC.old hb6
    replace KS := KS.old hb6
    replace KP := KP.old hb6
    replace hB := old_trans hB hb6
    clear hb6
    obtain ⟨KAa, ⟨KAb, KAc, KAd⟩, -⟩ := id KA
    obtain ⟨KBa, ⟨KBb, KBc, KBd⟩, -⟩ := id KB
    obtain ⟨KCa, ⟨KCb, KCc, KCd⟩, -⟩ := id KC
    obtain ⟨KSa, ⟨KSb, KSc, KSd⟩, -⟩ := id KS
    obtain ⟨KPa, ⟨KPb, KPc, KPd⟩, -⟩ := id KP
    clear KAa KAb KAc KAd KBa KBb KBc KBd KCa KCb KCc KCd KSa KSb KSc KSd KPa KPb KPc KPd
    have KZ_ := Cel3.new w6 (.bool s2) (.slice avZ t2.length cvZ) (.slice avZ' u2.length cvZ') 25
    have halKZ : Below w6.heap.size w6 (w6.alloc (.cells #[.bool s2, .slice avZ t2.length cvZ, .slice avZ' u2.length cvZ'] 25)) := old_alloc (Below.refl _ _) _
    replace X := X.later halKZ
    replace Y := Y.later halKZ
    replace U := U.later halKZ
    replace V := V.later halKZ
    replace P := P.later halKZ
    replace Q := Q.later halKZ
    replace S := S.later halKZ
    replace S' := S'.later halKZ
    replace T := T.later halKZ
    replace T' := T'.later halKZ
    replace Z := Z.later halKZ
    replace Z' := Z'.later halKZ
    replace KA := KA.old halKZ
    replace KB := KB.old halKZ
    replace KC := KC.old halKZ
    replace KS := KS.old halKZ
    replace KP := KP.old halKZ
    replace hB := old_trans hB halKZ
    clear halKZ
    have KZ := KZ_
    clear KZ_
    obtain ⟨KAa, ⟨KAb, KAc, KAd⟩, -⟩ := id KA
    obtain ⟨KBa, ⟨KBb, KBc, KBd⟩, -⟩ := id KB
    obtain ⟨KCa, ⟨KCb, KCc, KCd⟩, -⟩ := id KC
    obtain ⟨KSa, ⟨KSb, KSc, KSd⟩, -⟩ := id KS
    obtain ⟨KPa, ⟨KPb, KPc, KPd⟩, -⟩ := id KP
    obtain ⟨KZa, ⟨KZb, KZc, KZd⟩, -⟩ := id KZ
    go_wp2_with fail
    refine (PF.out _ _ _ _ _ _ _ _ _ _ _ _ _ _ T.inI T'.inI Z.inI Z'.inI).mono ?_
    rintro e w7 ⟨rfl, hb7⟩
    clear KAa KAb KAc KAd KBa KBb KBc KBd KCa KCb KCc KCd KSa KSb KSc KSd KPa KPb KPc KPd KZa KZb KZc KZd
    replace X := X.later hb7
    replace Y := Y.later hb7
    replace U := U.later hb7
    replace V := V.later hb7
    replace P := P.later hb7
    replace Q := Q.later hb7
    replace S := S.later hb7
    replace S' := S'.later hb7
    replace T := T.later hb7
    replace T' := T'.later hb7
    replace Z := Z.later hb7
    replace Z' := Z'.later hb7
    replace KA := KA.old hb7
    replace KB := KB.old hb7
    replace KC := KC.old hb7
    replace KS := KS.old hb7
    replace KP := KP.old hb7
    replace KZ := KZ.old hb7
    replace hB := old_trans hB hb7
    clear hb7
    obtain ⟨KAa, ⟨KAb, KAc, KAd⟩, -⟩ := id KA
    obtain ⟨KBa, ⟨KBb, KBc, KBd⟩, -⟩ := id KB
    obtain ⟨KCa, ⟨KCb, KCc, KCd⟩, -⟩ := id KC
    obtain ⟨KSa, ⟨KSb, KSc, KSd⟩, -⟩ := id KS
    obtain ⟨KPa, ⟨KPb, KPc, KPd⟩, -⟩ := id KP
    obtain ⟨KZa, ⟨KZb, KZc, KZd⟩, -⟩ := id KZ
    clear KAa KAb KAc KAd KBa KBb KBc KBd KCa KCb KCc KCd KSa KSb KSc KSd KPa KPb KPc KPd KZa KZb KZc KZd
    clear Z Z' KZ
    obtain ⟨KAa, ⟨KAb, KAc, KAd⟩, -⟩ := id KA
    obtain ⟨KBa, ⟨KBb, KBc, KBd⟩, -⟩ := id KB
    obtain ⟨KCa, ⟨KCb, KCc, KCd⟩, -⟩ := id KC
    obtain ⟨KSa, ⟨KSb, KSc, KSd⟩, -⟩ := id KS
    obtain ⟨KPa, ⟨KPb, KPc, KPd⟩, -⟩ := id KP
    go_wp2
    go_ret
    exact ⟨rfl, hB⟩
  have Y0 : Hid (CIt 8 bb us vs ba xs ys true s1 t1 u1) := by
    obtain ⟨h1, h2, e1⟩ := H1.out rfl
    exact add_is h2 h1 ((fAddComm h1 h2).trans e1)
  have Y1 : Hid (CIt 11 bb us vs ba xs ys true s2 t2 u2) := by
    obtain ⟨h1, h2, e1⟩ := H2.out rfl
    exact mul_is h2 h1 ((fMulComm h1 h2).trans e1)
  have Y2 : Hid (CIt 13 s1 t1 u1 bb us vs true ba xs ys) := by
    obtain ⟨h1, h2, e1⟩ := H1.out rfl
    exact sub_is (fres_in e1).1 h2 ((fSubBack h1 h2 e1).trans (fres_self h1))
  obtain ⟨m, hm⟩ : ∃ m, signI (fracOk bb us vs) bb us.length = m := ⟨_, rfl⟩
  have SG := hd (fun a b ca cb w g1 g2 g3 => oSign hm a b ca cb w g1 g2 g3)
  have DV : Hid (m ≠ 0 → CIt 15 s2 t2 u2 bb us vs true ba xs ys) := by
    intro hm0
    obtain ⟨h1, h2, e2⟩ := H2.out rfl
    refine div_is (fres_in e2).1 h2 ((fDivBack h1 h2 e2 ?_).trans (fres_self h1))
    intro hz
    apply hm0
    have c := natOk_canon (fracOk_in h2).1
    rw [hz, natL_zero] at c
    rw [← hm, ← c]
    unfold signI
    simp
  clear hm
  obtain ⟨r3, s3, t3, u3, H3, I3_, -⟩ := add_res bb us vs bc ps qs
  obtain ⟨r4, s4, t4, u4, H4, I4_, -⟩ := mul_res bb us vs bc ps qs
  obtain ⟨r5, s5, t5, u5, H5, I5_, -⟩ := mul_res ba xs ys bc ps qs
  have I3 := hd I3_
  have I4 := hd I4_
  have I5 := hd I5_
  have Y6 : Hid (r3 = true → r4 = true → r5 = true → ∃ (r6 s6 : Bool) (t6 u6 : List Int) (r7 s7 : Bool) (t7 u7 : List Int) (r8 s8 : Bool) (t8 u8 : List Int), (CIt 8 s1 t1 u1 bc ps qs r6 s6 t6 u6 ∧ CIt 8 ba xs ys s3 t3 u3 r6 s6 t6 u6) ∧ (CIt 11 s2 t2 u2 bc ps qs r7 s7 t7 u7 ∧ CIt 11 ba xs ys s4 t4 u4 r7 s7 t7 u7) ∧ (CIt 11 ba xs ys s3 t3 u3 r8 s8 t8 u8 ∧ CIt 8 s2 t2 u2 s5 t5 u5 r8 s8 t8 u8)) := by
    intro a3 a4 a5
    obtain ⟨h1, h2, e1⟩ := H1.out rfl
    obtain ⟨-, -, e2⟩ := H2.out rfl
    obtain ⟨-, h3, e3⟩ := H3 a3
    obtain ⟨-, -, e4⟩ := H4 a4
    obtain ⟨-, -, e5⟩ := H5 a5
    obtain ⟨r6, s6, t6, u6, q6⟩ : ∃ r6 s6 t6 u6, fres (sumS s1 bc (val t1 * val qs) (val ps * val u1)) (sumN s1 bc (val t1 * val qs) (val ps * val u1)) (val u1 * val qs) = (r6, s6, t6, u6) := ⟨_, _, _, _, rfl⟩
    obtain ⟨r7, s7, t7, u7, q7⟩ : ∃ r7 s7 t7 u7, fres (!(s2 == bc)) (val t2 * val ps) (val u2 * val qs) = (r7, s7, t7, u7) := ⟨_, _, _, _, rfl⟩
    obtain ⟨r8, s8, t8, u8, q8⟩ : ∃ r8 s8 t8 u8, fres (!(ba == s3)) (val xs * val t3) (val ys * val u3) = (r8, s8, t8, u8) := ⟨_, _, _, _, rfl⟩
    have k1 := (fres_in e1).1
    have k2 := (fres_in e2).1
    have k3 := (fres_in e3).1
    have k4 := (fres_in e4).1
    have k5 := (fres_in e5).1
    exact ⟨r6, s6, t6, u6, r7, s7, t7, u7, r8, s8, t8, u8, ⟨add_is k1 h3 q6, add_is h1 k3 ((fAddAss h1 h2 h3 e1 e3).symm.trans q6)⟩, ⟨mul_is k2 h3 q7, mul_is h1 k4 ((fMulAss h1 h2 h3 e2 e4).symm.trans q7)⟩, ⟨mul_is h1 k3 q8, add_is k2 k5 ((fDist h1 h2 h3 e3 e2 e5).symm.trans q8)⟩⟩
  clear H1 H2 H3 H4 H5 I3_ I4_ I5_ hch
  go_wp2_with fail
  refine (I1.out _ _ _ _ _ _ _ _ _ _ _ _ _ X.inI Y.inI U.inI V.inI (TT.out _ hB)).mono ?_
  rintro e w2 ⟨⟨avS, cvS, avS', cvS', rfl, S, S'⟩, hb2⟩
  clear KAa KAb KAc KAd KBa KBb KBc KBd KCa KCb KCc KCd
  replace X := X.later hb2
  replace Y := Y.later hb2
  replace U := U.later hb2
  replace V := V.later hb2
  replace P := P.later hb2
  replace Q := Q.later hb2
  replace KA := KA.old hb2
  replace KB := KB.old hb2
  replace KC := KC.old hb2
  replace hB := old_trans hB hb2
  clear hb2
  obtain ⟨KAa, ⟨KAb, KAc, KAd⟩, -⟩ := id KA
  obtain ⟨KBa, ⟨KBb, KBc, KBd⟩, -⟩ := id KB
  obtain ⟨KCa, ⟨KCb, KCc, KCd⟩, -⟩ := id KC
  clear KAa KAb KAc KAd KBa KBb KBc KBd KCa KCb KCc KCd
  have KS_ := Cel3.new w2 (.bool s1) (.slice avS t1.length cvS) (.slice avS' u1.length cvS') 25
  have halKS : Below w2.heap.size w2 (w2.alloc (.cells #[.bool s1, .slice avS t1.length cvS, .slice avS' u1.length cvS'] 25)) := old_alloc (Below.refl _ _) _
  replace X := X.later halKS
  replace Y := Y.later halKS
  replace U := U.later halKS
  replace V := V.later halKS
  replace P := P.later halKS
  replace Q := Q.later halKS
  replace S := S.later halKS
  replace S' := S'.later halKS
  replace KA := KA.old halKS
  replace KB := KB.old halKS
  replace KC := KC.old halKS
  replace hB := old_trans hB halKS
  clear halKS
  have KS := KS_
  clear KS_
  obtain ⟨KAa, ⟨KAb, KAc, KAd⟩, -⟩ := id KA
  obtain ⟨KBa, ⟨KBb, KBc, KBd⟩, -⟩ := id KB
  obtain ⟨KCa, ⟨KCb, KCc, KCd⟩, -⟩ := id KC
  obtain ⟨KSa, ⟨KSb, KSc, KSd⟩, -⟩ := id KS
  go_wp2_with fail
  refine (J1.out _ _ _ _ _ _ _ _ _ _ _ _ _ X.inI Y.inI U.inI V.inI (TT.out _ hB)).mono ?_
  rintro e w3 ⟨⟨avW, cvW, avW', cvW', rfl, W, W'⟩, hb3⟩
  clear KAa KAb KAc KAd KBa KBb KBc KBd KCa KCb KCc KCd KSa KSb KSc KSd
  replace X := X.later hb3
  replace Y := Y.later hb3
  replace U := U.later hb3
  replace V := V.later hb3
  replace P := P.later hb3
  replace Q := Q.later hb3
  replace S := S.later hb3
  replace S' := S'.later hb3
  replace KA := KA.old hb3
  replace KB := KB.old hb3
  replace KC := KC.old hb3
  replace KS := KS.old hb3
  replace hB := old_trans hB hb3
  clear hb3
  obtain ⟨KAa, ⟨KAb, KAc, KAd⟩, -⟩ := id KA
  obtain ⟨KBa, ⟨KBb, KBc, KBd⟩, -⟩ := id KB
  obtain ⟨KCa, ⟨KCb, KCc, KCd⟩, -⟩ := id KC
  obtain ⟨KSa, ⟨KSb, KSc, KSd⟩, -⟩ := id KS
  clear KAa KAb KAc KAd KBa KBb KBc KBd KCa KCb KCc KCd KSa KSb KSc KSd
  have KW_ := Cel3.new w3 (.bool s1) (.slice avW t1.length cvW) (.slice avW' u1.length cvW') 25
  have halKW : Below w3.heap.size w3 (w3.alloc (.cells #[.bool s1, .slice avW t1.length cvW, .slice avW' u1.length cvW'] 25)) := old_alloc (Below.refl _ _) _
  replace X := X.later halKW
  replace Y := Y.later halKW
  replace U := U.later halKW
  replace V := V.later halKW
  replace P := P.later halKW
  replace Q := Q.later halKW
  replace S := S.later halKW
  replace S' := S'.later halKW
  replace W := W.later halKW
  replace W' := W'.later halKW
  replace KA := KA.old halKW
  replace KB := KB.old halKW
  replace KC := KC.old halKW
  replace KS := KS.old halKW
  replace hB := old_trans hB halKW
  clear halKW
  have KW := KW_
  clear KW_
  obtain ⟨KAa, ⟨KAb, KAc, KAd⟩, -⟩ := id KA
  obtain ⟨KBa, ⟨KBb, KBc, KBd⟩, -⟩ := id KB
  obtain ⟨KCa, ⟨KCb, KCc, KCd⟩, -⟩ := id KC
  obtain ⟨KSa, ⟨KSb, KSc, KSd⟩, -⟩ := id KS
  obtain ⟨KWa, ⟨KWb, KWc, KWd⟩, -⟩ := id KW
  go_wp2_with fail
  refine (PF.out _ _ _ _ _ _ _ _ _ _ _ _ _ _ S.inI S'.inI W.inI W'.inI).mono ?_
  rintro e w4 ⟨rfl, hb4⟩
  clear KAa KAb KAc KAd KBa KBb KBc KBd KCa KCb KCc KCd KSa KSb KSc KSd KWa KWb KWc KWd
  replace X := X.later hb4
  replace Y := Y.later hb4
  replace U := U.later hb4
  replace V := V.later hb4
  replace P := P.later hb4
  replace Q := Q.later hb4
  replace S := S.later hb4
  replace S' := S'.later hb4
  replace W := W.later hb4
  replace W' := W'.later hb4
  replace KA := KA.old hb4
  replace KB := KB.old hb4
  replace KC := KC.old hb4
  replace KS := KS.old hb4
  replace KW := KW.old hb4
  replace hB := old_trans hB hb4
  clear hb4
  obtain ⟨KAa, ⟨KAb, KAc, KAd⟩, -⟩ := id KA
  obtain ⟨KBa, ⟨KBb, KBc, KBd⟩, -⟩ := id KB
  obtain ⟨KCa, ⟨KCb, KCc, KCd⟩, -⟩ := id KC
  obtain ⟨KSa, ⟨KSb, KSc, KSd⟩, -⟩ := id KS
  obtain ⟨KWa, ⟨KWb, KWc, KWd⟩, -⟩ := id KW
  clear KAa KAb KAc KAd KBa KBb KBc KBd KCa KCb KCc KCd KSa KSb KSc KSd KWa KWb KWc KWd
  clear W W' KW
  obtain ⟨KAa, ⟨KAb, KAc, KAd⟩, -⟩ := id KA
  obtain ⟨KBa, ⟨KBb, KBc, KBd⟩, -⟩ := id KB
  obtain ⟨KCa, ⟨KCb, KCc, KCd⟩, -⟩ := id KC
  obtain ⟨KSa, ⟨KSb, KSc, KSd⟩, -⟩ := id KS
  go_wp2_with fail
  refine (I2.out _ _ _ _ _ _ _ _ _ _ _ _ _ X.inI Y.inI U.inI V.inI (TT.out _ hB)).mono ?_
  rintro e w5 ⟨⟨avT, cvT, avT', cvT', rfl, T, T'⟩, hb5⟩
  clear KAa KAb KAc KAd KBa KBb KBc KBd KCa KCb KCc KCd KSa KSb KSc KSd
  replace X := X.later hb5
  replace Y := Y.later hb5
  replace U := U.later hb5
  replace V := V.later hb5
  replace P := P.later hb5
  replace Q := Q.later hb5
  replace S := S.later hb5
  replace S' := S'.later hb5
  replace KA := KA.old hb5
  replace KB := KB.old hb5
  replace KC := KC.old hb5
  replace KS := KS.old hb5
  replace hB := old_trans hB hb5
  clear hb5
  obtain ⟨KAa, ⟨KAb, KAc, KAd⟩, -⟩ := id KA
  obtain ⟨KBa, ⟨KBb, KBc, KBd⟩, -⟩ := id KB
  obtain ⟨KCa, ⟨KCb, KCc, KCd⟩, -⟩ := id KC
  obtain ⟨KSa, ⟨KSb, KSc, KSd⟩, -⟩ := id KS
  clear KAa KAb KAc KAd KBa KBb KBc KBd KCa KCb KCc KCd KSa KSb KSc KSd
  have KP_ := Cel3.new w5 (.bool s2) (.slice avT t2.length cvT) (.slice avT' u2.length cvT') 25
  have halKP : Below w5.heap.size w5 (w5.alloc (.cells #[.bool s2, .slice avT t2.length cvT, .slice avT' u2.length cvT'] 25)) := old_alloc (Below.refl _ _) _
  replace X := X.later halKP
  replace Y := Y.later halKP
  replace U := U.later halKP
  replace V := V.later halKP
  replace P := P.later halKP
  replace Q := Q.later halKP
  replace S := S.later halKP
  replace S' := S'.later halKP
  replace T := T.later halKP
  replace T' := T'.later halKP
  replace KA := KA.old halKP
  replace KB := KB.old halKP
  replace KC := KC.old halKP
  replace KS := KS.old halKP
  replace hB := old_trans hB halKP
  clear halKP
  have KP := KP_
  clear KP_
  obtain ⟨KAa, ⟨KAb, KAc, KAd⟩, -⟩ := id KA
  obtain ⟨KBa, ⟨KBb, KBc, KBd⟩, -⟩ := id KB
  obtain ⟨KCa, ⟨KCb, KCc, KCd⟩, -⟩ := id KC
  obtain ⟨KSa, ⟨KSb, KSc, KSd⟩, -⟩ := id KS
  obtain ⟨KPa, ⟨KPb, KPc, KPd⟩, -⟩ := id KP
  go_wp2_with fail
  refine (J2.out _ _ _ _ _ _ _ _ _ _ _ _ _ X.inI Y.inI U.inI V.inI (TT.out _ hB)).mono ?_
  rintro e w6 ⟨⟨avZ, cvZ, avZ', cvZ', rfl, Z, Z'⟩, hb6⟩
  clear KAa KAb KAc KAd KBa KBb KBc KBd KCa KCb KCc KCd KSa KSb KSc KSd KPa KPb KPc KPd
  replace X := X.later hb6
  replace Y := Y.later hb6
  replace U := U.later hb6
  replace V := V.later hb6
  replace P := P.later hb6
  replace Q := Q.later hb6
  replace S := S.later hb6
  replace S' := S'.later hb6
  replace T := T.later hb6
  replace T' := T'.later hb6
  replace KA := KA.old hb6
  replace KB := KB.old hb6
  replace KC := KC.old hb6
  replace KS := KS.old hb6
  replace KP := KP.old hb6
  replace hB := old_trans hB hb6
  clear hb6
  obtain ⟨KAa, ⟨KAb, KAc, KAd⟩, -⟩ := id KA
  obtain ⟨KBa, ⟨KBb, KBc, KBd⟩, -⟩ := id KB
  obtain ⟨KCa, ⟨KCb, KCc, KCd⟩, -⟩ := id KC
  obtain ⟨KSa, ⟨KSb, KSc, KSd⟩, -⟩ := id KS
  obtain ⟨KPa, ⟨KPb, KPc, KPd⟩, -⟩ := id KP
  clear KAa KAb KAc KAd KBa KBb KBc KBd KCa KCb KCc KCd KSa KSb KSc KSd KPa KPb KPc KPd
  have KZ_ := Cel3.new w6 (.bool s2) (.slice avZ t2.length cvZ) (.slice avZ' u2.length cvZ') 25
  have halKZ : Below w6.heap.size w6 (w6.alloc (.cells #[.bool s2, .slice avZ t2.length cvZ, .slice avZ' u2.length cvZ'] 25)) := old_alloc (Below.refl _ _) _
  replace X := X.later halKZ
  replace Y := Y.later halKZ
  replace U := U.later halKZ
  replace V := V.later halKZ
  replace P := P.later halKZ
  replace Q := Q.later halKZ
  replace S := S.later halKZ
  replace S' := S'.later halKZ
  replace T := T.later halKZ
  replace T' := T'.later halKZ
  replace Z := Z.later halKZ
  replace Z' := Z'.later halKZ
  replace KA := KA.old halKZ
  replace KB := KB.old halKZ
  replace KC := KC.old halKZ
  replace KS := KS.old halKZ
  replace KP := KP.old halKZ
  replace hB := old_trans hB halKZ
  clear halKZ
  have KZ := KZ_
  clear KZ_
  obtain ⟨KAa, ⟨KAb, KAc, KAd⟩, -⟩ := id KA
  obtain ⟨KBa, ⟨KBb, KBc, KBd⟩, -⟩ := id KB
  obtain ⟨KCa, ⟨KCb, KCc, KCd⟩, -⟩ := id KC
  obtain ⟨KSa, ⟨KSb, KSc, KSd⟩, -⟩ := id KS
  obtain ⟨KPa, ⟨KPb, KPc, KPd⟩, -⟩ := id KP
  obtain ⟨KZa, ⟨KZb, KZc, KZd⟩, -⟩ := id KZ
  go_wp2_with fail
  refine (PF.out _ _ _ _ _ _ _ _ _ _ _ _ _ _ T.inI T'.inI Z.inI Z'.inI).mono ?_
  rintro e w7 ⟨rfl, hb7⟩
  clear KAa KAb KAc KAd KBa KBb KBc KBd KCa KCb KCc KCd KSa KSb KSc KSd KPa KPb KPc KPd KZa KZb KZc KZd
  replace X := X.later hb7
  replace Y := Y.later hb7
  replace U := U.later hb7
  replace V := V.later hb7
  replace P := P.later hb7
  replace Q := Q.later hb7
  replace S := S.later hb7
  replace S' := S'.later hb7
  replace T := T.later hb7
  replace T' := T'.later hb7
  replace Z := Z.later hb7
  replace Z' := Z'.later hb7
  replace KA := KA.old hb7
  replace KB := KB.old hb7
  replace KC := KC.old hb7
  replace KS := KS.old hb7
  replace KP := KP.old hb7
  replace KZ := KZ.old hb7
  replace hB := old_trans hB hb7
  clear hb7
  obtain ⟨KAa, ⟨KAb, KAc, KAd⟩, -⟩ := id KA
  obtain ⟨KBa, ⟨KBb, KBc, KBd⟩, -⟩ := id KB
  obtain ⟨KCa, ⟨KCb, KCc, KCd⟩, -⟩ := id KC
  obtain ⟨KSa, ⟨KSb, KSc, KSd⟩, -⟩ := id KS
  obtain ⟨KPa, ⟨KPb, KPc, KPd⟩, -⟩ := id KP
  obtain ⟨KZa, ⟨KZb, KZc, KZd⟩, -⟩ := id KZ
  clear KAa KAb KAc KAd KBa KBb KBc KBd KCa KCb KCc KCd KSa KSb KSc KSd KPa KPb KPc KPd KZa KZb KZc KZd
  clear Z Z' KZ
  obtain ⟨KAa, ⟨KAb, KAc, KAd⟩, -⟩ := id KA
  obtain ⟨KBa, ⟨KBb, KBc, KBd⟩, -⟩ := id KB
  obtain ⟨KCa, ⟨KCb, KCc, KCd⟩, -⟩ := id KC
  obtain ⟨KSa, ⟨KSb, KSc, KSd⟩, -⟩ := id KS
  obtain ⟨KPa, ⟨KPb, KPc, KPd⟩, -⟩ := id KP
  clear I1 I2 J1 J2
  go_wp2_with fail
  refine (Y0.out _ _ _ _ _ _ _ _ _ _ _ _ _ U.inI V.inI X.inI Y.inI (TT.out _ hB)).mono ?_
  rintro e w8 ⟨⟨avB, cvB, avB', cvB', rfl, B, B'⟩, hb8⟩
  clear KAa KAb KAc KAd KBa KBb KBc KBd KCa KCb KCc KCd KSa KSb KSc KSd KPa KPb KPc KPd
  replace X := X.later hb8
  replace Y := Y.later hb8
  replace U := U.later hb8
  replace V := V.later hb8
  replace P := P.later hb8
  replace Q := Q.later hb8
  replace S := S.later hb8
  replace S' := S'.later hb8
  replace T := T.later hb8
  replace T' := T'.later hb8
  replace KA := KA.old hb8
  replace KB := KB.old hb8
  replace KC := KC.old hb8
  replace KS := KS.old hb8
  replace KP := KP.old hb8
  replace hB := old_trans hB hb8
  clear hb8
  obtain ⟨KAa, ⟨KAb, KAc, KAd⟩, -⟩ := id KA
  obtain ⟨KBa, ⟨KBb, KBc, KBd⟩, -⟩ := id KB
  obtain ⟨KCa, ⟨KCb, KCc, KCd⟩, -⟩ := id KC
  obtain ⟨KSa, ⟨KSb, KSc, KSd⟩, -⟩ := id KS
  obtain ⟨KPa, ⟨KPb, KPc, KPd⟩, -⟩ := id KP
  clear KAa KAb KAc KAd KBa KBb KBc KBd KCa KCb KCc KCd KSa KSb KSc KSd KPa KPb KPc KPd
  have KT_ := Cel3.new w8 (.bool s1) (.slice avB t1.length cvB) (.slice avB' u1.length cvB') 25
  have halKT : Below w8.heap.size w8 (w8.alloc (.cells #[.bool s1, .slice avB t1.length cvB, .slice avB' u1.length cvB'] 25)) := old_alloc (Below.refl _ _) _
  replace X := X.later halKT
  replace Y := Y.later halKT
  replace U := U.later halKT
  replace V := V.later halKT
  replace P := P.later halKT
  replace Q := Q.later halKT
  replace S := S.later halKT
  replace S' := S'.later halKT
  replace T := T.later halKT
  replace T' := T'.later halKT
  replace B := B.later halKT
  replace B' := B'.later halKT
  replace KA := KA.old halKT
  replace KB := KB.old halKT
  replace KC := KC.old halKT
  replace KS := KS.old halKT
  replace KP := KP.old halKT
  replace hB := old_trans hB halKT
  clear halKT
  have KT := KT_
  clear KT_
  obtain ⟨KAa, ⟨KAb, KAc, KAd⟩, -⟩ := id KA
  obtain ⟨KBa, ⟨KBb, KBc, KBd⟩, -⟩ := id KB
  obtain ⟨KCa, ⟨KCb, KCc, KCd⟩, -⟩ := id KC
  obtain ⟨KSa, ⟨KSb, KSc, KSd⟩, -⟩ := id KS
  obtain ⟨KPa, ⟨KPb, KPc, KPd⟩, -⟩ := id KP
  obtain ⟨KTa, ⟨KTb, KTc, KTd⟩, -⟩ := id KT
  go_wp2_with fail
  refine (Y1.out _ _ _ _ _ _ _ _ _ _ _ _ _ U.inI V.inI X.inI Y.inI (TT.out _ hB)).mono ?_
  rintro e w9 ⟨⟨avC, cvC, avC', cvC', rfl, C, C'⟩, hb9⟩
  clear KAa KAb KAc KAd KBa KBb KBc KBd KCa KCb KCc KCd KSa KSb KSc KSd KPa KPb KPc KPd KTa KTb KTc KTd
  replace X := X.later hb9
  replace Y := Y.later hb9
  replace U := U.later hb9
  replace V := V.later hb9
  replace P := P.later hb9
  replace Q := Q.later hb9
  replace S := S.later hb9
  replace S' := S'.later hb9
  replace T := T.later hb9
  replace T' := T'.later hb9
  replace B := B.later hb9
  replace B' := B'.later hb9
  replace KA := KA.old hb9
  replace KB := KB.old hb9
  replace KC := KC.old hb9
  replace KS := KS.old hb9
  replace KP := KP.old hb9
  replace KT := KT.old hb9
  replace hB := old_trans hB hb9
  clear hb9
  obtain ⟨KAa, ⟨KAb, KAc, KAd⟩, -⟩ := id KA
  obtain ⟨KBa, ⟨KBb, KBc, KBd⟩, -⟩ := id KB
  obtain ⟨KCa, ⟨KCb, KCc, KCd⟩, -⟩ := id KC
  obtain ⟨KSa, ⟨KSb, KSc, KSd⟩, -⟩ := id KS
  obtain ⟨KPa, ⟨KPb, KPc, KPd⟩, -⟩ := id KP
  obtain ⟨KTa, ⟨KTb, KTc, KTd⟩, -⟩ := id KT
  clear KAa KAb KAc KAd KBa KBb KBc KBd KCa KCb KCc KCd KSa KSb KSc KSd KPa KPb KPc KPd KTa KTb KTc KTd
  have KQ_ := Cel3.new w9 (.bool s2) (.slice avC t2.length cvC) (.slice avC' u2.length cvC') 25
  have halKQ : Below w9.heap.size w9 (w9.alloc (.cells #[.bool s2, .slice avC t2.length cvC, .slice avC' u2.length cvC'] 25)) := old_alloc (Below.refl _ _) _
  replace X := X.later halKQ
  replace Y := Y.later halKQ
  replace U := U.later halKQ
  replace V := V.later halKQ
  replace P := P.later halKQ
  replace Q := Q.later halKQ
  replace S := S.later halKQ
  replace S' := S'.later halKQ
  replace T := T.later halKQ
  replace T' := T'.later halKQ
  replace B := B.later halKQ
  replace B' := B'.later halKQ
  replace C := C.later halKQ
  replace C' := C'.later halKQ
  replace KA := KA.old halKQ
  replace KB := KB.old halKQ
  replace KC := KC.old halKQ
  replace KS := KS.old halKQ
  replace KP := KP.old halKQ
  replace KT := KT.old halKQ
  replace hB := old_trans hB halKQ
  clear halKQ
  have KQ := KQ_
  clear KQ_
  obtain ⟨KAa, ⟨KAb, KAc, KAd⟩, -⟩ := id KA
  obtain ⟨KBa, ⟨KBb, KBc, KBd⟩, -⟩ := id KB
  obtain ⟨KCa, ⟨KCb, KCc, KCd⟩, -⟩ := id KC
  obtain ⟨KSa, ⟨KSb, KSc, KSd⟩, -⟩ := id KS
  obtain ⟨KPa, ⟨KPb, KPc, KPd⟩, -⟩ := id KP
  obtain ⟨KTa, ⟨KTb, KTc, KTd⟩, -⟩ := id KT
  obtain ⟨KQa, ⟨KQb, KQc, KQd⟩, -⟩ := id KQ
  go_wp2_with fail
  refine (PF.out _ _ _ _ _ _ _ _ _ _ _ _ _ _ S.inI S'.inI B.inI B'.inI).mono ?_
  rintro e w10 ⟨rfl, hb10⟩
  clear KAa KAb KAc KAd KBa KBb KBc KBd KCa KCb KCc KCd KSa KSb KSc KSd KPa KPb KPc KPd KTa KTb KTc KTd KQa KQb KQc KQd
  replace X := X.later hb10
  replace Y := Y.later hb10
  replace U := U.later hb10
  replace V := V.later hb10
  replace P := P.later hb10
  replace Q := Q.later hb10
  replace S := S.later hb10
  replace S' := S'.later hb10
  replace T := T.later hb10
  replace T' := T'.later hb10
  replace B := B.later hb10
  replace B' := B'.later hb10
  replace C := C.later hb10
  replace C' := C'.later hb10
  replace KA := KA.old hb10
  replace KB := KB.old hb10
  replace KC := KC.old hb10
  replace KS := KS.old hb10
  replace KP := KP.old hb10
  replace KT := KT.old hb10
  replace KQ := KQ.old hb10
  replace hB := old_trans hB hb10
  clear hb10
  obtain ⟨KAa, ⟨KAb, KAc, KAd⟩, -⟩ := id KA
  obtain ⟨KBa, ⟨KBb, KBc, KBd⟩, -⟩ := id KB
  obtain ⟨KCa, ⟨KCb, KCc, KCd⟩, -⟩ := id KC
  obtain ⟨KSa, ⟨KSb, KSc, KSd⟩, -⟩ := id KS
  obtain ⟨KPa, ⟨KPb, KPc, KPd⟩, -⟩ := id KP
  obtain ⟨KTa, ⟨KTb, KTc, KTd⟩, -⟩ := id KT
  obtain ⟨KQa, ⟨KQb, KQc, KQd⟩, -⟩ := id KQ
  go_wp2_with fail
  refine (PF.out _ _ _ _ _ _ _ _ _ _ _ _ _ _ T.inI T'.inI C.inI C'.inI).mono ?_
  rintro e w11 ⟨rfl, hb11⟩
  clear KAa KAb KAc KAd KBa KBb KBc KBd KCa KCb KCc KCd KSa KSb KSc KSd KPa KPb KPc KPd KTa KTb KTc KTd KQa KQb KQc KQd
  replace X := X.later hb11
  replace Y := Y.later hb11
  replace U := U.later hb11
  replace V := V.later hb11
  replace P := P.later hb11
  replace Q := Q.later hb11
  replace S := S.later hb11
  replace S' := S'.later hb11
  replace T := T.later hb11
  replace T' := T'.later hb11
  replace B := B.later hb11
  replace B' := B'.later hb11
  replace C := C.later hb11
  replace C' := C'.later hb11
  replace KA := KA.old hb11
  replace KB := KB.old hb11
  replace KC := KC.old hb11
  replace KS := KS.old hb11
  replace KP := KP.old hb11
  replace KT := KT.old hb11
  replace KQ := KQ.old hb11
  replace hB := old_trans hB hb11
  clear hb11
  obtain ⟨KAa, ⟨KAb, KAc, KAd⟩, -⟩ := id KA
  obtain ⟨KBa, ⟨KBb, KBc, KBd⟩, -⟩ := id KB
  obtain ⟨KCa, ⟨KCb, KCc, KCd⟩, -⟩ := id KC
  obtain ⟨KSa, ⟨KSb, KSc, KSd⟩, -⟩ := id KS
  obtain ⟨KPa, ⟨KPb, KPc, KPd⟩, -⟩ := id KP
  obtain ⟨KTa, ⟨KTb, KTc, KTd⟩, -⟩ := id KT
  obtain ⟨KQa, ⟨KQb, KQc, KQd⟩, -⟩ := id KQ
  clear KAa KAb KAc KAd KBa KBb KBc KBd KCa KCb KCc KCd KSa KSb KSc KSd KPa KPb KPc KPd KTa KTb KTc KTd KQa KQb KQc KQd
  clear B B' C C' KT KQ
  obtain ⟨KAa, ⟨KAb, KAc, KAd⟩, -⟩ := id KA
  obtain ⟨KBa, ⟨KBb, KBc, KBd⟩, -⟩ := id KB
  obtain ⟨KCa, ⟨KCb, KCc, KCd⟩, -⟩ := id KC
  obtain ⟨KSa, ⟨KSb, KSc, KSd⟩, -⟩ := id KS
  obtain ⟨KPa, ⟨KPb, KPc, KPd⟩, -⟩ := id KP
  go_wp2_with fail
  refine (Y2.out _ _ _ _ _ _ _ _ _ _ _ _ _ S.inI S'.inI U.inI V.inI (TT.out _ hB)).mono ?_
  rintro e w12 ⟨⟨avR, cvR, avR', cvR', rfl, R, R'⟩, hb12⟩
  clear KAa KAb KAc KAd KBa KBb KBc KBd KCa KCb KCc KCd KSa KSb KSc KSd KPa KPb KPc KPd
  replace X := X.later hb12
  replace Y := Y.later hb12
  replace U := U.later hb12
  replace V := V.later hb12
  replace P := P.later hb12
  replace Q := Q.later hb12
  replace S := S.later hb12
  replace S' := S'.later hb12
  replace T := T.later hb12
  replace T' := T'.later hb12
  replace KA := KA.old hb12
  replace KB := KB.old hb12
  replace KC := KC.old hb12
  replace KS := KS.old hb12
  replace KP := KP.old hb12
  replace hB := old_trans hB hb12
  clear hb12
  obtain ⟨KAa, ⟨KAb, KAc, KAd⟩, -⟩ := id KA
  obtain ⟨KBa, ⟨KBb, KBc, KBd⟩, -⟩ := id KB
  obtain ⟨KCa, ⟨KCb, KCc, KCd⟩, -⟩ := id KC
  obtain ⟨KSa, ⟨KSb, KSc, KSd⟩, -⟩ := id KS
  obtain ⟨KPa, ⟨KPb, KPc, KPd⟩, -⟩ := id KP
  have X_f := X
  have Y_f := Y
  have U_f := U
  have V_f := V
  have P_f := P
  have Q_f := Q
  have S_f := S
  have S'_f := S'
  have T_f := T
  have T'_f := T'
  have R_f := R
  have R'_f := R'
  have KA_f := KA
  have KB_f := KB
  have KC_f := KC
  have KS_f := KS
  have KP_f := KP
  have gf := hB.size
  have hf : Below w12.heap.size w12 w12 := Below.refl _ _
  clear KAa KAb KAc KAd KBa KBb KBc KBd KCa KCb KCc KCd KSa KSb KSc KSd KPa KPb KPc KPd
  have KR_ := Cel3.new w12 (.bool ba) (.slice avR xs.length cvR) (.slice avR' ys.length cvR') 25
  have halKR : Below w12.heap.size w12 (w12.alloc (.cells #[.bool ba, .slice avR xs.length cvR, .slice avR' ys.length cvR'] 25)) := old_alloc (Below.refl _ _) _
  replace X := X.later halKR
  replace Y := Y.later halKR
  replace U := U.later halKR
  replace V := V.later halKR
  replace P := P.later halKR
  replace Q := Q.later halKR
  replace S := S.later halKR
  replace S' := S'.later halKR
  replace T := T.later halKR
  replace T' := T'.later halKR
  replace R := R.later halKR
  replace R' := R'.later halKR
  replace KA := KA.old halKR
  replace KB := KB.old halKR
  replace KC := KC.old halKR
  replace KS := KS.old halKR
  replace KP := KP.old halKR
  replace hf := old_trans hf halKR
  replace hB := old_trans hB halKR
  clear halKR
  have KR := KR_
  clear KR_
  obtain ⟨KAa, ⟨KAb, KAc, KAd⟩, -⟩ := id KA
  obtain ⟨KBa, ⟨KBb, KBc, KBd⟩, -⟩ := id KB
  obtain ⟨KCa, ⟨KCb, KCc, KCd⟩, -⟩ := id KC
  obtain ⟨KSa, ⟨KSb, KSc, KSd⟩, -⟩ := id KS
  obtain ⟨KPa, ⟨KPb, KPc, KPd⟩, -⟩ := id KP
  obtain ⟨KRa, ⟨KRb, KRc, KRd⟩, -⟩ := id KR
  go_wp2_with fail
  refine (PF.out _ _ _ _ _ _ _ _ _ _ _ _ _ _ R.inI R'.inI X.inI Y.inI).mono ?_
  rintro e w13 ⟨rfl, hb13⟩
  clear KAa KAb KAc KAd KBa KBb KBc KBd KCa KCb KCc KCd KSa KSb KSc KSd KPa KPb KPc KPd KRa KRb KRc KRd
  replace X := X.later hb13
  replace Y := Y.later hb13
  replace U := U.later hb13
  replace V := V.later hb13
  replace P := P.later hb13
  replace Q := Q.later hb13
  replace S := S.later hb13
  replace S' := S'.later hb13
  replace T := T.later hb13
  replace T' := T'.later hb13
  replace R := R.later hb13
  replace R' := R'.later hb13
  replace KA := KA.old hb13
  replace KB := KB.old hb13
  replace KC := KC.old hb13
  replace KS := KS.old hb13
  replace KP := KP.old hb13
  replace KR := KR.old hb13
  replace hf := old_trans hf hb13
  replace hB := old_trans hB hb13
  clear hb13
  obtain ⟨KAa, ⟨KAb, KAc, KAd⟩, -⟩ := id KA
  obtain ⟨KBa, ⟨KBb, KBc, KBd⟩, -⟩ := id KB
  obtain ⟨KCa, ⟨KCb, KCc, KCd⟩, -⟩ := id KC
  obtain ⟨KSa, ⟨KSb, KSc, KSd⟩, -⟩ := id KS
  obtain ⟨KPa, ⟨KPb, KPc, KPd⟩, -⟩ := id KP
  obtain ⟨KRa, ⟨KRb, KRc, KRd⟩, -⟩ := id KR
  go_wp2_with fail
  refine (SG.out _ _ _ _ _ U.inI V.inI (TT.out _ hB)).mono ?_
  rintro e w14 ⟨rfl, hb14⟩
  clear KAa KAb KAc KAd KBa KBb KBc KBd KCa KCb KCc KCd KSa KSb KSc KSd KPa KPb KPc KPd KRa KRb KRc KRd
  replace X := X.later hb14
  replace Y := Y.later hb14
  replace U := U.later hb14
  replace V := V.later hb14
  replace P := P.later hb14
  replace Q := Q.later hb14
  replace S := S.later hb14
  replace S' := S'.later hb14
  replace T := T.later hb14
  replace T' := T'.later hb14
  replace R := R.later hb14
  replace R' := R'.later hb14
  replace KA := KA.old hb14
  replace KB := KB.old hb14
  replace KC := KC.old hb14
  replace KS := KS.old hb14
  replace KP := KP.old hb14
  replace KR := KR.old hb14
  replace hf := old_trans hf hb14
  replace hB := old_trans hB hb14
  clear hb14
  obtain ⟨KAa, ⟨KAb, KAc, KAd⟩, -⟩ := id KA
  obtain ⟨KBa, ⟨KBb, KBc, KBd⟩, -⟩ := id KB
  obtain ⟨KCa, ⟨KCb, KCc, KCd⟩, -⟩ := id KC
  obtain ⟨KSa, ⟨KSb, KSc, KSd⟩, -⟩ := id KS
  obtain ⟨KPa, ⟨KPb, KPc, KPd⟩, -⟩ := id KP
  obtain ⟨KRa, ⟨KRb, KRc, KRd⟩, -⟩ := id KR
  clear SG Y0 Y1 Y2
  by_cases hm0 : m = 0
  · as_aux_lemma =>
    subst hm0
    clear X_f Y_f U_f V_f P_f Q_f S_f S'_f T_f T'_f R_f R'_f KA_f KB_f KC_f KS_f KP_f hf gf
    clear KAa KAb KAc KAd KBa KBb KBc KBd KCa KCb KCc KCd KSa KSb KSc KSd KPa KPb KPc KPd KRa KRb KRc KRd
    clear R R' KR
    obtain ⟨KAa, ⟨KAb, KAc, KAd⟩, -⟩ := id KA
    obtain ⟨KBa, ⟨KBb, KBc, KBd⟩, -⟩ := id KB
    obtain ⟨KCa, ⟨KCb, KCc, KCd⟩, -⟩ := id KC
    obtain ⟨KSa, ⟨KSb, KSc, KSd⟩, -⟩ := id KS
    obtain ⟨KPa, ⟨KPb, KPc, KPd⟩, -⟩ := id KP
    clear DV
    go_wp2_with fail
    refine (I3.out _ _ _ _ _ _ _ _ _ _ _ _ _ U.inI V.inI P.inI Q.inI (TT.out _ hB)).mono ?_
    rintro e w15 ⟨⟨avG, cvG, avG', cvG', rfl, G, G'⟩, hb15⟩
    clear KAa KAb KAc KAd KBa KBb KBc KBd KCa KCb KCc KCd KSa KSb KSc KSd KPa KPb KPc KPd
    replace X := X.later hb15
    replace Y := Y.later hb15
    replace U := U.later hb15
    replace V := V.later hb15
    replace P := P.later hb15
    replace Q := Q.later hb15
    replace S := S.later hb15
    replace S' := S'.later hb15
    replace T := T.later hb15
    replace T' := T'.later hb15
    replace KA := KA.old hb15
    replace KB := KB.old hb15
    replace KC := KC.old hb15
    replace KS := KS.old hb15
    replace KP := KP.old hb15
    replace hB := old_trans hB hb15
    clear hb15
    obtain ⟨KAa, ⟨KAb, KAc, KAd⟩, -⟩ := id KA
    obtain ⟨KBa, ⟨KBb, KBc, KBd⟩, -⟩ := id KB
    obtain ⟨KCa, ⟨KCb, KCc, KCd⟩, -⟩ := id KC
    obtain ⟨KSa, ⟨KSb, KSc, KSd⟩, -⟩ := id KS
    obtain ⟨KPa, ⟨KPb, KPc, KPd⟩, -⟩ := id KP
    clear KAa KAb KAc KAd KBa KBb KBc KBd KCa KCb KCc KCd KSa KSb KSc KSd KPa KPb KPc KPd
    have KG_ := Cel3.new w15 (.bool s3) (.slice avG t3.length cvG) (.slice avG' u3.length cvG') 25
    have halKG : Below w15.heap.size w15 (w15.alloc (.cells #[.bool s3, .slice avG t3.length cvG, .slice avG' u3.length cvG'] 25)) := old_alloc (Below.refl _ _) _
    replace X := X.later halKG
    replace Y := Y.later halKG
    replace U := U.later halKG
    replace V := V.later halKG
    replace P := P.later halKG
    replace Q := Q.later halKG
    replace S := S.later halKG
    replace S' := S'.later halKG
    replace T := T.later halKG
    replace T' := T'.later halKG
    replace G := G.later halKG
    replace G' := G'.later halKG
    replace KA := KA.old halKG
    replace KB := KB.old halKG
    replace KC := KC.old halKG
    replace KS := KS.old halKG
    replace KP := KP.old halKG
    replace hB := old_trans hB halKG
    clear halKG
    have KG := KG_
    clear KG_
    obtain ⟨KAa, ⟨KAb, KAc, KAd⟩, -⟩ := id KA
    obtain ⟨KBa, ⟨KBb, KBc, KBd⟩, -⟩ := id KB
    obtain ⟨KCa, ⟨KCb, KCc, KCd⟩, -⟩ := id KC
    obtain ⟨KSa, ⟨KSb, KSc, KSd⟩, -⟩ := id KS
    obtain ⟨KPa, ⟨KPb, KPc, KPd⟩, -⟩ := id KP
    obtain ⟨KGa, ⟨KGb, KGc, KGd⟩, -⟩ := id KG
    go_wp2_with fail
    refine (I4.out _ _ _ _ _ _ _ _ _ _ _ _ _ U.inI V.inI P.inI Q.inI (TT.out _ hB)).mono ?_
    rintro e w16 ⟨⟨avM, cvM, avM', cvM', rfl, M, M'⟩, hb16⟩
    clear KAa KAb KAc KAd KBa KBb KBc KBd KCa KCb KCc KCd KSa KSb KSc KSd KPa KPb KPc KPd KGa KGb KGc KGd
    replace X := X.later hb16
    replace Y := Y.later hb16
    replace U := U.later hb16
    replace V := V.later hb16
    replace P := P.later hb16
    replace Q := Q.later hb16
    replace S := S.later hb16
    replace S' := S'.later hb16
    replace T := T.later hb16
    replace T' := T'.later hb16
    replace G := G.later hb16
    replace G' := G'.later hb16
    replace KA := KA.old hb16
    replace KB := KB.old hb16
    replace KC := KC.old hb16
    replace KS := KS.old hb16
    replace KP := KP.old hb16
    replace KG := KG.old hb16
    replace hB := old_trans hB hb16
    clear hb16
    obtain ⟨KAa, ⟨KAb, KAc, KAd⟩, -⟩ := id KA
    obtain ⟨KBa, ⟨KBb, KBc, KBd⟩, -⟩ := id KB
    obtain ⟨KCa, ⟨KCb, KCc, KCd⟩, -⟩ := id KC
    obtain ⟨KSa, ⟨KSb, KSc, KSd⟩, -⟩ := id KS
    obtain ⟨KPa, ⟨KPb, KPc, KPd⟩, -⟩ := id KP
    obtain ⟨KGa, ⟨KGb, KGc, KGd⟩, -⟩ := id KG
    clear KAa KAb KAc KAd KBa KBb KBc KBd KCa KCb KCc KCd KSa KSb KSc KSd KPa KPb KPc KPd KGa KGb KGc KGd
    have KM_ := Cel3.new w16 (.bool s4) (.slice avM t4.length cvM) (.slice avM' u4.length cvM') 25
    have halKM : Below w16.heap.size w16 (w16.alloc (.cells #[.bool s4, .slice avM t4.length cvM, .slice avM' u4.length cvM'] 25)) := old_alloc (Below.refl _ _) _
    replace X := X.later halKM
    replace Y := Y.later halKM
    replace U := U.later halKM
    replace V := V.later halKM
    replace P := P.later halKM
    replace Q := Q.later halKM
    replace S := S.later halKM
    replace S' := S'.later halKM
    replace T := T.later halKM
    replace T' := T'.later halKM
    replace G := G.later halKM
    replace G' := G'.later halKM
    replace M := M.later halKM
    replace M' := M'.later halKM
    replace KA := KA.old halKM
    replace KB := KB.old halKM
    replace KC := KC.old halKM
    replace KS := KS.old halKM
    replace KP := KP.old halKM
    replace KG := KG.old halKM
    replace hB := old_trans hB halKM
    clear halKM
    have KM := KM_
    clear KM_
    obtain ⟨KAa, ⟨KAb, KAc, KAd⟩, -⟩ := id KA
    obtain ⟨KBa, ⟨KBb, KBc, KBd⟩, -⟩ := id KB
    obtain ⟨KCa, ⟨KCb, KCc, KCd⟩, -⟩ := id KC
    obtain ⟨KSa, ⟨KSb, KSc, KSd⟩, -⟩ := id KS
    obtain ⟨KPa, ⟨KPb, KPc, KPd⟩, -⟩ := id KP
    obtain ⟨KGa, ⟨KGb, KGc, KGd⟩, -⟩ := id KG
    obtain ⟨KMa, ⟨KMb, KMc, KMd⟩, -⟩ := id KM
    go_wp2_with fail
    refine (I5.out _ _ _ _ _ _ _ _ _ _ _ _ _ X.inI Y.inI P.inI Q.inI (TT.out _ hB)).mono ?_
    rintro e w17 ⟨⟨avN, cvN, avN', cvN', rfl, N, N'⟩, hb17⟩
    clear KAa KAb KAc KAd KBa KBb KBc KBd KCa KCb KCc KCd KSa KSb KSc KSd KPa KPb KPc KPd KGa KGb KGc KGd KMa KMb KMc KMd
    replace X := X.later hb17
    replace Y := Y.later hb17
    replace U := U.later hb17
    replace V := V.later hb17
    replace P := P.later hb17
    replace Q := Q.later hb17
    replace S := S.later hb17
    replace S' := S'.later hb17
    replace T := T.later hb17
    replace T' := T'.later hb17
    replace G := G.later hb17
    replace G' := G'.later hb17
    replace M := M.later hb17
    replace M' := M'.later hb17
    replace KA := KA.old hb17
    replace KB := KB.old hb17
    replace KC := KC.old hb17
    replace KS := KS.old hb17
    replace KP := KP.old hb17
    replace KG := KG.old hb17
    replace KM := KM.old hb17
    replace hB := old_trans hB hb17
    clear hb17
    obtain ⟨KAa, ⟨KAb, KAc, KAd⟩, -⟩ := id KA
    obtain ⟨KBa, ⟨KBb, KBc, KBd⟩, -⟩ := id KB
    obtain ⟨KCa, ⟨KCb, KCc, KCd⟩, -⟩ := id KC
    obtain ⟨KSa, ⟨KSb, KSc, KSd⟩, -⟩ := id KS
    obtain ⟨KPa, ⟨KPb, KPc, KPd⟩, -⟩ := id KP
    obtain ⟨KGa, ⟨KGb, KGc, KGd⟩, -⟩ := id KG
    obtain ⟨KMa, ⟨KMb, KMc, KMd⟩, -⟩ := id KM
    clear KAa KAb KAc KAd KBa KBb KBc KBd KCa KCb KCc KCd KSa KSb KSc KSd KPa KPb KPc KPd KGa KGb KGc KGd KMa KMb KMc KMd
    have KN_ := Cel3.new w17 (.bool s5) (.slice avN t5.length cvN) (.slice avN' u5.length cvN') 25
    have halKN : Below w17.heap.size w17 (w17.alloc (.cells #[.bool s5, .slice avN t5.length cvN, .slice avN' u5.length cvN'] 25)) := old_alloc (Below.refl _ _) _
    replace X := X.later halKN
    replace Y := Y.later halKN
    replace U := U.later halKN
    replace V := V.later halKN
    replace P := P.later halKN
    replace Q := Q.later halKN
    replace S := S.later halKN
    replace S' := S'.later halKN
    replace T := T.later halKN
    replace T' := T'.later halKN
    replace G := G.later halKN
    replace G' := G'.later halKN
    replace M := M.later halKN
    replace M' := M'.later halKN
    replace N := N.later halKN
    replace N' := N'.later halKN
    replace KA := KA.old halKN
    replace KB := KB.old halKN
    replace KC := KC.old halKN
    replace KS := KS.old halKN
    replace KP := KP.old halKN
    replace KG := KG.old halKN
    replace KM := KM.old halKN
    replace hB := old_trans hB halKN
    clear halKN
    have KN := KN_
    clear KN_
    obtain ⟨KAa, ⟨KAb, KAc, KAd⟩, -⟩ := id KA
    obtain ⟨KBa, ⟨KBb, KBc, KBd⟩, -⟩ := id KB
    obtain ⟨KCa, ⟨KCb, KCc, KCd⟩, -⟩ := id KC
    obtain ⟨KSa, ⟨KSb, KSc, KSd⟩, -⟩ := id KS
    obtain ⟨KPa, ⟨KPb, KPc, KPd⟩, -⟩ := id KP
    obtain ⟨KGa, ⟨KGb, KGc, KGd⟩, -⟩ := id KG
    obtain ⟨KMa, ⟨KMb, KMc, KMd⟩, -⟩ := id KM
    obtain ⟨KNa, ⟨KNb, KNc, KNd⟩, -⟩ := id KN
    clear I3 I4 I5
    cases r3
    · as_aux_lemma =>
      clear Y6
      go_wp2
      go_ret
      exact ⟨rfl, hB⟩
    cases r4
    · as_aux_lemma =>
      clear Y6
      go_wp2
      go_ret
      exact ⟨rfl, hB⟩
    cases r5
    · as_aux_lemma =>
      clear Y6
      go_wp2
      go_ret
      exact ⟨rfl, hB⟩
    obtain ⟨r6, s6, t6, u6, r7, s7, t7, u7, r8, s8, t8, u8, ⟨A6_, B6_⟩, ⟨A7_, B7_⟩, A8_, B8_⟩ := Y6.out rfl rfl rfl
    have A6 := hd A6_
    have B6 := hd B6_
    have A7 := hd A7_
    have B7 := hd B7_
    have A8 := hd A8_
    have B8 := hd B8_
    clear Y6 A6_ B6_ A7_ B7_ A8_ B8_
    clear KAa KAb KAc KAd KBa KBb KBc KBd KCa KCb KCc KCd KSa KSb KSc KSd KPa KPb KPc KPd KGa KGb KGc KGd KMa KMb KMc KMd KNa KNb KNc KNd
    clear U V KB
    obtain ⟨KAa, ⟨KAb, KAc, KAd⟩, -⟩ := id KA
    obtain ⟨KCa, ⟨KCb, KCc, KCd⟩, -⟩ := id KC
    obtain ⟨KSa, ⟨KSb, KSc, KSd⟩, -⟩ := id KS
    obtain ⟨KPa, ⟨KPb, KPc, KPd⟩, -⟩ := id KP
    obtain ⟨KGa, ⟨KGb, KGc, KGd⟩, -⟩ := id KG
    obtain ⟨KMa, ⟨KMb, KMc, KMd⟩, -⟩ := id KM
    obtain ⟨KNa, ⟨KNb, KNc, KNd⟩, -⟩ := id KN
    go_wp2_with fail
    refine (A6.out _ _ _ _ _ _ _ _ _ _ _ _ _ S.inI S'.inI P.inI Q.inI (TT.out _ hB)).mono ?_
    rintro e w18 ⟨⟨avL, cvL, avL', cvL', rfl, L, L'⟩, hb18⟩
    clear KAa KAb KAc KAd KCa KCb KCc KCd KSa KSb KSc KSd KPa KPb KPc KPd KGa KGb KGc KGd KMa KMb KMc KMd KNa KNb KNc KNd
    replace X := X.later hb18
    replace Y := Y.later hb18
    replace P := P.later hb18
    replace Q := Q.later hb18
    replace S := S.later hb18
    replace S' := S'.later hb18
    replace T := T.later hb18
    replace T' := T'.later hb18
    replace G := G.later hb18
    replace G' := G'.later hb18
    replace M := M.later hb18
    replace M' := M'.later hb18
    replace N := N.later hb18
    replace N' := N'.later hb18
    replace KA := KA.old hb18
    replace KC := KC.old hb18
    replace KS := KS.old hb18
    replace KP := KP.old hb18
    replace KG := KG.old hb18
    replace KM := KM.old hb18
    replace KN := KN.old hb18
    replace hB := old_trans hB hb18
    clear hb18
    obtain ⟨KAa, ⟨KAb, KAc, KAd⟩, -⟩ := id KA
    obtain ⟨KCa, ⟨KCb, KCc, KCd⟩, -⟩ := id KC
    obtain ⟨KSa, ⟨KSb, KSc, KSd⟩, -⟩ := id KS
    obtain ⟨KPa, ⟨KPb, KPc, KPd⟩, -⟩ := id KP
    obtain ⟨KGa, ⟨KGb, KGc, KGd⟩, -⟩ := id KG
    obtain ⟨KMa, ⟨KMb, KMc, KMd⟩, -⟩ := id KM
    obtain ⟨KNa, ⟨KNb, KNc, KNd⟩, -⟩ := id KN
    have X_l := X
    have Y_l := Y
    have P_l := P
    have Q_l := Q
    have S_l := S
    have S'_l := S'
    have T_l := T
    have T'_l := T'
    have G_l := G
    have G'_l := G'
    have M_l := M
    have M'_l := M'
    have N_l := N
    have N'_l := N'
    have L_l := L
    have L'_l := L'
    have KA_l := KA
    have KC_l := KC
    have KS_l := KS
    have KP_l := KP
    have KG_l := KG
    have KM_l := KM
    have KN_l := KN
    have gl := hB.size
    have hl : Below w18.heap.size w18 w18 := Below.refl _ _
    clear KAa KAb KAc KAd KCa KCb KCc KCd KSa KSb KSc KSd KPa KPb KPc KPd KGa KGb KGc KGd KMa KMb KMc KMd KNa KNb KNc KNd
    have KL_ := Cel3.new w18 (.bool s6) (.slice avL t6.length cvL) (.slice avL' u6.length cvL') 25
    have halKL : Below w18.heap.size w18 (w18.alloc (.cells #[.bool s6, .slice avL t6.length cvL, .slice avL' u6.length cvL'] 25)) := old_alloc (Below.refl _ _) _
    replace X := X.later halKL
    replace Y := Y.later halKL
    replace P := P.later halKL
    replace Q := Q.later halKL
    replace S := S.later halKL
    replace S' := S'.later halKL
    replace T := T.later halKL
    replace T' := T'.later halKL
    replace G := G.later halKL
    replace G' := G'.later halKL
    replace M := M.later halKL
    replace M' := M'.later halKL
    replace N := N.later halKL
    replace N' := N'.later halKL
    replace L := L.later halKL
    replace L' := L'.later halKL
    replace KA := KA.old halKL
    replace KC := KC.old halKL
    replace KS := KS.old halKL
    replace KP := KP.old halKL
    replace KG := KG.old halKL
    replace KM := KM.old halKL
    replace KN := KN.old halKL
    replace hl := old_trans hl halKL
    replace hB := old_trans hB halKL
    clear halKL
    have KL := KL_
    clear KL_
    obtain ⟨KAa, ⟨KAb, KAc, KAd⟩, -⟩ := id KA
    obtain ⟨KCa, ⟨KCb, KCc, KCd⟩, -⟩ := id KC
    obtain ⟨KSa, ⟨KSb, KSc, KSd⟩, -⟩ := id KS
    obtain ⟨KPa, ⟨KPb, KPc, KPd⟩, -⟩ := id KP
    obtain ⟨KGa, ⟨KGb, KGc, KGd⟩, -⟩ := id KG
    obtain ⟨KMa, ⟨KMb, KMc, KMd⟩, -⟩ := id KM
    obtain ⟨KNa, ⟨KNb, KNc, KNd⟩, -⟩ := id KN
    obtain ⟨KLa, ⟨KLb, KLc, KLd⟩, -⟩ := id KL
    go_wp2_with fail
    refine (B6.out _ _ _ _ _ _ _ _ _ _ _ _ _ X.inI Y.inI G.inI G'.inI (TT.out _ hB)).mono ?_
    rintro e w19 ⟨⟨avO, cvO, avO', cvO', rfl, O, O'⟩, hb19⟩
    clear KAa KAb KAc KAd KCa KCb KCc KCd KSa KSb KSc KSd KPa KPb KPc KPd KGa KGb KGc KGd KMa KMb KMc KMd KNa KNb KNc KNd KLa KLb KLc KLd
    replace X := X.later hb19
    replace Y := Y.later hb19
    replace P := P.later hb19
    replace Q := Q.later hb19
    replace S := S.later hb19
    replace S' := S'.later hb19
    replace T := T.later hb19
    replace T' := T'.later hb19
    replace G := G.later hb19
    replace G' := G'.later hb19
    replace M := M.later hb19
    replace M' := M'.later hb19
    replace N := N.later hb19
    replace N' := N'.later hb19
    replace L := L.later hb19
    replace L' := L'.later hb19
    replace KA := KA.old hb19
    replace KC := KC.old hb19
    replace KS := KS.old hb19
    replace KP := KP.old hb19
    replace KG := KG.old hb19
    replace KM := KM.old hb19
    replace KN := KN.old hb19
    replace KL := KL.old hb19
    replace hl := old_trans hl hb19
    replace hB := old_trans hB hb19
    clear hb19
    obtain ⟨KAa, ⟨KAb, KAc, KAd⟩, -⟩ := id KA
    obtain ⟨KCa, ⟨KCb, KCc, KCd⟩, -⟩ := id KC
    obtain ⟨KSa, ⟨KSb, KSc, KSd⟩, -⟩ := id KS
    obtain ⟨KPa, ⟨KPb, KPc, KPd⟩, -⟩ := id KP
    obtain ⟨KGa, ⟨KGb, KGc, KGd⟩, -⟩ := id KG
    obtain ⟨KMa, ⟨KMb, KMc, KMd⟩, -⟩ := id KM
    obtain ⟨KNa, ⟨KNb, KNc, KNd⟩, -⟩ := id KN
    obtain ⟨KLa, ⟨KLb, KLc, KLd⟩, -⟩ := id KL
    have nlo : w18.heap.size ≠ w19.heap.size := Nat.ne_of_lt KL.1
    have glo : w18.heap.size ≤ w19.heap.size := Nat.le_of_lt KL.1
    clear KAa KAb KAc KAd KCa KCb KCc KCd KSa KSb KSc KSd KPa KPb KPc KPd KGa KGb KGc KGd KMa KMb KMc KMd KNa KNb KNc KNd KLa KLb KLc KLd
    have KO_ := Cel3.new w19 (.bool s6) (.slice avO t6.length cvO) (.slice avO' u6.length cvO') 25
    have halKO : Below w19.heap.size w19 (w19.alloc (.cells #[.bool s6, .slice avO t6.length cvO, .slice avO' u6.length cvO'] 25)) := old_alloc (Below.refl _ _) _
    replace X := X.later halKO
    replace Y := Y.later halKO
    replace P := P.later halKO
    replace Q := Q.later halKO
    replace S := S.later halKO
    replace S' := S'.later halKO
    replace T := T.later halKO
    replace T' := T'.later halKO
    replace G := G.later halKO
    replace G' := G'.later halKO
    replace M := M.later halKO
    replace M' := M'.later halKO
    replace N := N.later halKO
    replace N' := N'.later halKO
    replace L := L.later halKO
    replace L' := L'.later halKO
    replace O := O.later halKO
    replace O' := O'.later halKO
    replace KA := KA.old halKO
    replace KC := KC.old halKO
    replace KS := KS.old halKO
    replace KP := KP.old halKO
    replace KG := KG.old halKO
    replace KM := KM.old halKO
    replace KN := KN.old halKO
    replace KL := KL.old halKO
    replace hl := old_trans hl halKO
    replace hB := old_trans hB halKO
    clear halKO
    have KO := KO_
    clear KO_
    obtain ⟨KAa, ⟨KAb, KAc, KAd⟩, -⟩ := id KA
    obtain ⟨KCa, ⟨KCb, KCc, KCd⟩, -⟩ := id KC
    obtain ⟨KSa, ⟨KSb, KSc, KSd⟩, -⟩ := id KS
    obtain ⟨KPa, ⟨KPb, KPc, KPd⟩, -⟩ := id KP
    obtain ⟨KGa, ⟨KGb, KGc, KGd⟩, -⟩ := id KG
    obtain ⟨KMa, ⟨KMb, KMc, KMd⟩, -⟩ := id KM
    obtain ⟨KNa, ⟨KNb, KNc, KNd⟩, -⟩ := id KN
    obtain ⟨KLa, ⟨KLb, KLc, KLd⟩, -⟩ := id KL
    obtain ⟨KOa, ⟨KOb, KOc, KOd⟩, -⟩ := id KO
    cases r6
    · as_aux_lemma =>
      clear L L' O O'
      have lL := KL.1
      have lO := KO.1
      go_wp2_with fail
      refine (A7.out _ _ _ _ _ _ _ _ _ _ _ _ _ T.inI T'.inI P.inI Q.inI (TT.out _ hB)).mono ?_
      rintro e w20 ⟨⟨avL, cvL, avL', cvL', rfl, L, L'⟩, hb20⟩
      clear KAa KAb KAc KAd KCa KCb KCc KCd KSa KSb KSc KSd KPa KPb KPc KPd KGa KGb KGc KGd KMa KMb KMc KMd KNa KNb KNc KNd KLa KLb KLc KLd KOa KOb KOc KOd
      replace X := X.later hb20
      replace Y := Y.later hb20
      replace P := P.later hb20
      replace Q := Q.later hb20
      replace S := S.later hb20
      replace S' := S'.later hb20
      replace T := T.later hb20
      replace T' := T'.later hb20
      replace G := G.later hb20
      replace G' := G'.later hb20
      replace M := M.later hb20
      replace M' := M'.later hb20
      replace N := N.later hb20
      replace N' := N'.later hb20
      replace KA := KA.old hb20
      replace KC := KC.old hb20
      replace KS := KS.old hb20
      replace KP := KP.old hb20
      replace KG := KG.old hb20
      replace KM := KM.old hb20
      replace KN := KN.old hb20
      replace KL := KL.old hb20
      replace KO := KO.old hb20
      replace hl := old_trans hl hb20
      replace hB := old_trans hB hb20
      clear hb20
      obtain ⟨KAa, ⟨KAb, KAc, KAd⟩, -⟩ := id KA
      obtain ⟨KCa, ⟨KCb, KCc, KCd⟩, -⟩ := id KC
      obtain ⟨KSa, ⟨KSb, KSc, KSd⟩, -⟩ := id KS
      obtain ⟨KPa, ⟨KPb, KPc, KPd⟩, -⟩ := id KP
      obtain ⟨KGa, ⟨KGb, KGc, KGd⟩, -⟩ := id KG
      obtain ⟨KMa, ⟨KMb, KMc, KMd⟩, -⟩ := id KM
      obtain ⟨KNa, ⟨KNb, KNc, KNd⟩, -⟩ := id KN
      obtain ⟨KLa, ⟨KLb, KLc, KLd⟩, -⟩ := id KL
      obtain ⟨KOa, ⟨KOb, KOc, KOd⟩, -⟩ := id KO
      clear KAa KAb KAc KAd KCa KCb KCc KCd KSa KSb KSc KSd KPa KPb KPc KPd KGa KGb KGc KGd KMa KMb KMc KMd KNa KNb KNc KNd KLa KLb KLc KLd KOa KOb KOc KOd
      obtain ⟨ka, ⟨kb, kc, kd⟩, fz0, fz1, fz2⟩ := id KL
      have hst := below_set3 (b := w18.heap.size) (v0 := (.bool s7)) (v1 := (.slice avL t7.length cvL)) (v2 := (.slice avL' u7.length cvL')) hl (Nat.le_refl _)
      replace hB := below_set3 (b := w18.heap.size) (v0 := (.bool s7)) (v1 := (.slice avL t7.length cvL)) (v2 := (.slice avL' u7.length cvL')) hB (Nat.le_trans gl (Nat.le_refl _))
      replace X := X_l.later hst
      replace Y := Y_l.later hst
      replace P := P_l.later hst
      replace Q := Q_l.later hst
      replace S := S_l.later hst
      replace S' := S'_l.later hst
      replace T := T_l.later hst
      replace T' := T'_l.later hst
      replace G := G_l.later hst
      replace G' := G'_l.later hst
      replace M := M_l.later hst
      replace M' := M'_l.later hst
      replace N := N_l.later hst
      replace N' := N'_l.later hst
      replace KA := KA_l.old hst
      replace KC := KC_l.old hst
      replace KS := KS_l.old hst
      replace KP := KP_l.old hst
      replace KG := KG_l.old hst
      replace KM := KM_l.old hst
      replace KN := KN_l.old hst
      replace L := oi_set3 (v0 := (.bool s7)) (v1 := (.slice avL t7.length cvL)) (v2 := (.slice avL' u7.length cvL')) L lL
      replace L' := oi_set3 (v0 := (.bool s7)) (v1 := (.slice avL t7.length cvL)) (v2 := (.slice avL' u7.length cvL')) L' lL
      replace KO := Cel3.far3 (x := (.bool s7)) (y := (.slice avL t7.length cvL)) (z := (.slice avL' u7.length cvL')) KO nlo.symm
      replace KL := KL.setAll (.bool s7) (.slice avL t7.length cvL) (.slice avL' u7.length cvL')
      clear hl
      have hl := hst
      clear hst
      obtain ⟨KAa, ⟨KAb, KAc, KAd⟩, -⟩ := id KA
      obtain ⟨KCa, ⟨KCb, KCc, KCd⟩, -⟩ := id KC
      obtain ⟨KSa, ⟨KSb, KSc, KSd⟩, -⟩ := id KS
      obtain ⟨KPa, ⟨KPb, KPc, KPd⟩, -⟩ := id KP
      obtain ⟨KGa, ⟨KGb, KGc, KGd⟩, -⟩ := id KG
      obtain ⟨KMa, ⟨KMb, KMc, KMd⟩, -⟩ := id KM
      obtain ⟨KNa, ⟨KNb, KNc, KNd⟩, -⟩ := id KN
      obtain ⟨KLa, ⟨KLb, KLc, KLd⟩, -⟩ := id KL
      obtain ⟨KOa, ⟨KOb, KOc, KOd⟩, -⟩ := id KO
      have lP := KO.1
      go_wp2_with fail
      refine (B7.out _ _ _ _ _ _ _ _ _ _ _ _ _ X.inI Y.inI M.inI M'.inI (TT.out _ hB)).mono ?_
      rintro e w21 ⟨⟨avO, cvO, avO', cvO', rfl, O, O'⟩, hb21⟩
      clear ka kb kc kd fz0 fz1 fz2
      clear KAa KAb KAc KAd KCa KCb KCc KCd KSa KSb KSc KSd KPa KPb KPc KPd KGa KGb KGc KGd KMa KMb KMc KMd KNa KNb KNc KNd KLa KLb KLc KLd KOa KOb KOc KOd
      replace X := X.later hb21
      replace Y := Y.later hb21
      replace P := P.later hb21
      replace Q := Q.later hb21
      replace S := S.later hb21
      replace S' := S'.later hb21
      replace T := T.later hb21
      replace T' := T'.later hb21
      replace G := G.later hb21
      replace G' := G'.later hb21
      replace M := M.later hb21
      replace M' := M'.later hb21
      replace N := N.later hb21
      replace N' := N'.later hb21
      replace L := L.later hb21
      replace L' := L'.later hb21
      replace KA := KA.old hb21
      replace KC := KC.old hb21
      replace KS := KS.old hb21
      replace KP := KP.old hb21
      replace KG := KG.old hb21
      replace KM := KM.old hb21
      replace KN := KN.old hb21
      replace KL := KL.old hb21
      replace KO := KO.old hb21
      replace hl := old_trans hl hb21
      replace hB := old_trans hB hb21
      clear hb21
      obtain ⟨KAa, ⟨KAb, KAc, KAd⟩, -⟩ := id KA
      obtain ⟨KCa, ⟨KCb, KCc, KCd⟩, -⟩ := id KC
      obtain ⟨KSa, ⟨KSb, KSc, KSd⟩, -⟩ := id KS
      obtain ⟨KPa, ⟨KPb, KPc, KPd⟩, -⟩ := id KP
      obtain ⟨KGa, ⟨KGb, KGc, KGd⟩, -⟩ := id KG
      obtain ⟨KMa, ⟨KMb, KMc, KMd⟩, -⟩ := id KM
      obtain ⟨KNa, ⟨KNb, KNc, KNd⟩, -⟩ := id KN
      obtain ⟨KLa, ⟨KLb, KLc, KLd⟩, -⟩ := id KL
      obtain ⟨KOa, ⟨KOb, KOc, KOd⟩, -⟩ := id KO
      clear KAa KAb KAc KAd KCa KCb KCc KCd KSa KSb KSc KSd KPa KPb KPc KPd KGa KGb KGc KGd KMa KMb KMc KMd KNa KNb KNc KNd KLa KLb KLc KLd KOa KOb KOc KOd
      obtain ⟨ka, ⟨kb, kc, kd⟩, fz0, fz1, fz2⟩ := id KO
      have hst := below_set3 (b := w19.heap.size) (v0 := (.bool s7)) (v1 := (.slice avO t7.length cvO)) (v2 := (.slice avO' u7.length cvO')) hl glo
      replace hB := below_set3 (b := w19.heap.size) (v0 := (.bool s7)) (v1 := (.slice avO t7.length cvO)) (v2 := (.slice avO' u7.length cvO')) hB (Nat.le_trans gl glo)
      replace X := X_l.later hst
      replace Y := Y_l.later hst
      replace P := P_l.later hst
      replace Q := Q_l.later hst
      replace S := S_l.later hst
      replace S' := S'_l.later hst
      replace T := T_l.later hst
      replace T' := T'_l.later hst
      replace G := G_l.later hst
      replace G' := G'_l.later hst
      replace M := M_l.later hst
      replace M' := M'_l.later hst
      replace N := N_l.later hst
      replace N' := N'_l.later hst
      replace KA := KA_l.old hst
      replace KC := KC_l.old hst
      replace KS := KS_l.old hst
      replace KP := KP_l.old hst
      replace KG := KG_l.old hst
      replace KM := KM_l.old hst
      replace KN := KN_l.old hst
      replace L := oi_set3 (v0 := (.bool s7)) (v1 := (.slice avO t7.length cvO)) (v2 := (.slice avO' u7.length cvO')) L lO
      replace L' := oi_set3 (v0 := (.bool s7)) (v1 := (.slice avO t7.length cvO)) (v2 := (.slice avO' u7.length cvO')) L' lO
      replace O := oi_set3 (v0 := (.bool s7)) (v1 := (.slice avO t7.length cvO)) (v2 := (.slice avO' u7.length cvO')) O lP
      replace O' := oi_set3 (v0 := (.bool s7)) (v1 := (.slice avO t7.length cvO)) (v2 := (.slice avO' u7.length cvO')) O' lP
      replace KL := Cel3.far3 (x := (.bool s7)) (y := (.slice avO t7.length cvO)) (z := (.slice avO' u7.length cvO')) KL nlo
      replace KO := KO.setAll (.bool s7) (.slice avO t7.length cvO) (.slice avO' u7.length cvO')
      clear hl
      have hl := hst
      clear hst
      obtain ⟨KAa, ⟨KAb, KAc, KAd⟩, -⟩ := id KA
      obtain ⟨KCa, ⟨KCb, KCc, KCd⟩, -⟩ := id KC
      obtain ⟨KSa, ⟨KSb, KSc, KSd⟩, -⟩ := id KS
      obtain ⟨KPa, ⟨KPb, KPc, KPd⟩, -⟩ := id KP
      obtain ⟨KGa, ⟨KGb, KGc, KGd⟩, -⟩ := id KG
      obtain ⟨KMa, ⟨KMb, KMc, KMd⟩, -⟩ := id KM
      obtain ⟨KNa, ⟨KNb, KNc, KNd⟩, -⟩ := id KN
      obtain ⟨KLa, ⟨KLb, KLc, KLd⟩, -⟩ := id KL
      obtain ⟨KOa, ⟨KOb, KOc, KOd⟩, -⟩ := id KO
      clear lL lO lP
      cases r7
      · as_aux_lemma =>
        clear L L' O O'
        have lL := KL.1
        have lO := KO.1
        go_wp2_with fail
        refine (A8.out _ _ _ _ _ _ _ _ _ _ _ _ _ X.inI Y.inI G.inI G'.inI (TT.out _ hB)).mono ?_
        rintro e w22 ⟨⟨avL, cvL, avL', cvL', rfl, L, L'⟩, hb22⟩
        clear ka kb kc kd fz0 fz1 fz2
        clear KAa KAb KAc KAd KCa KCb KCc KCd KSa KSb KSc KSd KPa KPb KPc KPd KGa KGb KGc KGd KMa KMb KMc KMd KNa KNb KNc KNd KLa KLb KLc KLd KOa KOb KOc KOd
        replace X := X.later hb22
        replace Y := Y.later hb22
        replace P := P.later hb22
        replace Q := Q.later hb22
        replace S := S.later hb22
        replace S' := S'.later hb22
        replace T := T.later hb22
        replace T' := T'.later hb22
        replace G := G.later hb22
        replace G' := G'.later hb22
        replace M := M.later hb22
        replace M' := M'.later hb22
        replace N := N.later hb22
        replace N' := N'.later hb22
        replace KA := KA.old hb22
        replace KC := KC.old hb22
        replace KS := KS.old hb22
        replace KP := KP.old hb22
        replace KG := KG.old hb22
        replace KM := KM.old hb22
        replace KN := KN.old hb22
        replace KL := KL.old hb22
        replace KO := KO.old hb22
        replace hl := old_trans hl hb22
        replace hB := old_trans hB hb22
        clear hb22
        obtain ⟨KAa, ⟨KAb, KAc, KAd⟩, -⟩ := id KA
        obtain ⟨KCa, ⟨KCb, KCc, KCd⟩, -⟩ := id KC
        obtain ⟨KSa, ⟨KSb, KSc, KSd⟩, -⟩ := id KS
        obtain ⟨KPa, ⟨KPb, KPc, KPd⟩, -⟩ := id KP
        obtain ⟨KGa, ⟨KGb, KGc, KGd⟩, -⟩ := id KG
        obtain ⟨KMa, ⟨KMb, KMc, KMd⟩, -⟩ := id KM
        obtain ⟨KNa, ⟨KNb, KNc, KNd⟩, -⟩ := id KN
        obtain ⟨KLa, ⟨KLb, KLc, KLd⟩, -⟩ := id KL
        obtain ⟨KOa, ⟨KOb, KOc, KOd⟩, -⟩ := id KO
        clear KAa KAb KAc KAd KCa KCb KCc KCd KSa KSb KSc KSd KPa KPb KPc KPd KGa KGb KGc KGd KMa KMb KMc KMd KNa KNb KNc KNd KLa KLb KLc KLd KOa KOb KOc KOd
        obtain ⟨ka, ⟨kb, kc, kd⟩, fz0, fz1, fz2⟩ := id KL
        have hst := below_set3 (b := w18.heap.size) (v0 := (.bool s8)) (v1 := (.slice avL t8.length cvL)) (v2 := (.slice avL' u8.length cvL')) hl (Nat.le_refl _)
        replace hB := below_set3 (b := w18.heap.size) (v0 := (.bool s8)) (v1 := (.slice avL t8.length cvL)) (v2 := (.slice avL' u8.length cvL')) hB (Nat.le_trans gl (Nat.le_refl _))
        replace X := X_l.later hst
        replace Y := Y_l.later hst
        replace P := P_l.later hst
        replace Q := Q_l.later hst
        replace S := S_l.later hst
        replace S' := S'_l.later hst
        replace T := T_l.later hst
        replace T' := T'_l.later hst
        replace G := G_l.later hst
        replace G' := G'_l.later hst
        replace M := M_l.later hst
        replace M' := M'_l.later hst
        replace N := N_l.later hst
        replace N' := N'_l.later hst
        replace KA := KA_l.old hst
        replace KC := KC_l.old hst
        replace KS := KS_l.old hst
        replace KP := KP_l.old hst
        replace KG := KG_l.old hst
        replace KM := KM_l.old hst
        replace KN := KN_l.old hst
        replace L := oi_set3 (v0 := (.bool s8)) (v1 := (.slice avL t8.length cvL)) (v2 := (.slice avL' u8.length cvL')) L lL
        replace L' := oi_set3 (v0 := (.bool s8)) (v1 := (.slice avL t8.length cvL)) (v2 := (.slice avL' u8.length cvL')) L' lL
        replace KO := Cel3.far3 (x := (.bool s8)) (y := (.slice avL t8.length cvL)) (z := (.slice avL' u8.length cvL')) KO nlo.symm
        replace KL := KL.setAll (.bool s8) (.slice avL t8.length cvL) (.slice avL' u8.length cvL')
        clear hl
        have hl := hst
        clear hst
        obtain ⟨KAa, ⟨KAb, KAc, KAd⟩, -⟩ := id KA
        obtain ⟨KCa, ⟨KCb, KCc, KCd⟩, -⟩ := id KC
        obtain ⟨KSa, ⟨KSb, KSc, KSd⟩, -⟩ := id KS
        obtain ⟨KPa, ⟨KPb, KPc, KPd⟩, -⟩ := id KP
        obtain ⟨KGa, ⟨KGb, KGc, KGd⟩, -⟩ := id KG
        obtain ⟨KMa, ⟨KMb, KMc, KMd⟩, -⟩ := id KM
        obtain ⟨KNa, ⟨KNb, KNc, KNd⟩, -⟩ := id KN
        obtain ⟨KLa, ⟨KLb, KLc, KLd⟩, -⟩ := id KL
        obtain ⟨KOa, ⟨KOb, KOc, KOd⟩, -⟩ := id KO
        have lP := KO.1
        go_wp2_with fail
        refine (B8.out _ _ _ _ _ _ _ _ _ _ _ _ _ T.inI T'.inI N.inI N'.inI (TT.out _ hB)).mono ?_
        rintro e w23 ⟨⟨avO, cvO, avO', cvO', rfl, O, O'⟩, hb23⟩
        clear ka kb kc kd fz0 fz1 fz2
        clear KAa KAb KAc KAd KCa KCb KCc KCd KSa KSb KSc KSd KPa KPb KPc KPd KGa KGb KGc KGd KMa KMb KMc KMd KNa KNb KNc KNd KLa KLb KLc KLd KOa KOb KOc KOd
        replace X := X.later hb23
        replace Y := Y.later hb23
        replace P := P.later hb23
        replace Q := Q.later hb23
        replace S := S.later hb23
        replace S' := S'.later hb23
        replace T := T.later hb23
        replace T' := T'.later hb23
        replace G := G.later hb23
        replace G' := G'.later hb23
        replace M := M.later hb23
        replace M' := M'.later hb23
        replace N := N.later hb23
        replace N' := N'.later hb23
        replace L := L.later hb23
        replace L' := L'.later hb23
        replace KA := KA.old hb23
        replace KC := KC.old hb23
        replace KS := KS.old hb23
        replace KP := KP.old hb23
        replace KG := KG.old hb23
        replace KM := KM.old hb23
        replace KN := KN.old hb23
        replace KL := KL.old hb23
        replace KO := KO.old hb23
        replace hl := old_trans hl hb23
        replace hB := old_trans hB hb23
        clear hb23
        obtain ⟨KAa, ⟨KAb, KAc, KAd⟩, -⟩ := id KA
        obtain ⟨KCa, ⟨KCb, KCc, KCd⟩, -⟩ := id KC
        obtain ⟨KSa, ⟨KSb, KSc, KSd⟩, -⟩ := id KS
        obtain ⟨KPa, ⟨KPb, KPc, KPd⟩, -⟩ := id KP
        obtain ⟨KGa, ⟨KGb, KGc, KGd⟩, -⟩ := id KG
        obtain ⟨KMa, ⟨KMb, KMc, KMd⟩, -⟩ := id KM
        obtain ⟨KNa, ⟨KNb, KNc, KNd⟩, -⟩ := id KN
        obtain ⟨KLa, ⟨KLb, KLc, KLd⟩, -⟩ := id KL
        obtain ⟨KOa, ⟨KOb, KOc, KOd⟩, -⟩ := id KO
        clear KAa KAb KAc KAd KCa KCb KCc KCd KSa KSb KSc KSd KPa KPb KPc KPd KGa KGb KGc KGd KMa KMb KMc KMd KNa KNb KNc KNd KLa KLb KLc KLd KOa KOb KOc KOd
        obtain ⟨ka, ⟨kb, kc, kd⟩, fz0, fz1, fz2⟩ := id KO
        have hst := below_set3 (b := w19.heap.size) (v0 := (.bool s8)) (v1 := (.slice avO t8.length cvO)) (v2 := (.slice avO' u8.length cvO')) hl glo
        replace hB := below_set3 (b := w19.heap.size) (v0 := (.bool s8)) (v1 := (.slice avO t8.length cvO)) (v2 := (.slice avO' u8.length cvO')) hB (Nat.le_trans gl glo)
        replace X := X_l.later hst
        replace Y := Y_l.later hst
        replace P := P_l.later hst
        replace Q := Q_l.later hst
        replace S := S_l.later hst
        replace S' := S'_l.later hst
        replace T := T_l.later hst
        replace T' := T'_l.later hst
        replace G := G_l.later hst
        replace G' := G'_l.later hst
        replace M := M_l.later hst
        replace M' := M'_l.later hst
        replace N := N_l.later hst
        replace N' := N'_l.later hst
        replace KA := KA_l.old hst
        replace KC := KC_l.old hst
        replace KS := KS_l.old hst
        replace KP := KP_l.old hst
        replace KG := KG_l.old hst
        replace KM := KM_l.old hst
        replace KN := KN_l.old hst
        replace L := oi_set3 (v0 := (.bool s8)) (v1 := (.slice avO t8.length cvO)) (v2 := (.slice avO' u8.length cvO')) L lO
        replace L' := oi_set3 (v0 := (.bool s8)) (v1 := (.slice avO t8.length cvO)) (v2 := (.slice avO' u8.length cvO')) L' lO
        replace O := oi_set3 (v0 := (.bool s8)) (v1 := (.slice avO t8.length cvO)) (v2 := (.slice avO' u8.length cvO')) O lP
        replace O' := oi_set3 (v0 := (.bool s8)) (v1 := (.slice avO t8.length cvO)) (v2 := (.slice avO' u8.length cvO')) O' lP
        replace KL := Cel3.far3 (x := (.bool s8)) (y := (.slice avO t8.length cvO)) (z := (.slice avO' u8.length cvO')) KL nlo
        replace KO := KO.setAll (.bool s8) (.slice avO t8.length cvO) (.slice avO' u8.length cvO')
        clear hl
        have hl := hst
        clear hst
        obtain ⟨KAa, ⟨KAb, KAc, KAd⟩, -⟩ := id KA
        obtain ⟨KCa, ⟨KCb, KCc, KCd⟩, -⟩ := id KC
        obtain ⟨KSa, ⟨KSb, KSc, KSd⟩, -⟩ := id KS
        obtain ⟨KPa, ⟨KPb, KPc, KPd⟩, -⟩ := id KP
        obtain ⟨KGa, ⟨KGb, KGc, KGd⟩, -⟩ := id KG
        obtain ⟨KMa, ⟨KMb, KMc, KMd⟩, -⟩ := id KM
        obtain ⟨KNa, ⟨KNb, KNc, KNd⟩, -⟩ := id KN
        obtain ⟨KLa, ⟨KLb, KLc, KLd⟩, -⟩ := id KL
        obtain ⟨KOa, ⟨KOb, KOc, KOd⟩, -⟩ := id KO
        clear lL lO lP
        cases r8
        · as_aux_lemma =>
          go_wp2
          go_ret
          exact ⟨rfl, hB⟩
        · as_aux_lemma =>
          go_wp2_with fail
          refine (PF.out _ _ _ _ _ _ _ _ _ _ _ _ _ _ L.inI L'.inI O.inI O'.inI).mono ?_
          rintro e w24 ⟨rfl, hb24⟩
          clear ka kb kc kd fz0 fz1 fz2
          clear KAa KAb KAc KAd KCa KCb KCc KCd KSa KSb KSc KSd KPa KPb KPc KPd KGa KGb KGc KGd KMa KMb KMc KMd KNa KNb KNc KNd KLa KLb KLc KLd KOa KOb KOc KOd
          replace X := X.later hb24
          replace Y := Y.later hb24
          replace P := P.later hb24
          replace Q := Q.later hb24
          replace S := S.later hb24
          replace S' := S'.later hb24
          replace T := T.later hb24
          replace T' := T'.later hb24
          replace G := G.later hb24
          replace G' := G'.later hb24
          replace M := M.later hb24
          replace M' := M'.later hb24
          replace N := N.later hb24
          replace N' := N'.later hb24
          replace L := L.later hb24
          replace L' := L'.later hb24
          replace O := O.later hb24
          replace O' := O'.later hb24
          replace KA := KA.old hb24
          replace KC := KC.old hb24
          replace KS := KS.old hb24
          replace KP := KP.old hb24
          replace KG := KG.old hb24
          replace KM := KM.old hb24
          replace KN := KN.old hb24
          replace KL := KL.old hb24
          replace KO := KO.old hb24
          replace hl := old_trans hl hb24
          replace hB := old_trans hB hb24
          clear hb24
          obtain ⟨KAa, ⟨KAb, KAc, KAd⟩, -⟩ := id KA
          obtain ⟨KCa, ⟨KCb, KCc, KCd⟩, -⟩ := id KC
          obtain ⟨KSa, ⟨KSb, KSc, KSd⟩, -⟩ := id KS
          obtain ⟨KPa, ⟨KPb, KPc, KPd⟩, -⟩ := id KP
          obtain ⟨KGa, ⟨KGb, KGc, KGd⟩, -⟩ := id KG
          obtain ⟨KMa, ⟨KMb, KMc, KMd⟩, -⟩ := id KM
          obtain ⟨KNa, ⟨KNb, KNc, KNd⟩, -⟩ := id KN
          obtain ⟨KLa, ⟨KLb, KLc, KLd⟩, -⟩ := id KL
          obtain ⟨KOa, ⟨KOb, KOc, KOd⟩, -⟩ := id KO
          go_wp2
          go_ret
          exact ⟨rfl, hB⟩
      · as_aux_lemma =>
        go_wp2_with fail
        refine (PF.out _ _ _ _ _ _ _ _ _ _ _ _ _ _ L.inI L'.inI O.inI O'.inI).mono ?_
        rintro e w22 ⟨rfl, hb22⟩
        clear ka kb kc kd fz0 fz1 fz2
        clear KAa KAb KAc KAd KCa KCb KCc KCd KSa KSb KSc KSd KPa KPb KPc KPd KGa KGb KGc KGd KMa KMb KMc KMd KNa KNb KNc KNd KLa KLb KLc KLd KOa KOb KOc KOd
        replace X := X.later hb22
        replace Y := Y.later hb22
        replace P := P.later hb22
        replace Q := Q.later hb22
        replace S := S.later hb22
        replace S' := S'.later hb22
        replace T := T.later hb22
        replace T' := T'.later hb22
        replace G := G.later hb22
        replace G' := G'.later hb22
        replace M := M.later hb22
        replace M' := M'.later hb22
        replace N := N.later hb22
        replace N' := N'.later hb22
        replace L := L.later hb22
        replace L' := L'.later hb22
        replace O := O.later hb22
        replace O' := O'.later hb22
        replace KA := KA.old hb22
        replace KC := KC.old hb22
        replace KS := KS.old hb22
        replace KP := KP.old hb22
        replace KG := KG.old hb22
        replace KM := KM.old hb22
        replace KN := KN.old hb22
        replace KL := KL.old hb22
        replace KO := KO.old hb22
        replace hl := old_trans hl hb22
        replace hB := old_trans hB hb22
        clear hb22
        obtain ⟨KAa, ⟨KAb, KAc, KAd⟩, -⟩ := id KA
        obtain ⟨KCa, ⟨KCb, KCc, KCd⟩, -⟩ := id KC
        obtain ⟨KSa, ⟨KSb, KSc, KSd⟩, -⟩ := id KS
        obtain ⟨KPa, ⟨KPb, KPc, KPd⟩, -⟩ := id KP
        obtain ⟨KGa, ⟨KGb, KGc, KGd⟩, -⟩ := id KG
        obtain ⟨KMa, ⟨KMb, KMc, KMd⟩, -⟩ := id KM
        obtain ⟨KNa, ⟨KNb, KNc, KNd⟩, -⟩ := id KN
        obtain ⟨KLa, ⟨KLb, KLc, KLd⟩, -⟩ := id KL
        obtain ⟨KOa, ⟨KOb, KOc, KOd⟩, -⟩ := id KO
        clear L L' O O'
        have lL := KL.1
        have lO := KO.1
        go_wp2_with fail
        refine (A8.out _ _ _ _ _ _ _ _ _ _ _ _ _ X.inI Y.inI G.inI G'.inI (TT.out _ hB)).mono ?_
        rintro e w23 ⟨⟨avL, cvL, avL', cvL', rfl, L, L'⟩, hb23⟩
        clear KAa KAb KAc KAd KCa KCb KCc KCd KSa KSb KSc KSd KPa KPb KPc KPd KGa KGb KGc KGd KMa KMb KMc KMd KNa KNb KNc KNd KLa KLb KLc KLd KOa KOb KOc KOd
        replace X := X.later hb23
        replace Y := Y.later hb23
        replace P := P.later hb23
        replace Q := Q.later hb23
        replace S := S.later hb23
        replace S' := S'.later hb23
        replace T := T.later hb23
        replace T' := T'.later hb23
        replace G := G.later hb23
        replace G' := G'.later hb23
        replace M := M.later hb23
        replace M' := M'.later hb23
        replace N := N.later hb23
        replace N' := N'.later hb23
        replace KA := KA.old hb23
        replace KC := KC.old hb23
        replace KS := KS.old hb23
        replace KP := KP.old hb23
        replace KG := KG.old hb23
        replace KM := KM.old hb23
        replace KN := KN.old hb23
        replace KL := KL.old hb23
        replace KO := KO.old hb23
        replace hl := old_trans hl hb23
        replace hB := old_trans hB hb23
        clear hb23
        obtain ⟨KAa, ⟨KAb, KAc, KAd⟩, -⟩ := id KA
        obtain ⟨KCa, ⟨KCb, KCc, KCd⟩, -⟩ := id KC
        obtain ⟨KSa, ⟨KSb, KSc, KSd⟩, -⟩ := id KS
        obtain ⟨KPa, ⟨KPb, KPc, KPd⟩, -⟩ := id KP
        obtain ⟨KGa, ⟨KGb, KGc, KGd⟩, -⟩ := id KG
        obtain ⟨KMa, ⟨KMb, KMc, KMd⟩, -⟩ := id KM
        obtain ⟨KNa, ⟨KNb, KNc, KNd⟩, -⟩ := id KN
        obtain ⟨KLa, ⟨KLb, KLc, KLd⟩, -⟩ := id KL
        obtain ⟨KOa, ⟨KOb, KOc, KOd⟩, -⟩ := id KO
        clear KAa KAb KAc KAd KCa KCb KCc KCd KSa KSb KSc KSd KPa KPb KPc KPd KGa KGb KGc KGd KMa KMb KMc KMd KNa KNb KNc KNd KLa KLb KLc KLd KOa KOb KOc KOd
        obtain ⟨ka, ⟨kb, kc, kd⟩, fz0, fz1, fz2⟩ := id KL
        have hst := below_set3 (b := w18.heap.size) (v0 := (.bool s8)) (v1 := (.slice avL t8.length cvL)) (v2 := (.slice avL' u8.length cvL')) hl (Nat.le_refl _)
        replace hB := below_set3 (b := w18.heap.size) (v0 := (.bool s8)) (v1 := (.slice avL t8.length cvL)) (v2 := (.slice avL' u8.length cvL')) hB (Nat.le_trans gl (Nat.le_refl _))
        replace X := X_l.later hst
        replace Y := Y_l.later hst
        replace P := P_l.later hst
        replace Q := Q_l.later hst
        replace S := S_l.later hst
        replace S' := S'_l.later hst
        replace T := T_l.later hst
        replace T' := T'_l.later hst
        replace G := G_l.later hst
        replace G' := G'_l.later hst
        replace M := M_l.later hst
        replace M' := M'_l.later hst
        replace N := N_l.later hst
        replace N' := N'_l.later hst
        replace KA := KA_l.old hst
        replace KC := KC_l.old hst
        replace KS := KS_l.old hst
        replace KP := KP_l.old hst
        replace KG := KG_l.old hst
        replace KM := KM_l.old hst
        replace KN := KN_l.old hst
        replace L := oi_set3 (v0 := (.bool s8)) (v1 := (.slice avL t8.length cvL)) (v2 := (.slice avL' u8.length cvL')) L lL
        replace L' := oi_set3 (v0 := (.bool s8)) (v1 := (.slice avL t8.length cvL)) (v2 := (.slice avL' u8.length cvL')) L' lL
        replace KO := Cel3.far3 (x := (.bool s8)) (y := (.slice avL t8.length cvL)) (z := (.slice avL' u8.length cvL')) KO nlo.symm
        replace KL := KL.setAll (.bool s8) (.slice avL t8.length cvL) (.slice avL' u8.length cvL')
        clear hl
        have hl := hst
        clear hst
        obtain ⟨KAa, ⟨KAb, KAc, KAd⟩, -⟩ := id KA
        obtain ⟨KCa, ⟨KCb, KCc, KCd⟩, -⟩ := id KC
        obtain ⟨KSa, ⟨KSb, KSc, KSd⟩, -⟩ := id KS
        obtain ⟨KPa, ⟨KPb, KPc, KPd⟩, -⟩ := id KP
        obtain ⟨KGa, ⟨KGb, KGc, KGd⟩, -⟩ := id KG
        obtain ⟨KMa, ⟨KMb, KMc, KMd⟩, -⟩ := id KM
        obtain ⟨KNa, ⟨KNb, KNc, KNd⟩, -⟩ := id KN
        obtain ⟨KLa, ⟨KLb, KLc, KLd⟩, -⟩ := id KL
        obtain ⟨KOa, ⟨KOb, KOc, KOd⟩, -⟩ := id KO
        have lP := KO.1
        go_wp2_with fail
        refine (B8.out _ _ _ _ _ _ _ _ _ _ _ _ _ T.inI T'.inI N.inI N'.inI (TT.out _ hB)).mono ?_
        rintro e w24 ⟨⟨avO, cvO, avO', cvO', rfl, O, O'⟩, hb24⟩
        clear ka kb kc kd fz0 fz1 fz2
        clear KAa KAb KAc KAd KCa KCb KCc KCd KSa KSb KSc KSd KPa KPb KPc KPd KGa KGb KGc KGd KMa KMb KMc KMd KNa KNb KNc KNd KLa KLb KLc KLd KOa KOb KOc KOd
        replace X := X.later hb24
        replace Y := Y.later hb24
        replace P := P.later hb24
        replace Q := Q.later hb24
        replace S := S.later hb24
        replace S' := S'.later hb24
        replace T := T.later hb24
        replace T' := T'.later hb24
        replace G := G.later hb24
        replace G' := G'.later hb24
        replace M := M.later hb24
        replace M' := M'.later hb24
        replace N := N.later hb24
        replace N' := N'.later hb24
        replace L := L.later hb24
        replace L' := L'.later hb24
        replace KA := KA.old hb24
        replace KC := KC.old hb24
        replace KS := KS.old hb24
        replace KP := KP.old hb24
        replace KG := KG.old hb24
        replace KM := KM.old hb24
        replace KN := KN.old hb24
        replace KL := KL.old hb24
        replace KO := KO.old hb24
        replace hl := old_trans hl hb24
        replace hB := old_trans hB hb24
        clear hb24
        obtain ⟨KAa, ⟨KAb, KAc, KAd⟩, -⟩ := id KA
        obtain ⟨KCa, ⟨KCb, KCc, KCd⟩, -⟩ := id KC
        obtain ⟨KSa, ⟨KSb, KSc, KSd⟩, -⟩ := id KS
        obtain ⟨KPa, ⟨KPb, KPc, KPd⟩, -⟩ := id KP
        obtain ⟨KGa, ⟨KGb, KGc, KGd⟩, -⟩ := id KG
        obtain ⟨KMa, ⟨KMb, KMc, KMd⟩, -⟩ := id KM
        obtain ⟨KNa, ⟨KNb, KNc, KNd⟩, -⟩ := id KN
        obtain ⟨KLa, ⟨KLb, KLc, KLd⟩, -⟩ := id KL
        obtain ⟨KOa, ⟨KOb, KOc, KOd⟩, -⟩ := id KO
        clear KAa KAb KAc KAd KCa KCb KCc KCd KSa KSb KSc KSd KPa KPb KPc KPd KGa KGb KGc KGd KMa KMb KMc KMd KNa KNb KNc KNd KLa KLb KLc KLd KOa KOb KOc KOd
        obtain ⟨ka, ⟨kb, kc, kd⟩, fz0, fz1, fz2⟩ := id KO
        have hst := below_set3 (b := w19.heap.size) (v0 := (.bool s8)) (v1 := (.slice avO t8.length cvO)) (v2 := (.slice avO' u8.length cvO')) hl glo
        replace hB := below_set3 (b := w19.heap.size) (v0 := (.bool s8)) (v1 := (.slice avO t8.length cvO)) (v2 := (.slice avO' u8.length cvO')) hB (Nat.le_trans gl glo)
        replace X := X_l.later hst
        replace Y := Y_l.later hst
        replace P := P_l.later hst
        replace Q := Q_l.later hst
        replace S := S_l.later hst
        replace S' := S'_l.later hst
        replace T := T_l.later hst
        replace T' := T'_l.later hst
        replace G := G_l.later hst
        replace G' := G'_l.later hst
        replace M := M_l.later hst
        replace M' := M'_l.later hst
        replace N := N_l.later hst
        replace N' := N'_l.later hst
        replace KA := KA_l.old hst
        replace KC := KC_l.old hst
        replace KS := KS_l.old hst
        replace KP := KP_l.old hst
        replace KG := KG_l.old hst
        replace KM := KM_l.old hst
        replace KN := KN_l.old hst
        replace L := oi_set3 (v0 := (.bool s8)) (v1 := (.slice avO t8.length cvO)) (v2 := (.slice avO' u8.length cvO')) L lO
        replace L' := oi_set3 (v0 := (.bool s8)) (v1 := (.slice avO t8.length cvO)) (v2 := (.slice avO' u8.length cvO')) L' lO
        replace O := oi_set3 (v0 := (.bool s8)) (v1 := (.slice avO t8.length cvO)) (v2 := (.slice avO' u8.length cvO')) O lP
        replace O' := oi_set3 (v0 := (.bool s8)) (v1 := (.slice avO t8.length cvO)) (v2 := (.slice avO' u8.length cvO')) O' lP
        replace KL := Cel3.far3 (x := (.bool s8)) (y := (.slice avO t8.length cvO)) (z := (.slice avO' u8.length cvO')) KL nlo
        replace KO := KO.setAll (.bool s8) (.slice avO t8.length cvO) (.slice avO' u8.length cvO')
        clear hl
        have hl := hst
        clear hst
        obtain ⟨KAa, ⟨KAb, KAc, KAd⟩, -⟩ := id KA
        obtain ⟨KCa, ⟨KCb, KCc, KCd⟩, -⟩ := id KC
        obtain ⟨KSa, ⟨KSb, KSc, KSd⟩, -⟩ := id KS
        obtain ⟨KPa, ⟨KPb, KPc, KPd⟩, -⟩ := id KP
        obtain ⟨KGa, ⟨KGb, KGc, KGd⟩, -⟩ := id KG
        obtain ⟨KMa, ⟨KMb, KMc, KMd⟩, -⟩ := id KM
        obtain ⟨KNa, ⟨KNb, KNc, KNd⟩, -⟩ := id KN
        obtain ⟨KLa, ⟨KLb, KLc, KLd⟩, -⟩ := id KL
        obtain ⟨KOa, ⟨KOb, KOc, KOd⟩, -⟩ := id KO
        clear lL lO lP
        cases r8
        · as_aux_lemma =>
          go_wp2
          go_ret
          exact ⟨rfl, hB⟩
        · as_aux_lemma =>
          go_wp2_with fail
          refine (PF.out _ _ _ _ _ _ _ _ _ _ _ _ _ _ L.inI L'.inI O.inI O'.inI).mono ?_
          rintro e w25 ⟨rfl, hb25⟩
          clear ka kb kc kd fz0 fz1 fz2
          clear KAa KAb KAc KAd KCa KCb KCc KCd KSa KSb KSc KSd KPa KPb KPc KPd KGa KGb KGc KGd KMa KMb KMc KMd KNa KNb KNc KNd KLa KLb KLc KLd KOa KOb KOc KOd
          replace X := X.later hb25
          replace Y := Y.later hb25
          replace P := P.later hb25
          replace Q := Q.later hb25
          replace S := S.later hb25
          replace S' := S'.later hb25
          replace T := T.later hb25
          replace T' := T'.later hb25
          replace G := G.later hb25
          replace G' := G'.later hb25
          replace M := M.later hb25
          replace M' := M'.later hb25
          replace N := N.later hb25
          replace N' := N'.later hb25
          replace L := L.later hb25
          replace L' := L'.later hb25
          replace O := O.later hb25
          replace O' := O'.later hb25
          replace KA := KA.old hb25
          replace KC := KC.old hb25
          replace KS := KS.old hb25
          replace KP := KP.old hb25
          replace KG := KG.old hb25
          replace KM := KM.old hb25
          replace KN := KN.old hb25
          replace KL := KL.old hb25
          replace KO := KO.old hb25
          replace hl := old_trans hl hb25
          replace hB := old_trans hB hb25
          clear hb25
          obtain ⟨KAa, ⟨KAb, KAc, KAd⟩, -⟩ := id KA
          obtain ⟨KCa, ⟨KCb, KCc, KCd⟩, -⟩ := id KC
          obtain ⟨KSa, ⟨KSb, KSc, KSd⟩, -⟩ := id KS
          obtain ⟨KPa, ⟨KPb, KPc, KPd⟩, -⟩ := id KP
          obtain ⟨KGa, ⟨KGb, KGc, KGd⟩, -⟩ := id KG
          obtain ⟨KMa, ⟨KMb, KMc, KMd⟩, -⟩ := id KM
          obtain ⟨KNa, ⟨KNb, KNc, KNd⟩, -⟩ := id KN
          obtain ⟨KLa, ⟨KLb, KLc, KLd⟩, -⟩ := id KL
          obtain ⟨KOa, ⟨KOb, KOc, KOd⟩, -⟩ := id KO
          go_wp2
          go_ret
          exact ⟨rfl, hB⟩
    · as_aux_lemma =>
      go_wp2_with fail
      refine (PF.out _ _ _ _ _ _ _ _ _ _ _ _ _ _ L.inI L'.inI O.inI O'.inI).mono ?_
      rintro e w20 ⟨rfl, hb20⟩
      clear KAa KAb KAc KAd KCa KCb KCc KCd KSa KSb KSc KSd KPa KPb KPc KPd KGa KGb KGc KGd KMa KMb KMc KMd KNa KNb KNc KNd KLa KLb KLc KLd KOa KOb KOc KOd
      replace X := X.later hb20
      replace Y := Y.later hb20
      replace P := P.later hb20
      replace Q := Q.later hb20
      replace S := S.later hb20
      replace S' := S'.later hb20
      replace T := T.later hb20
      replace T' := T'.later hb20
      replace G := G.later hb20
      replace G' := G'.later hb20
      replace M := M.later hb20
      replace M' := M'.later hb20
      replace N := N.later hb20
      replace N' := N'.later hb20
      replace L := L.later hb20
      replace L' := L'.later hb20
      replace O := O.later hb20
      replace O' := O'.later hb20
      replace KA := KA.old hb20
      replace KC := KC.old hb20
      replace KS := KS.old hb20
      replace KP := KP.old hb20
      replace KG := KG.old hb20
      replace KM := KM.old hb20
      replace KN := KN.old hb20
      replace KL := KL.old hb20
      replace KO := KO.old hb20
      replace hl := old_trans hl hb20
      replace hB := old_trans hB hb20
      clear hb20
      obtain ⟨KAa, ⟨KAb, KAc, KAd⟩, -⟩ := id KA
      obtain ⟨KCa, ⟨KCb, KCc, KCd⟩, -⟩ := id KC
      obtain ⟨KSa, ⟨KSb, KSc, KSd⟩, -⟩ := id KS
      obtain ⟨KPa, ⟨KPb, KPc, KPd⟩, -⟩ := id KP
      obtain ⟨KGa, ⟨KGb, KGc, KGd⟩, -⟩ := id KG
      obtain ⟨KMa, ⟨KMb, KMc, KMd⟩, -⟩ := id KM
      obtain ⟨KNa, ⟨KNb, KNc, KNd⟩, -⟩ := id KN
      obtain ⟨KLa, ⟨KLb, KLc, KLd⟩, -⟩ := id KL
      obtain ⟨KOa, ⟨KOb, KOc, KOd⟩, -⟩ := id KO
      clear L L' O O'
      have lL := KL.1
      have lO := KO.1
      go_wp2_with fail
      refine (A7.out _ _ _ _ _ _ _ _ _ _ _ _ _ T.inI T'.inI P.inI Q.inI (TT.out _ hB)).mono ?_
      rintro e w21 ⟨⟨avL, cvL, avL', cvL', rfl, L, L'⟩, hb21⟩
      clear KAa KAb KAc KAd KCa KCb KCc KCd KSa KSb KSc KSd KPa KPb KPc KPd KGa KGb KGc KGd KMa KMb KMc KMd KNa KNb KNc KNd KLa KLb KLc KLd KOa KOb KOc KOd
      replace X := X.later hb21
      replace Y := Y.later hb21
      replace P := P.later hb21
      replace Q := Q.later hb21
      replace S := S.later hb21
      replace S' := S'.later hb21
      replace T := T.later hb21
      replace T' := T'.later hb21
      replace G := G.later hb21
      replace G' := G'.later hb21
      replace M := M.later hb21
      replace M' := M'.later hb21
      replace N := N.later hb21
      replace N' := N'.later hb21
      replace KA := KA.old hb21
      replace KC := KC.old hb21
      replace KS := KS.old hb21
      replace KP := KP.old hb21
      replace KG := KG.old hb21
      replace KM := KM.old hb21
      replace KN := KN.old hb21
      replace KL := KL.old hb21
      replace KO := KO.old hb21
      replace hl := old_trans hl hb21
      replace hB := old_trans hB hb21
      clear hb21
      obtain ⟨KAa, ⟨KAb, KAc, KAd⟩, -⟩ := id KA
      obtain ⟨KCa, ⟨KCb, KCc, KCd⟩, -⟩ := id KC
      obtain ⟨KSa, ⟨KSb, KSc, KSd⟩, -⟩ := id KS
      obtain ⟨KPa, ⟨KPb, KPc, KPd⟩, -⟩ := id KP
      obtain ⟨KGa, ⟨KGb, KGc, KGd⟩, -⟩ := id KG
      obtain ⟨KMa, ⟨KMb, KMc, KMd⟩, -⟩ := id KM
      obtain ⟨KNa, ⟨KNb, KNc, KNd⟩, -⟩ := id KN
      obtain ⟨KLa, ⟨KLb, KLc, KLd⟩, -⟩ := id KL
      obtain ⟨KOa, ⟨KOb, KOc, KOd⟩, -⟩ := id KO
      clear KAa KAb KAc KAd KCa KCb KCc KCd KSa KSb KSc KSd KPa KPb KPc KPd KGa KGb KGc KGd KMa KMb KMc KMd KNa KNb KNc KNd KLa KLb KLc KLd KOa KOb KOc KOd
      obtain ⟨ka, ⟨kb, kc, kd⟩, fz0, fz1, fz2⟩ := id KL
      have hst := below_set3 (b := w18.heap.size) (v0 := (.bool s7)) (v1 := (.slice avL t7.length cvL)) (v2 := (.slice avL' u7.length cvL')) hl (Nat.le_refl _)
      replace hB := below_set3 (b := w18.heap.size) (v0 := (.bool s7)) (v1 := (.slice avL t7.length cvL)) (v2 := (.slice avL' u7.length cvL')) hB (Nat.le_trans gl (Nat.le_refl _))
      replace X := X_l.later hst
      replace Y := Y_l.later hst
      replace P := P_l.later hst
      replace Q := Q_l.later hst
      replace S := S_l.later hst
      replace S' := S'_l.later hst
      replace T := T_l.later hst
      replace T' := T'_l.later hst
      replace G := G_l.later hst
      replace G' := G'_l.later hst
      replace M := M_l.later hst
      replace M' := M'_l.later hst
      replace N := N_l.later hst
      replace N' := N'_l.later hst
      replace KA := KA_l.old hst
      replace KC := KC_l.old hst
      replace KS := KS_l.old hst
      replace KP := KP_l.old hst
      replace KG := KG_l.old hst
      replace KM := KM_l.old hst
      replace KN := KN_l.old hst
      replace L := oi_set3 (v0 := (.bool s7)) (v1 := (.slice avL t7.length cvL)) (v2 := (.slice avL' u7.length cvL')) L lL
      replace L' := oi_set3 (v0 := (.bool s7)) (v1 := (.slice avL t7.length cvL)) (v2 := (.slice avL' u7.length cvL')) L' lL
      replace KO := Cel3.far3 (x := (.bool s7)) (y := (.slice avL t7.length cvL)) (z := (.slice avL' u7.length cvL')) KO nlo.symm
      replace KL := KL.setAll (.bool s7) (.slice avL t7.length cvL) (.slice avL' u7.length cvL')
      clear hl
      have hl := hst
      clear hst
      obtain ⟨KAa, ⟨KAb, KAc, KAd⟩, -⟩ := id KA
      obtain ⟨KCa, ⟨KCb, KCc, KCd⟩, -⟩ := id KC
      obtain ⟨KSa, ⟨KSb, KSc, KSd⟩, -⟩ := id KS
      obtain ⟨KPa, ⟨KPb, KPc, KPd⟩, -⟩ := id KP
      obtain ⟨KGa, ⟨KGb, KGc, KGd⟩, -⟩ := id KG
      obtain ⟨KMa, ⟨KMb, KMc, KMd⟩, -⟩ := id KM
      obtain ⟨KNa, ⟨KNb, KNc, KNd⟩, -⟩ := id KN
      obtain ⟨KLa, ⟨KLb, KLc, KLd⟩, -⟩ := id KL
      obtain ⟨KOa, ⟨KOb, KOc, KOd⟩, -⟩ := id KO
      have lP := KO.1
      go_wp2_with fail
      refine (B7.out _ _ _ _ _ _ _ _ _ _ _ _ _ X.inI Y.inI M.inI M'.inI (TT.out _ hB)).mono ?_
      rintro e w22 ⟨⟨avO, cvO, avO', cvO', rfl, O, O'⟩, hb22⟩
      clear ka kb kc kd fz0 fz1 fz2
      clear KAa KAb KAc KAd KCa KCb KCc KCd KSa KSb KSc KSd KPa KPb KPc KPd KGa KGb KGc KGd KMa KMb KMc KMd KNa KNb KNc KNd KLa KLb KLc KLd KOa KOb KOc KOd
      replace X := X.later hb22
      replace Y := Y.later hb22
      replace P := P.later hb22
      replace Q := Q.later hb22
      replace S := S.later hb22
      replace S' := S'.later hb22
      replace T := T.later hb22
      replace T' := T'.later hb22
      replace G := G.later hb22
      replace G' := G'.later hb22
      replace M := M.later hb22
      replace M' := M'.later hb22
      replace N := N.later hb22
      replace N' := N'.later hb22
      replace L := L.later hb22
      replace L' := L'.later hb22
      replace KA := KA.old hb22
      replace KC := KC.old hb22
      replace KS := KS.old hb22
      replace KP := KP.old hb22
      replace KG := KG.old hb22
      replace KM := KM.old hb22
      replace KN := KN.old hb22
      replace KL := KL.old hb22
      replace KO := KO.old hb22
      replace hl := old_trans hl hb22
      replace hB := old_trans hB hb22
      clear hb22
      obtain ⟨KAa, ⟨KAb, KAc, KAd⟩, -⟩ := id KA
      obtain ⟨KCa, ⟨KCb, KCc, KCd⟩, -⟩ := id KC
      obtain ⟨KSa, ⟨KSb, KSc, KSd⟩, -⟩ := id KS
      obtain ⟨KPa, ⟨KPb, KPc, KPd⟩, -⟩ := id KP
      obtain ⟨KGa, ⟨KGb, KGc, KGd⟩, -⟩ := id KG
      obtain ⟨KMa, ⟨KMb, KMc, KMd⟩, -⟩ := id KM
      obtain ⟨KNa, ⟨KNb, KNc, KNd⟩, -⟩ := id KN
      obtain ⟨KLa, ⟨KLb, KLc, KLd⟩, -⟩ := id KL
      obtain ⟨KOa, ⟨KOb, KOc, KOd⟩, -⟩ := id KO
      clear KAa KAb KAc KAd KCa KCb KCc KCd KSa KSb KSc KSd KPa KPb KPc KPd KGa KGb KGc KGd KMa KMb KMc KMd KNa KNb KNc KNd KLa KLb KLc KLd KOa KOb KOc KOd
      obtain ⟨ka, ⟨kb, kc, kd⟩, fz0, fz1, fz2⟩ := id KO
      have hst := below_set3 (b := w19.heap.size) (v0 := (.bool s7)) (v1 := (.slice avO t7.length cvO)) (v2 := (.slice avO' u7.length cvO')) hl glo
      replace hB := below_set3 (b := w19.heap.size) (v0 := (.bool s7)) (v1 := (.slice avO t7.length cvO)) (v2 := (.slice avO' u7.length cvO')) hB (Nat.le_trans gl glo)
      replace X := X_l.later hst
      replace Y := Y_l.later hst
      replace P := P_l.later hst
      replace Q := Q_l.later hst
      replace S := S_l.later hst
      replace S' := S'_l.later hst
      replace T := T_l.later hst
      replace T' := T'_l.later hst
      replace G := G_l.later hst
      replace G' := G'_l.later hst
      replace M := M_l.later hst
      replace M' := M'_l.later hst
      replace N := N_l.later hst
      replace N' := N'_l.later hst
      replace KA := KA_l.old hst
      replace KC := KC_l.old hst
      replace KS := KS_l.old hst
      replace KP := KP_l.old hst
      replace KG := KG_l.old hst
      replace KM := KM_l.old hst
      replace KN := KN_l.old hst
      replace L := oi_set3 (v0 := (.bool s7)) (v1 := (.slice avO t7.length cvO)) (v2 := (.slice avO' u7.length cvO')) L lO
      replace L' := oi_set3 (v0 := (.bool s7)) (v1 := (.slice avO t7.length cvO)) (v2 := (.slice avO' u7.length cvO')) L' lO
      replace O := oi_set3 (v0 := (.bool s7)) (v1 := (.slice avO t7.length cvO)) (v2 := (.slice avO' u7.length cvO')) O lP
      replace O' := oi_set3 (v0 := (.bool s7)) (v1 := (.slice avO t7.length cvO)) (v2 := (.slice avO' u7.length cvO')) O' lP
      replace KL := Cel3.far3 (x := (.bool s7)) (y := (.slice avO t7.length cvO)) (z := (.slice avO' u7.length cvO')) KL nlo
      replace KO := KO.setAll (.bool s7) (.slice avO t7.length cvO) (.slice avO' u7.length cvO')
      clear hl
      have hl := hst
      clear hst
      obtain ⟨KAa, ⟨KAb, KAc, KAd⟩, -⟩ := id KA
      obtain ⟨KCa, ⟨KCb, KCc, KCd⟩, -⟩ := id KC
      obtain ⟨KSa, ⟨KSb, KSc, KSd⟩, -⟩ := id KS
      obtain ⟨KPa, ⟨KPb, KPc, KPd⟩, -⟩ := id KP
      obtain ⟨KGa, ⟨KGb, KGc, KGd⟩, -⟩ := id KG
      obtain ⟨KMa, ⟨KMb, KMc, KMd⟩, -⟩ := id KM
      obtain ⟨KNa, ⟨KNb, KNc, KNd⟩, -⟩ := id KN
      obtain ⟨KLa, ⟨KLb, KLc, KLd⟩, -⟩ := id KL
      obtain ⟨KOa, ⟨KOb, KOc, KOd⟩, -⟩ := id KO
      clear lL lO lP
      cases r7
      · as_aux_lemma =>
        clear L L' O O'
        have lL := KL.1
        have lO := KO.1
        go_wp2_with fail
        refine (A8.out _ _ _ _ _ _ _ _ _ _ _ _ _ X.inI Y.inI G.inI G'.inI (TT.out _ hB)).mono ?_
        rintro e w23 ⟨⟨avL, cvL, avL', cvL', rfl, L, L'⟩, hb23⟩
        clear ka kb kc kd fz0 fz1 fz2
        clear KAa KAb KAc KAd KCa KCb KCc KCd KSa KSb KSc KSd KPa KPb KPc KPd KGa KGb KGc KGd KMa KMb KMc KMd KNa KNb KNc KNd KLa KLb KLc KLd KOa KOb KOc KOd
        replace X := X.later hb23
        replace Y := Y.later hb23
        replace P := P.later hb23
        replace Q := Q.later hb23
        replace S := S.later hb23
        replace S' := S'.later hb23
        replace T := T.later hb23
        replace T' := T'.later hb23
        replace G := G.later hb23
        replace G' := G'.later hb23
        replace M := M.later hb23
        replace M' := M'.later hb23
        replace N := N.later hb23
        replace N' := N'.later hb23
        replace KA := KA.old hb23
        replace KC := KC.old hb23
        replace KS := KS.old hb23
        replace KP := KP.old hb23
        replace KG := KG.old hb23
        replace KM := KM.old hb23
        replace KN := KN.old hb23
        replace KL := KL.old hb23
        replace KO := KO.old hb23
        replace hl := old_trans hl hb23
        replace hB := old_trans hB hb23
        clear hb23
        obtain ⟨KAa, ⟨KAb, KAc, KAd⟩, -⟩ := id KA
        obtain ⟨KCa, ⟨KCb, KCc, KCd⟩, -⟩ := id KC
        obtain ⟨KSa, ⟨KSb, KSc, KSd⟩, -⟩ := id KS
        obtain ⟨KPa, ⟨KPb, KPc, KPd⟩, -⟩ := id KP
        obtain ⟨KGa, ⟨KGb, KGc, KGd⟩, -⟩ := id KG
        obtain ⟨KMa, ⟨KMb, KMc, KMd⟩, -⟩ := id KM
        obtain ⟨KNa, ⟨KNb, KNc, KNd⟩, -⟩ := id KN
        obtain ⟨KLa, ⟨KLb, KLc, KLd⟩, -⟩ := id KL
        obtain ⟨KOa, ⟨KOb, KOc, KOd⟩, -⟩ := id KO
        clear KAa KAb KAc KAd KCa KCb KCc KCd KSa KSb KSc KSd KPa KPb KPc KPd KGa KGb KGc KGd KMa KMb KMc KMd KNa KNb KNc KNd KLa KLb KLc KLd KOa KOb KOc KOd
        obtain ⟨ka, ⟨kb, kc, kd⟩, fz0, fz1, fz2⟩ := id KL
        have hst := below_set3 (b := w18.heap.size) (v0 := (.bool s8)) (v1 := (.slice avL t8.length cvL)) (v2 := (.slice avL' u8.length cvL')) hl (Nat.le_refl _)
        replace hB := below_set3 (b := w18.heap.size) (v0 := (.bool s8)) (v1 := (.slice avL t8.length cvL)) (v2 := (.slice avL' u8.length cvL')) hB (Nat.le_trans gl (Nat.le_refl _))
        replace X := X_l.later hst
        replace Y := Y_l.later hst
        replace P := P_l.later hst
        replace Q := Q_l.later hst
        replace S := S_l.later hst
        replace S' := S'_l.later hst
        replace T := T_l.later hst
        replace T' := T'_l.later hst
        replace G := G_l.later hst
        replace G' := G'_l.later hst
        replace M := M_l.later hst
        replace M' := M'_l.later hst
        replace N := N_l.later hst
        replace N' := N'_l.later hst
        replace KA := KA_l.old hst
        replace KC := KC_l.old hst
        replace KS := KS_l.old hst
        replace KP := KP_l.old hst
        replace KG := KG_l.old hst
        replace KM := KM_l.old hst
        replace KN := KN_l.old hst
        replace L := oi_set3 (v0 := (.bool s8)) (v1 := (.slice avL t8.length cvL)) (v2 := (.slice avL' u8.length cvL')) L lL
        replace L' := oi_set3 (v0 := (.bool s8)) (v1 := (.slice avL t8.length cvL)) (v2 := (.slice avL' u8.length cvL')) L' lL
        replace KO := Cel3.far3 (x := (.bool s8)) (y := (.slice avL t8.length cvL)) (z := (.slice avL' u8.length cvL')) KO nlo.symm
        replace KL := KL.setAll (.bool s8) (.slice avL t8.length cvL) (.slice avL' u8.length cvL')
        clear hl
        have hl := hst
        clear hst
        obtain ⟨KAa, ⟨KAb, KAc, KAd⟩, -⟩ := id KA
        obtain ⟨KCa, ⟨KCb, KCc, KCd⟩, -⟩ := id KC
        obtain ⟨KSa, ⟨KSb, KSc, KSd⟩, -⟩ := id KS
        obtain ⟨KPa, ⟨KPb, KPc, KPd⟩, -⟩ := id KP
        obtain ⟨KGa, ⟨KGb, KGc, KGd⟩, -⟩ := id KG
        obtain ⟨KMa, ⟨KMb, KMc, KMd⟩, -⟩ := id KM
        obtain ⟨KNa, ⟨KNb, KNc, KNd⟩, -⟩ := id KN
        obtain ⟨KLa, ⟨KLb, KLc, KLd⟩, -⟩ := id KL
        obtain ⟨KOa, ⟨KOb, KOc, KOd⟩, -⟩ := id KO
        have lP := KO.1
        go_wp2_with fail
        refine (B8.out _ _ _ _ _ _ _ _ _ _ _ _ _ T.inI T'.inI N.inI N'.inI (TT.out _ hB)).mono ?_
        rintro e w24 ⟨⟨avO, cvO, avO', cvO', rfl, O, O'⟩, hb24⟩
        clear ka kb kc kd fz0 fz1 fz2
        clear KAa KAb KAc KAd KCa KCb KCc KCd KSa KSb KSc KSd KPa KPb KPc KPd KGa KGb KGc KGd KMa KMb KMc KMd KNa KNb KNc KNd KLa KLb KLc KLd KOa KOb KOc KOd
        replace X := X.later hb24
        replace Y := Y.later hb24
        replace P := P.later hb24
        replace Q := Q.later hb24
        replace S := S.later hb24
        replace S' := S'.later hb24
        replace T := T.later hb24
        replace T' := T'.later hb24
        replace G := G.later hb24
        replace G' := G'.later hb24
        replace M := M.later hb24
        replace M' := M'.later hb24
        replace N := N.later hb24
        replace N' := N'.later hb24
        replace L := L.later hb24
        replace L' := L'.later hb24
        replace KA := KA.old hb24
        replace KC := KC.old hb24
        replace KS := KS.old hb24
        replace KP := KP.old hb24
        replace KG := KG.old hb24
        replace KM := KM.old hb24
        replace KN := KN.old hb24
        replace KL := KL.old hb24
        replace KO := KO.old hb24
        replace hl := old_trans hl hb24
        replace hB := old_trans hB hb24
        clear hb24
        obtain ⟨KAa, ⟨KAb, KAc, KAd⟩, -⟩ := id KA
        obtain ⟨KCa, ⟨KCb, KCc, KCd⟩, -⟩ := id KC
        obtain ⟨KSa, ⟨KSb, KSc, KSd⟩, -⟩ := id KS
        obtain ⟨KPa, ⟨KPb, KPc, KPd⟩, -⟩ := id KP
        obtain ⟨KGa, ⟨KGb, KGc, KGd⟩, -⟩ := id KG
        obtain ⟨KMa, ⟨KMb, KMc, KMd⟩, -⟩ := id KM
        obtain ⟨KNa, ⟨KNb, KNc, KNd⟩, -⟩ := id KN
        obtain ⟨KLa, ⟨KLb, KLc, KLd⟩, -⟩ := id KL
        obtain ⟨KOa, ⟨KOb, KOc, KOd⟩, -⟩ := id KO
        clear KAa KAb KAc KAd KCa KCb KCc KCd KSa KSb KSc KSd KPa KPb KPc KPd KGa KGb KGc KGd KMa KMb KMc KMd KNa KNb KNc KNd KLa KLb KLc KLd KOa KOb KOc KOd
        obtain ⟨ka, ⟨kb, kc, kd⟩, fz0, fz1, fz2⟩ := id KO
        have hst := below_set3 (b := w19.heap.size) (v0 := (.bool s8)) (v1 := (.slice avO t8.length cvO)) (v2 := (.slice avO' u8.length cvO')) hl glo
        replace hB := below_set3 (b := w19.heap.size) (v0 := (.bool s8)) (v1 := (.slice avO t8.length cvO)) (v2 := (.slice avO' u8.length cvO')) hB (Nat.le_trans gl glo)
        replace X := X_l.later hst
        replace Y := Y_l.later hst
        replace P := P_l.later hst
        replace Q := Q_l.later hst
        replace S := S_l.later hst
        replace S' := S'_l.later hst
        replace T := T_l.later hst
        replace T' := T'_l.later hst
        replace G := G_l.later hst
        replace G' := G'_l.later hst
        replace M := M_l.later hst
        replace M' := M'_l.later hst
        replace N := N_l.later hst
        replace N' := N'_l.later hst
        replace KA := KA_l.old hst
        replace KC := KC_l.old hst
        replace KS := KS_l.old hst
        replace KP := KP_l.old hst
        replace KG := KG_l.old hst
        replace KM := KM_l.old hst
        replace KN := KN_l.old hst
        replace L := oi_set3 (v0 := (.bool s8)) (v1 := (.slice avO t8.length cvO)) (v2 := (.slice avO' u8.length cvO')) L lO
        replace L' := oi_set3 (v0 := (.bool s8)) (v1 := (.slice avO t8.length cvO)) (v2 := (.slice avO' u8.length cvO')) L' lO
        replace O := oi_set3 (v0 := (.bool s8)) (v1 := (.slice avO t8.length cvO)) (v2 := (.slice avO' u8.length cvO')) O lP
        replace O' := oi_set3 (v0 := (.bool s8)) (v1 := (.slice avO t8.length cvO)) (v2 := (.slice avO' u8.length cvO')) O' lP
        replace KL := Cel3.far3 (x := (.bool s8)) (y := (.slice avO t8.length cvO)) (z := (.slice avO' u8.length cvO')) KL nlo
        replace KO := KO.setAll (.bool s8) (.slice avO t8.length cvO) (.slice avO' u8.length cvO')
        clear hl
        have hl := hst
        clear hst
        obtain ⟨KAa, ⟨KAb, KAc, KAd⟩, -⟩ := id KA
        obtain ⟨KCa, ⟨KCb, KCc, KCd⟩, -⟩ := id KC
        obtain ⟨KSa, ⟨KSb, KSc, KSd⟩, -⟩ := id KS
        obtain ⟨KPa, ⟨KPb, KPc, KPd⟩, -⟩ := id KP
        obtain ⟨KGa, ⟨KGb, KGc, KGd⟩, -⟩ := id KG
        obtain ⟨KMa, ⟨KMb, KMc, KMd⟩, -⟩ := id KM
        obtain ⟨KNa, ⟨KNb, KNc, KNd⟩, -⟩ := id KN
        obtain ⟨KLa, ⟨KLb, KLc, KLd⟩, -⟩ := id KL
        obtain ⟨KOa, ⟨KOb, KOc, KOd⟩, -⟩ := id KO
        clear lL lO lP
        cases r8
        · as_aux_lemma =>
          go_wp2
          go_ret
          exact ⟨rfl, hB⟩
        · as_aux_lemma =>
          go_wp2_with fail
          refine (PF.out _ _ _ _ _ _ _ _ _ _ _ _ _ _ L.inI L'.inI O.inI O'.inI).mono ?_
          rintro e w25 ⟨rfl, hb25⟩
          clear ka kb kc kd fz0 fz1 fz2
          clear KAa KAb KAc KAd KCa KCb KCc KCd KSa KSb KSc KSd KPa KPb KPc KPd KGa KGb KGc KGd KMa KMb KMc KMd KNa KNb KNc KNd KLa KLb KLc KLd KOa KOb KOc KOd
          replace X := X.later hb25
          replace Y := Y.later hb25
          replace P := P.later hb25
          replace Q := Q.later hb25
          replace S := S.later hb25
          replace S' := S'.later hb25
          replace T := T.later hb25
          replace T' := T'.later hb25
          replace G := G.later hb25
          replace G' := G'.later hb25
          replace M := M.later hb25
          replace M' := M'.later hb25
          replace N := N.later hb25
          replace N' := N'.later hb25
          replace L := L.later hb25
          replace L' := L'.later hb25
          replace O := O.later hb25
          replace O' := O'.later hb25
          replace KA := KA.old hb25
          replace KC := KC.old hb25
          replace KS := KS.old hb25
          replace KP := KP.old hb25
          replace KG := KG.old hb25
          replace KM := KM.old hb25
          replace KN := KN.old hb25
          replace KL := KL.old hb25
          replace KO := KO.old hb25
          replace hl := old_trans hl hb25
          replace hB := old_trans hB hb25
          clear hb25
          obtain ⟨KAa, ⟨KAb, KAc, KAd⟩, -⟩ := id KA
          obtain ⟨KCa, ⟨KCb, KCc, KCd⟩, -⟩ := id KC
          obtain ⟨KSa, ⟨KSb, KSc, KSd⟩, -⟩ := id KS
          obtain ⟨KPa, ⟨KPb, KPc, KPd⟩, -⟩ := id KP
          obtain ⟨KGa, ⟨KGb, KGc, KGd⟩, -⟩ := id KG
          obtain ⟨KMa, ⟨KMb, KMc, KMd⟩, -⟩ := id KM
          obtain ⟨KNa, ⟨KNb, KNc, KNd⟩, -⟩ := id KN
          obtain ⟨KLa, ⟨KLb, KLc, KLd⟩, -⟩ := id KL
          obtain ⟨KOa, ⟨KOb, KOc, KOd⟩, -⟩ := id KO
          go_wp2
          go_ret
          exact ⟨rfl, hB⟩
      · as_aux_lemma =>
        go_wp2_with fail
        refine (PF.out _ _ _ _ _ _ _ _ _ _ _ _ _ _ L.inI L'.inI O.inI O'.inI).mono ?_
        rintro e w23 ⟨rfl, hb23⟩
        clear ka kb kc kd fz0 fz1 fz2
        clear KAa KAb KAc KAd KCa KCb KCc KCd KSa KSb KSc KSd KPa KPb KPc KPd KGa KGb KGc KGd KMa KMb KMc KMd KNa KNb KNc KNd KLa KLb KLc KLd KOa KOb KOc KOd
        replace X := X.later hb23
        replace Y := Y.later hb23
        replace P := P.later hb23
        replace Q := Q.later hb23
        replace S := S.later hb23
        replace S' := S'.later hb23
        replace T := T.later hb23
        replace T' := T'.later hb23
        replace G := G.later hb23
        replace G' := G'.later hb23
        replace M := M.later hb23
        replace M' := M'.later hb23
        replace N := N.later hb23
        replace N' := N'.later hb23
        replace L := L.later hb23
        replace L' := L'.later hb23
        replace O := O.later hb23
        replace O' := O'.later hb23
        replace KA := KA.old hb23
        replace KC := KC.old hb23
        replace KS := KS.old hb23
        replace KP := KP.old hb23
        replace KG := KG.old hb23
        replace KM := KM.old hb23
        replace KN := KN.old hb23
        replace KL := KL.old hb23
        replace KO := KO.old hb23
        replace hl := old_trans hl hb23
        replace hB := old_trans hB hb23
        clear hb23
        obtain ⟨KAa, ⟨KAb, KAc, KAd⟩, -⟩ := id KA
        obtain ⟨KCa, ⟨KCb, KCc, KCd⟩, -⟩ := id KC
        obtain ⟨KSa, ⟨KSb, KSc, KSd⟩, -⟩ := id KS
        obtain ⟨KPa, ⟨KPb, KPc, KPd⟩, -⟩ := id KP
        obtain ⟨KGa, ⟨KGb, KGc, KGd⟩, -⟩ := id KG
        obtain ⟨KMa, ⟨KMb, KMc, KMd⟩, -⟩ := id KM
        obtain ⟨KNa, ⟨KNb, KNc, KNd⟩, -⟩ := id KN
        obtain ⟨KLa, ⟨KLb, KLc, KLd⟩, -⟩ := id KL
        obtain ⟨KOa, ⟨KOb, KOc, KOd⟩, -⟩ := id KO
        clear L L' O O'
        have lL := KL.1
        have lO := KO.1
        go_wp2_with fail
        refine (A8.out _ _ _ _ _ _ _ _ _ _ _ _ _ X.inI Y.inI G.inI G'.inI (TT.out _ hB)).mono ?_
        rintro e w24 ⟨⟨avL, cvL, avL', cvL', rfl, L, L'⟩, hb24⟩
        clear KAa KAb KAc KAd KCa KCb KCc KCd KSa KSb KSc KSd KPa KPb KPc KPd KGa KGb KGc KGd KMa KMb KMc KMd KNa KNb KNc KNd KLa KLb KLc KLd KOa KOb KOc KOd
        replace X := X.later hb24
        replace Y := Y.later hb24
        replace P := P.later hb24
        replace Q := Q.later hb24
        replace S := S.later hb24
        replace S' := S'.later hb24
        replace T := T.later hb24
        replace T' := T'.later hb24
        replace G := G.later hb24
        replace G' := G'.later hb24
        replace M := M.later hb24
        replace M' := M'.later hb24
        replace N := N.later hb24
        replace N' := N'.later hb24
        replace KA := KA.old hb24
        replace KC := KC.old hb24
        replace KS := KS.old hb24
        replace KP := KP.old hb24
        replace KG := KG.old hb24
        replace KM := KM.old hb24
        replace KN := KN.old hb24
        replace KL := KL.old hb24
        replace KO := KO.old hb24
        replace hl := old_trans hl hb24
        replace hB := old_trans hB hb24
        clear hb24
        obtain ⟨KAa, ⟨KAb, KAc, KAd⟩, -⟩ := id KA
        obtain ⟨KCa, ⟨KCb, KCc, KCd⟩, -⟩ := id KC
        obtain ⟨KSa, ⟨KSb, KSc, KSd⟩, -⟩ := id KS
        obtain ⟨KPa, ⟨KPb, KPc, KPd⟩, -⟩ := id KP
        obtain ⟨KGa, ⟨KGb, KGc, KGd⟩, -⟩ := id KG
        obtain ⟨KMa, ⟨KMb, KMc, KMd⟩, -⟩ := id KM
        obtain ⟨KNa, ⟨KNb, KNc, KNd⟩, -⟩ := id KN
        obtain ⟨KLa, ⟨KLb, KLc, KLd⟩, -⟩ := id KL
        obtain ⟨KOa, ⟨KOb, KOc, KOd⟩, -⟩ := id KO
        clear KAa KAb KAc KAd KCa KCb KCc KCd KSa KSb KSc KSd KPa KPb KPc KPd KGa KGb KGc KGd KMa KMb KMc KMd KNa KNb KNc KNd KLa KLb KLc KLd KOa KOb KOc KOd
        obtain ⟨ka, ⟨kb, kc, kd⟩, fz0, fz1, fz2⟩ := id KL
        have hst := below_set3 (b := w18.heap.size) (v0 := (.bool s8)) (v1 := (.slice avL t8.length cvL)) (v2 := (.slice avL' u8.length cvL')) hl (Nat.le_refl _)
        replace hB := below_set3 (b := w18.heap.size) (v0 := (.bool s8)) (v1 := (.slice avL t8.length cvL)) (v2 := (.slice avL' u8.length cvL')) hB (Nat.le_trans gl (Nat.le_refl _))
        replace X := X_l.later hst
        replace Y := Y_l.later hst
        replace P := P_l.later hst
        replace Q := Q_l.later hst
        replace S := S_l.later hst
        replace S' := S'_l.later hst
        replace T := T_l.later hst
        replace T' := T'_l.later hst
        replace G := G_l.later hst
        replace G' := G'_l.later hst
        replace M := M_l.later hst
        replace M' := M'_l.later hst
        replace N := N_l.later hst
        replace N' := N'_l.later hst
        replace KA := KA_l.old hst
        replace KC := KC_l.old hst
        replace KS := KS_l.old hst
        replace KP := KP_l.old hst
        replace KG := KG_l.old hst
        replace KM := KM_l.old hst
        replace KN := KN_l.old hst
        replace L := oi_set3 (v0 := (.bool s8)) (v1 := (.slice avL t8.length cvL)) (v2 := (.slice avL' u8.length cvL')) L lL
        replace L' := oi_set3 (v0 := (.bool s8)) (v1 := (.slice avL t8.length cvL)) (v2 := (.slice avL' u8.length cvL')) L' lL
        replace KO := Cel3.far3 (x := (.bool s8)) (y := (.slice avL t8.length cvL)) (z := (.slice avL' u8.length cvL')) KO nlo.symm
        replace KL := KL.setAll (.bool s8) (.slice avL t8.length cvL) (.slice avL' u8.length cvL')
        clear hl
        have hl := hst
        clear hst
        obtain ⟨KAa, ⟨KAb, KAc, KAd⟩, -⟩ := id KA
        obtain ⟨KCa, ⟨KCb, KCc, KCd⟩, -⟩ := id KC
        obtain ⟨KSa, ⟨KSb, KSc, KSd⟩, -⟩ := id KS
        obtain ⟨KPa, ⟨KPb, KPc, KPd⟩, -⟩ := id KP
        obtain ⟨KGa, ⟨KGb, KGc, KGd⟩, -⟩ := id KG
        obtain ⟨KMa, ⟨KMb, KMc, KMd⟩, -⟩ := id KM
        obtain ⟨KNa, ⟨KNb, KNc, KNd⟩, -⟩ := id KN
        obtain ⟨KLa, ⟨KLb, KLc, KLd⟩, -⟩ := id KL
        obtain ⟨KOa, ⟨KOb, KOc, KOd⟩, -⟩ := id KO
        have lP := KO.1
        go_wp2_with fail
        refine (B8.out _ _ _ _ _ _ _ _ _ _ _ _ _ T.inI T'.inI N.inI N'.inI (TT.out _ hB)).mono ?_
        rintro e w25 ⟨⟨avO, cvO, avO', cvO', rfl, O, O'⟩, hb25⟩
        clear ka kb kc kd fz0 fz1 fz2
        clear KAa KAb KAc KAd KCa KCb KCc KCd KSa KSb KSc KSd KPa KPb KPc KPd KGa KGb KGc KGd KMa KMb KMc KMd KNa KNb KNc KNd KLa KLb KLc KLd KOa KOb KOc KOd
        replace X := X.later hb25
        replace Y := Y.later hb25
        replace P := P.later hb25
        replace Q := Q.later hb25
        replace S := S.later hb25
        replace S' := S'.later hb25
        replace T := T.later hb25
        replace T' := T'.later hb25
        replace G := G.later hb25
        replace G' := G'.later hb25
        replace M := M.later hb25
        replace M' := M'.later hb25
        replace N := N.later hb25
        replace N' := N'.later hb25
        replace L := L.later hb25
        replace L' := L'.later hb25
        replace KA := KA.old hb25
        replace KC := KC.old hb25
        replace KS := KS.old hb25
        replace KP := KP.old hb25
        replace KG := KG.old hb25
        replace KM := KM.old hb25
        replace KN := KN.old hb25
        replace KL := KL.old hb25
        replace KO := KO.old hb25
        replace hl := old_trans hl hb25
        replace hB := old_trans hB hb25
        clear hb25
        obtain ⟨KAa, ⟨KAb, KAc, KAd⟩, -⟩ := id KA
        obtain ⟨KCa, ⟨KCb, KCc, KCd⟩, -⟩ := id KC
        obtain ⟨KSa, ⟨KSb, KSc, KSd⟩, -⟩ := id KS
        obtain ⟨KPa, ⟨KPb, KPc, KPd⟩, -⟩ := id KP
        obtain ⟨KGa, ⟨KGb, KGc, KGd⟩, -⟩ := id KG
        obtain ⟨KMa, ⟨KMb, KMc, KMd⟩, -⟩ := id KM
        obtain ⟨KNa, ⟨KNb, KNc, KNd⟩, -⟩ := id KN
        obtain ⟨KLa, ⟨KLb, KLc, KLd⟩, -⟩ := id KL
        obtain ⟨KOa, ⟨KOb, KOc, KOd⟩, -⟩ := id KO
        clear KAa KAb KAc KAd KCa KCb KCc KCd KSa KSb KSc KSd KPa KPb KPc KPd KGa KGb KGc KGd KMa KMb KMc KMd KNa KNb KNc KNd KLa KLb KLc KLd KOa KOb KOc KOd
        obtain ⟨ka, ⟨kb, kc, kd⟩, fz0, fz1, fz2⟩ := id KO
        have hst := below_set3 (b := w19.heap.size) (v0 := (.bool s8)) (v1 := (.slice avO t8.length cvO)) (v2 := (.slice avO' u8.length cvO')) hl glo
        replace hB := below_set3 (b := w19.heap.size) (v0 := (.bool s8)) (v1 := (.slice avO t8.length cvO)) (v2 := (.slice avO' u8.length cvO')) hB (Nat.le_trans gl glo)
        replace X := X_l.later hst
        replace Y := Y_l.later hst
        replace P := P_l.later hst
        replace Q := Q_l.later hst
        replace S := S_l.later hst
        replace S' := S'_l.later hst
        replace T := T_l.later hst
        replace T' := T'_l.later hst
        replace G := G_l.later hst
        replace G' := G'_l.later hst
        replace M := M_l.later hst
        replace M' := M'_l.later hst
        replace N := N_l.later hst
        replace N' := N'_l.later hst
        replace KA := KA_l.old hst
        replace KC := KC_l.old hst
        replace KS := KS_l.old hst
        replace KP := KP_l.old hst
        replace KG := KG_l.old hst
        replace KM := KM_l.old hst
        replace KN := KN_l.old hst
        replace L := oi_set3 (v0 := (.bool s8)) (v1 := (.slice avO t8.length cvO)) (v2 := (.slice avO' u8.length cvO')) L lO
        replace L' := oi_set3 (v0 := (.bool s8)) (v1 := (.slice avO t8.length cvO)) (v2 := (.slice avO' u8.length cvO')) L' lO
        replace O := oi_set3 (v0 := (.bool s8)) (v1 := (.slice avO t8.length cvO)) (v2 := (.slice avO' u8.length cvO')) O lP
        replace O' := oi_set3 (v0 := (.bool s8)) (v1 := (.slice avO t8.length cvO)) (v2 := (.slice avO' u8.length cvO')) O' lP
        replace KL := Cel3.far3 (x := (.bool s8)) (y := (.slice avO t8.length cvO)) (z := (.slice avO' u8.length cvO')) KL nlo
        replace KO := KO.setAll (.bool s8) (.slice avO t8.length cvO) (.slice avO' u8.length cvO')
        clear hl
        have hl := hst
        clear hst
        obtain ⟨KAa, ⟨KAb, KAc, KAd⟩, -⟩ := id KA
        obtain ⟨KCa, ⟨KCb, KCc, KCd⟩, -⟩ := id KC
        obtain ⟨KSa, ⟨KSb, KSc, KSd⟩, -⟩ := id KS
        obtain ⟨KPa, ⟨KPb, KPc, KPd⟩, -⟩ := id KP
        obtain ⟨KGa, ⟨KGb, KGc, KGd⟩, -⟩ := id KG
        obtain ⟨KMa, ⟨KMb, KMc, KMd⟩, -⟩ := id KM
        obtain ⟨KNa, ⟨KNb, KNc, KNd⟩, -⟩ := id KN
        obtain ⟨KLa, ⟨KLb, KLc, KLd⟩, -⟩ := id KL
        obtain ⟨KOa, ⟨KOb, KOc, KOd⟩, -⟩ := id KO
        clear lL lO lP
        cases r8
        · as_aux_lemma =>
          go_wp2
          go_ret
          exact ⟨rfl, hB⟩
        · as_aux_lemma =>
          go_wp2_with fail
          refine (PF.out _ _ _ _ _ _ _ _ _ _ _ _ _ _ L.inI L'.inI O.inI O'.inI).mono ?_
          rintro e w26 ⟨rfl, hb26⟩
          clear ka kb kc kd fz0 fz1 fz2
          clear KAa KAb KAc KAd KCa KCb KCc KCd KSa KSb KSc KSd KPa KPb KPc KPd KGa KGb KGc KGd KMa KMb KMc KMd KNa KNb KNc KNd KLa KLb KLc KLd KOa KOb KOc KOd
          replace X := X.later hb26
          replace Y := Y.later hb26
          replace P := P.later hb26
          replace Q := Q.later hb26
          replace S := S.later hb26
          replace S' := S'.later hb26
          replace T := T.later hb26
          replace T' := T'.later hb26
          replace G := G.later hb26
          replace G' := G'.later hb26
          replace M := M.later hb26
          replace M' := M'.later hb26
          replace N := N.later hb26
          replace N' := N'.later hb26
          replace L := L.later hb26
          replace L' := L'.later hb26
          replace O := O.later hb26
          replace O' := O'.later hb26
          replace KA := KA.old hb26
          replace KC := KC.old hb26
          replace KS := KS.old hb26
          replace KP := KP.old hb26
          replace KG := KG.old hb26
          replace KM := KM.old hb26
          replace KN := KN.old hb26
          replace KL := KL.old hb26
          replace KO := KO.old hb26
          replace hl := old_trans hl hb26
          replace hB := old_trans hB hb26
          clear hb26
          obtain ⟨KAa, ⟨KAb, KAc, KAd⟩, -⟩ := id KA
          obtain ⟨KCa, ⟨KCb, KCc, KCd⟩, -⟩ := id KC
          obtain ⟨KSa, ⟨KSb, KSc, KSd⟩, -⟩ := id KS
          obtain ⟨KPa, ⟨KPb, KPc, KPd⟩, -⟩ := id KP
          obtain ⟨KGa, ⟨KGb, KGc, KGd⟩, -⟩ := id KG
          obtain ⟨KMa, ⟨KMb, KMc, KMd⟩, -⟩ := id KM
          obtain ⟨KNa, ⟨KNb, KNc, KNd⟩, -⟩ := id KN
          obtain ⟨KLa, ⟨KLb, KLc, KLd⟩, -⟩ := id KL
          obtain ⟨KOa, ⟨KOb, KOc, KOd⟩, -⟩ := id KO
          go_wp2
          go_ret
          exact ⟨rfl, hB⟩
  · as_aux_lemma =>
    have hmf : (m == 0) = false := beq_eq_false_iff_ne.2 hm0
    have DW := hd (DV.out hm0)
    clear R R' hm0
    have lR := KR.1
    go_wp2_with fail
    refine (DW.out _ _ _ _ _ _ _ _ _ _ _ _ _ T.inI T'.inI U.inI V.inI (TT.out _ hB)).mono ?_
    rintro e w15 ⟨⟨avD, cvD, avD', cvD', rfl, D, D'⟩, hb15⟩
    clear KAa KAb KAc KAd KBa KBb KBc KBd KCa KCb KCc KCd KSa KSb KSc KSd KPa KPb KPc KPd KRa KRb KRc KRd
    replace X := X.later hb15
    replace Y := Y.later hb15
    replace U := U.later hb15
    replace V := V.later hb15
    replace P := P.later hb15
    replace Q := Q.later hb15
    replace S := S.later hb15
    replace S' := S'.later hb15
    replace T := T.later hb15
    replace T' := T'.later hb15
    replace KA := KA.old hb15
    replace KB := KB.old hb15
    replace KC := KC.old hb15
    replace KS := KS.old hb15
    replace KP := KP.old hb15
    replace KR := KR.old hb15
    replace hf := old_trans hf hb15
    replace hB := old_trans hB hb15
    clear hb15
    obtain ⟨KAa, ⟨KAb, KAc, KAd⟩, -⟩ := id KA
    obtain ⟨KBa, ⟨KBb, KBc, KBd⟩, -⟩ := id KB
    obtain ⟨KCa, ⟨KCb, KCc, KCd⟩, -⟩ := id KC
    obtain ⟨KSa, ⟨KSb, KSc, KSd⟩, -⟩ := id KS
    obtain ⟨KPa, ⟨KPb, KPc, KPd⟩, -⟩ := id KP
    obtain ⟨KRa, ⟨KRb, KRc, KRd⟩, -⟩ := id KR
    clear KAa KAb KAc KAd KBa KBb KBc KBd KCa KCb KCc KCd KSa KSb KSc KSd KPa KPb KPc KPd KRa KRb KRc KRd
    obtain ⟨ka, ⟨kb, kc, kd⟩, fz0, fz1, fz2⟩ := id KR
    have hst := below_set3 (b := w12.heap.size) (v0 := (.bool ba)) (v1 := (.slice avD xs.length cvD)) (v2 := (.slice avD' ys.length cvD')) hf (Nat.le_refl _)
    replace hB := below_set3 (b := w12.heap.size) (v0 := (.bool ba)) (v1 := (.slice avD xs.length cvD)) (v2 := (.slice avD' ys.length cvD')) hB (Nat.le_trans gf (Nat.le_refl _))
    replace X := X_f.later hst
    replace Y := Y_f.later hst
    replace U := U_f.later hst
    replace V := V_f.later hst
    replace P := P_f.later hst
    replace Q := Q_f.later hst
    replace S := S_f.later hst
    replace S' := S'_f.later hst
    replace T := T_f.later hst
    replace T' := T'_f.later hst
    replace KA := KA_f.old hst
    replace KB := KB_f.old hst
    replace KC := KC_f.old hst
    replace KS := KS_f.old hst
    replace KP := KP_f.old hst
    replace D := oi_set3 (v0 := (.bool ba)) (v1 := (.slice avD xs.length cvD)) (v2 := (.slice avD' ys.length cvD')) D lR
    replace D' := oi_set3 (v0 := (.bool ba)) (v1 := (.slice avD xs.length cvD)) (v2 := (.slice avD' ys.length cvD')) D' lR
    replace KR := KR.setAll (.bool ba) (.slice avD xs.length cvD) (.slice avD' ys.length cvD')
    clear hf
    have hf := hst
    clear hst
    obtain ⟨KAa, ⟨KAb, KAc, KAd⟩, -⟩ := id KA
    obtain ⟨KBa, ⟨KBb, KBc, KBd⟩, -⟩ := id KB
    obtain ⟨KCa, ⟨KCb, KCc, KCd⟩, -⟩ := id KC
    obtain ⟨KSa, ⟨KSb, KSc, KSd⟩, -⟩ := id KS
    obtain ⟨KPa, ⟨KPb, KPc, KPd⟩, -⟩ := id KP
    obtain ⟨KRa, ⟨KRb, KRc, KRd⟩, -⟩ := id KR
    go_wp2_with fail
    refine (PF.out _ _ _ _ _ _ _ _ _ _ _ _ _ _ D.inI D'.inI X.inI Y.inI).mono ?_
    rintro e w16 ⟨rfl, hb16⟩
    clear ka kb kc kd fz0 fz1 fz2
    clear KAa KAb KAc KAd KBa KBb KBc KBd KCa KCb KCc KCd KSa KSb KSc KSd KPa KPb KPc KPd KRa KRb KRc KRd
    replace X := X.later hb16
    replace Y := Y.later hb16
    replace U := U.later hb16
    replace V := V.later hb16
    replace P := P.later hb16
    replace Q := Q.later hb16
    replace S := S.later hb16
    replace S' := S'.later hb16
    replace T := T.later hb16
    replace T' := T'.later hb16
    replace D := D.later hb16
    replace D' := D'.later hb16
    replace KA := KA.old hb16
    replace KB := KB.old hb16
    replace KC := KC.old hb16
    replace KS := KS.old hb16
    replace KP := KP.old hb16
    replace KR := KR.old hb16
    replace hf := old_trans hf hb16
    replace hB := old_trans hB hb16
    clear hb16
    obtain ⟨KAa, ⟨KAb, KAc, KAd⟩, -⟩ := id KA
    obtain ⟨KBa, ⟨KBb, KBc, KBd⟩, -⟩ := id KB
    obtain ⟨KCa, ⟨KCb, KCc, KCd⟩, -⟩ := id KC
    obtain ⟨KSa, ⟨KSb, KSc, KSd⟩, -⟩ := id KS
    obtain ⟨KPa, ⟨KPb, KPc, KPd⟩, -⟩ := id KP
    obtain ⟨KRa, ⟨KRb, KRc, KRd⟩, -⟩ := id KR
    clear lR DW hmf
    clear X_f Y_f U_f V_f P_f Q_f S_f S'_f T_f T'_f KA_f KB_f KC_f KS_f KP_f hf gf
    clear KAa KAb KAc KAd KBa KBb KBc KBd KCa KCb KCc KCd KSa KSb KSc KSd KPa KPb KPc KPd KRa KRb KRc KRd
    clear D D' KR
    obtain ⟨KAa, ⟨KAb, KAc, KAd⟩, -⟩ := id KA
    obtain ⟨KBa, ⟨KBb, KBc, KBd⟩, -⟩ := id KB
    obtain ⟨KCa, ⟨KCb, KCc, KCd⟩, -⟩ := id KC
    obtain ⟨KSa, ⟨KSb, KSc, KSd⟩, -⟩ := id KS
    obtain ⟨KPa, ⟨KPb, KPc, KPd⟩, -⟩ := id KP
    clear DV
    go_wp2_with fail
    refine (I3.out _ _ _ _ _ _ _ _ _ _ _ _ _ U.inI V.inI P.inI Q.inI (TT.out _ hB)).mono ?_
    rintro e w17 ⟨⟨avG, cvG, avG', cvG', rfl, G, G'⟩, hb17⟩
    clear KAa KAb KAc KAd KBa KBb KBc KBd KCa KCb KCc KCd KSa KSb KSc KSd KPa KPb KPc KPd
    replace X := X.later hb17
    replace Y := Y.later hb17
    replace U := U.later hb17
    replace V := V.later hb17
    replace P := P.later hb17
    replace Q := Q.later hb17
    replace S := S.later hb17
    replace S' := S'.later hb17
    replace T := T.later hb17
    replace T' := T'.later hb17
    replace KA := KA.old hb17
    replace KB := KB.old hb17
    replace KC := KC.old hb17
    replace KS := KS.old hb17
    replace KP := KP.old hb17
    replace hB := old_trans hB hb17
    clear hb17
    obtain ⟨KAa, ⟨KAb, KAc, KAd⟩, -⟩ := id KA
    obtain ⟨KBa, ⟨KBb, KBc, KBd⟩, -⟩ := id KB
    obtain ⟨KCa, ⟨KCb, KCc, KCd⟩, -⟩ := id KC
    obtain ⟨KSa, ⟨KSb, KSc, KSd⟩, -⟩ := id KS
    obtain ⟨KPa, ⟨KPb, KPc, KPd⟩, -⟩ := id KP
    clear KAa KAb KAc KAd KBa KBb KBc KBd KCa KCb KCc KCd KSa KSb KSc KSd KPa KPb KPc KPd
    have KG_ := Cel3.new w17 (.bool s3) (.slice avG t3.length cvG) (.slice avG' u3.length cvG') 25
    have halKG : Below w17.heap.size w17 (w17.alloc (.cells #[.bool s3, .slice avG t3.length cvG, .slice avG' u3.length cvG'] 25)) := old_alloc (Below.refl _ _) _
    replace X := X.later halKG
    replace Y := Y.later halKG
    replace U := U.later halKG
    replace V := V.later halKG
    replace P := P.later halKG
    replace Q := Q.later halKG
    replace S := S.later halKG
    replace S' := S'.later halKG
    replace T := T.later halKG
    replace T' := T'.later halKG
    replace G := G.later halKG
    replace G' := G'.later halKG
    replace KA := KA.old halKG
    replace KB := KB.old halKG
    replace KC := KC.old halKG
    replace KS := KS.old halKG
    replace KP := KP.old halKG
    replace hB := old_trans hB halKG
    clear halKG
    have KG := KG_
    clear KG_
    obtain ⟨KAa, ⟨KAb, KAc, KAd⟩, -⟩ := id KA
    obtain ⟨KBa, ⟨KBb, KBc, KBd⟩, -⟩ := id KB
    obtain ⟨KCa, ⟨KCb, KCc, KCd⟩, -⟩ := id KC
    obtain ⟨KSa, ⟨KSb, KSc, KSd⟩, -⟩ := id KS
    obtain ⟨KPa, ⟨KPb, KPc, KPd⟩, -⟩ := id KP
    obtain ⟨KGa, ⟨KGb, KGc, KGd⟩, -⟩ := id KG
    go_wp2_with fail
    refine (I4.out _ _ _ _ _ _ _ _ _ _ _ _ _ U.inI V.inI P.inI Q.inI (TT.out _ hB)).mono ?_
    rintro e w18 ⟨⟨avM, cvM, avM', cvM', rfl, M, M'⟩, hb18⟩
    clear KAa KAb KAc KAd KBa KBb KBc KBd KCa KCb KCc KCd KSa KSb KSc KSd KPa KPb KPc KPd KGa KGb KGc KGd
    replace X := X.later hb18
    replace Y := Y.later hb18
    replace U := U.later hb18
    replace V := V.later hb18
    replace P := P.later hb18
    replace Q := Q.later hb18
    replace S := S.later hb18
    replace S' := S'.later hb18
    replace T := T.later hb18
    replace T' := T'.later hb18
    replace G := G.later hb18
    replace G' := G'.later hb18
    replace KA := KA.old hb18
    replace KB := KB.old hb18
    replace KC := KC.old hb18
    replace KS := KS.old hb18
    replace KP := KP.old hb18
    replace KG := KG.old hb18
    replace hB := old_trans hB hb18
    clear hb18
    obtain ⟨KAa, ⟨KAb, KAc, KAd⟩, -⟩ := id KA
    obtain ⟨KBa, ⟨KBb, KBc, KBd⟩, -⟩ := id KB
    obtain ⟨KCa, ⟨KCb, KCc, KCd⟩, -⟩ := id KC
    obtain ⟨KSa, ⟨KSb, KSc, KSd⟩, -⟩ := id KS
    obtain ⟨KPa, ⟨KPb, KPc, KPd⟩, -⟩ := id KP
    obtain ⟨KGa, ⟨KGb, KGc, KGd⟩, -⟩ := id KG
    clear KAa KAb KAc KAd KBa KBb KBc KBd KCa KCb KCc KCd KSa KSb KSc KSd KPa KPb KPc KPd KGa KGb KGc KGd
    have KM_ := Cel3.new w18 (.bool s4) (.slice avM t4.length cvM) (.slice avM' u4.length cvM') 25
    have halKM : Below w18.heap.size w18 (w18.alloc (.cells #[.bool s4, .slice avM t4.length cvM, .slice avM' u4.length cvM'] 25)) := old_alloc (Below.refl _ _) _
    replace X := X.later halKM
    replace Y := Y.later halKM
    replace U := U.later halKM
    replace V := V.later halKM
    replace P := P.later halKM
    replace Q := Q.later halKM
    replace S := S.later halKM
    replace S' := S'.later halKM
    replace T := T.later halKM
    replace T' := T'.later halKM
    replace G := G.later halKM
    replace G' := G'.later halKM
    replace M := M.later halKM
    replace M' := M'.later halKM
    replace KA := KA.old halKM
    replace KB := KB.old halKM
    replace KC := KC.old halKM
    replace KS := KS.old halKM
    replace KP := KP.old halKM
    replace KG := KG.old halKM
    replace hB := old_trans hB halKM
    clear halKM
    have KM := KM_
    clear KM_
    obtain ⟨KAa, ⟨KAb, KAc, KAd⟩, -⟩ := id KA
    obtain ⟨KBa, ⟨KBb, KBc, KBd⟩, -⟩ := id KB
    obtain ⟨KCa, ⟨KCb, KCc, KCd⟩, -⟩ := id KC
    obtain ⟨KSa, ⟨KSb, KSc, KSd⟩, -⟩ := id KS
    obtain ⟨KPa, ⟨KPb, KPc, KPd⟩, -⟩ := id KP
    obtain ⟨KGa, ⟨KGb, KGc, KGd⟩, -⟩ := id KG
    obtain ⟨KMa, ⟨KMb, KMc, KMd⟩, -⟩ := id KM
    go_wp2_with fail
    refine (I5.out _ _ _ _ _ _ _ _ _ _ _ _ _ X.inI Y.inI P.inI Q.inI (TT.out _ hB)).mono ?_
    rintro e w19 ⟨⟨avN, cvN, avN', cvN', rfl, N, N'⟩, hb19⟩
    clear KAa KAb KAc KAd KBa KBb KBc KBd KCa KCb KCc KCd KSa KSb KSc KSd KPa KPb KPc KPd KGa KGb KGc KGd KMa KMb KMc KMd
    replace X := X.later hb19
    replace Y := Y.later hb19
    replace U := U.later hb19
    replace V := V.later hb19
    replace P := P.later hb19
    replace Q := Q.later hb19
    replace S := S.later hb19
    replace S' := S'.later hb19
    replace T := T.later hb19
    replace T' := T'.later hb19
    replace G := G.later hb19
    replace G' := G'.later hb19
    replace M := M.later hb19
    replace M' := M'.later hb19
    replace KA := KA.old hb19
    replace KB := KB.old hb19
    replace KC := KC.old hb19
    replace KS := KS.old hb19
    replace KP := KP.old hb19
    replace KG := KG.old hb19
    replace KM := KM.old hb19
    replace hB := old_trans hB hb19
    clear hb19
    obtain ⟨KAa, ⟨KAb, KAc, KAd⟩, -⟩ := id KA
    obtain ⟨KBa, ⟨KBb, KBc, KBd⟩, -⟩ := id KB
    obtain ⟨KCa, ⟨KCb, KCc, KCd⟩, -⟩ := id KC
    obtain ⟨KSa, ⟨KSb, KSc, KSd⟩, -⟩ := id KS
    obtain ⟨KPa, ⟨KPb, KPc, KPd⟩, -⟩ := id KP
    obtain ⟨KGa, ⟨KGb, KGc, KGd⟩, -⟩ := id KG
    obtain ⟨KMa, ⟨KMb, KMc, KMd⟩, -⟩ := id KM
    clear KAa KAb KAc KAd KBa KBb KBc KBd KCa KCb KCc KCd KSa KSb KSc KSd KPa KPb KPc KPd KGa KGb KGc KGd KMa KMb KMc KMd
    have KN_ := Cel3.new w19 (.bool s5) (.slice avN t5.length cvN) (.slice avN' u5.length cvN') 25
    have halKN : Below w19.heap.size w19 (w19.alloc (.cells #[.bool s5, .slice avN t5.length cvN, .slice avN' u5.length cvN'] 25)) := old_alloc (Below.refl _ _) _
    replace X := X.later halKN
    replace Y := Y.later halKN
    replace U := U.later halKN
    replace V := V.later halKN
    replace P := P.later halKN
    replace Q := Q.later halKN
    replace S := S.later halKN
    replace S' := S'.later halKN
    replace T := T.later halKN
    replace T' := T'.later halKN
    replace G := G.later halKN
    replace G' := G'.later halKN
    replace M := M.later halKN
    replace M' := M'.later halKN
    replace N := N.later halKN
    replace N' := N'.later halKN
    replace KA := KA.old halKN
    replace KB := KB.old halKN
    replace KC := KC.old halKN
    replace KS := KS.old halKN
    replace KP := KP.old halKN
    replace KG := KG.old halKN
    replace KM := KM.old halKN
    replace hB := old_trans hB halKN
    clear halKN
    have KN := KN_
    clear KN_
    obtain ⟨KAa, ⟨KAb, KAc, KAd⟩, -⟩ := id KA
    obtain ⟨KBa, ⟨KBb, KBc, KBd⟩, -⟩ := id KB
    obtain ⟨KCa, ⟨KCb, KCc, KCd⟩, -⟩ := id KC
    obtain ⟨KSa, ⟨KSb, KSc, KSd⟩, -⟩ := id KS
    obtain ⟨KPa, ⟨KPb, KPc, KPd⟩, -⟩ := id KP
    obtain ⟨KGa, ⟨KGb, KGc, KGd⟩, -⟩ := id KG
    obtain ⟨KMa, ⟨KMb, KMc, KMd⟩, -⟩ := id KM
    obtain ⟨KNa, ⟨KNb, KNc, KNd⟩, -⟩ := id KN
    clear I3 I4 I5
    cases r3
    · as_aux_lemma =>
      clear Y6
      go_wp2
      go_ret
      exact ⟨rfl, hB⟩
    cases r4
    · as_aux_lemma =>
      clear Y6
      go_wp2
      go_ret
      exact ⟨rfl, hB⟩
    cases r5
    · as_aux_lemma =>
      clear Y6
      go_wp2
      go_ret
      exact ⟨rfl, hB⟩
    obtain ⟨r6, s6, t6, u6, r7, s7, t7, u7, r8, s8, t8, u8, ⟨A6_, B6_⟩, ⟨A7_, B7_⟩, A8_, B8_⟩ := Y6.out rfl rfl rfl
    have A6 := hd A6_
    have B6 := hd B6_
    have A7 := hd A7_
    have B7 := hd B7_
    have A8 := hd A8_
    have B8 := hd B8_
    clear Y6 A6_ B6_ A7_ B7_ A8_ B8_
    clear KAa KAb KAc KAd KBa KBb KBc KBd KCa KCb KCc KCd KSa KSb KSc KSd KPa KPb KPc KPd KGa KGb KGc KGd KMa KMb KMc KMd KNa KNb KNc KNd
    clear U V KB
    obtain ⟨KAa, ⟨KAb, KAc, KAd⟩, -⟩ := id KA
    obtain ⟨KCa, ⟨KCb, KCc, KCd⟩, -⟩ := id KC
    obtain ⟨KSa, ⟨KSb, KSc, KSd⟩, -⟩ := id KS
    obtain ⟨KPa, ⟨KPb, KPc, KPd⟩, -⟩ := id KP
    obtain ⟨KGa, ⟨KGb, KGc, KGd⟩, -⟩ := id KG
    obtain ⟨KMa, ⟨KMb, KMc, KMd⟩, -⟩ := id KM
    obtain ⟨KNa, ⟨KNb, KNc, KNd⟩, -⟩ := id KN
    go_wp2_with fail
    refine (A6.out _ _ _ _ _ _ _ _ _ _ _ _ _ S.inI S'.inI P.inI Q.inI (TT.out _ hB)).mono ?_
    rintro e w20 ⟨⟨avL, cvL, avL', cvL', rfl, L, L'⟩, hb20⟩
    clear KAa KAb KAc KAd KCa KCb KCc KCd KSa KSb KSc KSd KPa KPb KPc KPd KGa KGb KGc KGd KMa KMb KMc KMd KNa KNb KNc KNd
    replace X := X.later hb20
    replace Y := Y.later hb20
    replace P := P.later hb20
    replace Q := Q.later hb20
    replace S := S.later hb20
    replace S' := S'.later hb20
    replace T := T.later hb20
    replace T' := T'.later hb20
    replace G := G.later hb20
    replace G' := G'.later hb20
    replace M := M.later hb20
    replace M' := M'.later hb20
    replace N := N.later hb20
    replace N' := N'.later hb20
    replace KA := KA.old hb20
    replace KC := KC.old hb20
    replace KS := KS.old hb20
    replace KP := KP.old hb20
    replace KG := KG.old hb20
    replace KM := KM.old hb20
    replace KN := KN.old hb20
    replace hB := old_trans hB hb20
    clear hb20
    obtain ⟨KAa, ⟨KAb, KAc, KAd⟩, -⟩ := id KA
    obtain ⟨KCa, ⟨KCb, KCc, KCd⟩, -⟩ := id KC
    obtain ⟨KSa, ⟨KSb, KSc, KSd⟩, -⟩ := id KS
    obtain ⟨KPa, ⟨KPb, KPc, KPd⟩, -⟩ := id KP
    obtain ⟨KGa, ⟨KGb, KGc, KGd⟩, -⟩ := id KG
    obtain ⟨KMa, ⟨KMb, KMc, KMd⟩, -⟩ := id KM
    obtain ⟨KNa, ⟨KNb, KNc, KNd⟩, -⟩ := id KN
    have X_l := X
    have Y_l := Y
    have P_l := P
    have Q_l := Q
    have S_l := S
    have S'_l := S'
    have T_l := T
    have T'_l := T'
    have G_l := G
    have G'_l := G'
    have M_l := M
    have M'_l := M'
    have N_l := N
    have N'_l := N'
    have L_l := L
    have L'_l := L'
    have KA_l := KA
    have KC_l := KC
    have KS_l := KS
    have KP_l := KP
    have KG_l := KG
    have KM_l := KM
    have KN_l := KN
    have gl := hB.size
    have hl : Below w20.heap.size w20 w20 := Below.refl _ _
    clear KAa KAb KAc KAd KCa KCb KCc KCd KSa KSb KSc KSd KPa KPb KPc KPd KGa KGb KGc KGd KMa KMb KMc KMd KNa KNb KNc KNd
    have KL_ := Cel3.new w20 (.bool s6) (.slice avL t6.length cvL) (.slice avL' u6.length cvL') 25
    have halKL : Below w20.heap.size w20 (w20.alloc (.cells #[.bool s6, .slice avL t6.length cvL, .slice avL' u6.length cvL'] 25)) := old_alloc (Below.refl _ _) _
    replace X := X.later halKL
    replace Y := Y.later halKL
    replace P := P.later halKL
    replace Q := Q.later halKL
    replace S := S.later halKL
    replace S' := S'.later halKL
    replace T := T.later halKL
    replace T' := T'.later halKL
    replace G := G.later halKL
    replace G' := G'.later halKL
    replace M := M.later halKL
    replace M' := M'.later halKL
    replace N := N.later halKL
    replace N' := N'.later halKL
    replace L := L.later halKL
    replace L' := L'.later halKL
    replace KA := KA.old halKL
    replace KC := KC.old halKL
    replace KS := KS.old halKL
    replace KP := KP.old halKL
    replace KG := KG.old halKL
    replace KM := KM.old halKL
    replace KN := KN.old halKL
    replace hl := old_trans hl halKL
    replace hB := old_trans hB halKL
    clear halKL
    have KL := KL_
    clear KL_
    obtain ⟨KAa, ⟨KAb, KAc, KAd⟩, -⟩ := id KA
    obtain ⟨KCa, ⟨KCb, KCc, KCd⟩, -⟩ := id KC
    obtain ⟨KSa, ⟨KSb, KSc, KSd⟩, -⟩ := id KS
    obtain ⟨KPa, ⟨KPb, KPc, KPd⟩, -⟩ := id KP
    obtain ⟨KGa, ⟨KGb, KGc, KGd⟩, -⟩ := id KG
    obtain ⟨KMa, ⟨KMb, KMc, KMd⟩, -⟩ := id KM
    obtain ⟨KNa, ⟨KNb, KNc, KNd⟩, -⟩ := id KN
    obtain ⟨KLa, ⟨KLb, KLc, KLd⟩, -⟩ := id KL
    go_wp2_with fail
    refine (B6.out _ _ _ _ _ _ _ _ _ _ _ _ _ X.inI Y.inI G.inI G'.inI (TT.out _ hB)).mono ?_
    rintro e w21 ⟨⟨avO, cvO, avO', cvO', rfl, O, O'⟩, hb21⟩
    clear KAa KAb KAc KAd KCa KCb KCc KCd KSa KSb KSc KSd KPa KPb KPc KPd KGa KGb KGc KGd KMa KMb KMc KMd KNa KNb KNc KNd KLa KLb KLc KLd
    replace X := X.later hb21
    replace Y := Y.later hb21
    replace P := P.later hb21
    replace Q := Q.later hb21
    replace S := S.later hb21
    replace S' := S'.later hb21
    replace T := T.later hb21
    replace T' := T'.later hb21
    replace G := G.later hb21
    replace G' := G'.later hb21
    replace M := M.later hb21
    replace M' := M'.later hb21
    replace N := N.later hb21
    replace N' := N'.later hb21
    replace L := L.later hb21
    replace L' := L'.later hb21
    replace KA := KA.old hb21
    replace KC := KC.old hb21
    replace KS := KS.old hb21
    replace KP := KP.old hb21
    replace KG := KG.old hb21
    replace KM := KM.old hb21
    replace KN := KN.old hb21
    replace KL := KL.old hb21
    replace hl := old_trans hl hb21
    replace hB := old_trans hB hb21
    clear hb21
    obtain ⟨KAa, ⟨KAb, KAc, KAd⟩, -⟩ := id KA
    obtain ⟨KCa, ⟨KCb, KCc, KCd⟩, -⟩ := id KC
    obtain ⟨KSa, ⟨KSb, KSc, KSd⟩, -⟩ := id KS
    obtain ⟨KPa, ⟨KPb, KPc, KPd⟩, -⟩ := id KP
    obtain ⟨KGa, ⟨KGb, KGc, KGd⟩, -⟩ := id KG
    obtain ⟨KMa, ⟨KMb, KMc, KMd⟩, -⟩ := id KM
    obtain ⟨KNa, ⟨KNb, KNc, KNd⟩, -⟩ := id KN
    obtain ⟨KLa, ⟨KLb, KLc, KLd⟩, -⟩ := id KL
    have nlo : w20.heap.size ≠ w21.heap.size := Nat.ne_of_lt KL.1
    have glo : w20.heap.size ≤ w21.heap.size := Nat.le_of_lt KL.1
    clear KAa KAb KAc KAd KCa KCb KCc KCd KSa KSb KSc KSd KPa KPb KPc KPd KGa KGb KGc KGd KMa KMb KMc KMd KNa KNb KNc KNd KLa KLb KLc KLd
    have KO_ := Cel3.new w21 (.bool s6) (.slice avO t6.length cvO) (.slice avO' u6.length cvO') 25
    have halKO : Below w21.heap.size w21 (w21.alloc (.cells #[.bool s6, .slice avO t6.length cvO, .slice avO' u6.length cvO'] 25)) := old_alloc (Below.refl _ _) _
    replace X := X.later halKO
    replace Y := Y.later halKO
    replace P := P.later halKO
    replace Q := Q.later halKO
    replace S := S.later halKO
    replace S' := S'.later halKO
    replace T := T.later halKO
    replace T' := T'.later halKO
    replace G := G.later halKO
    replace G' := G'.later halKO
    replace M := M.later halKO
    replace M' := M'.later halKO
    replace N := N.later halKO
    replace N' := N'.later halKO
    replace L := L.later halKO
    replace L' := L'.later halKO
    replace O := O.later halKO
    replace O' := O'.later halKO
    replace KA := KA.old halKO
    replace KC := KC.old halKO
    replace KS := KS.old halKO
    replace KP := KP.old halKO
    replace KG := KG.old halKO
    replace KM := KM.old halKO
    replace KN := KN.old halKO
    replace KL := KL.old halKO
    replace hl := old_trans hl halKO
    replace hB := old_trans hB halKO
    clear halKO
    have KO := KO_
    clear KO_
    obtain ⟨KAa, ⟨KAb, KAc, KAd⟩, -⟩ := id KA
    obtain ⟨KCa, ⟨KCb, KCc, KCd⟩, -⟩ := id KC
    obtain ⟨KSa, ⟨KSb, KSc, KSd⟩, -⟩ := id KS
    obtain ⟨KPa, ⟨KPb, KPc, KPd⟩, -⟩ := id KP
    obtain ⟨KGa, ⟨KGb, KGc, KGd⟩, -⟩ := id KG
    obtain ⟨KMa, ⟨KMb, KMc, KMd⟩, -⟩ := id KM
    obtain ⟨KNa, ⟨KNb, KNc, KNd⟩, -⟩ := id KN
    obtain ⟨KLa, ⟨KLb, KLc, KLd⟩, -⟩ := id KL
    obtain ⟨KOa, ⟨KOb, KOc, KOd⟩, -⟩ := id KO
    cases r6
    · as_aux_lemma =>
      clear L L' O O'
      have lL := KL.1
      have lO := KO.1
      go_wp2_with fail
      refine (A7.out _ _ _ _ _ _ _ _ _ _ _ _ _ T.inI T'.inI P.inI Q.inI (TT.out _ hB)).mono ?_
      rintro e w22 ⟨⟨avL, cvL, avL', cvL', rfl, L, L'⟩, hb22⟩
      clear KAa KAb KAc KAd KCa KCb KCc KCd KSa KSb KSc KSd KPa KPb KPc KPd KGa KGb KGc KGd KMa KMb KMc KMd KNa KNb KNc KNd KLa KLb KLc KLd KOa KOb KOc KOd
      replace X := X.later hb22
      replace Y := Y.later hb22
      replace P := P.later hb22
      replace Q := Q.later hb22
      replace S := S.later hb22
      replace S' := S'.later hb22
      replace T := T.later hb22
      replace T' := T'.later hb22
      replace G := G.later hb22
      replace G' := G'.later hb22
      replace M := M.later hb22
      replace M' := M'.later hb22
      replace N := N.later hb22
      replace N' := N'.later hb22
      replace KA := KA.old hb22
      replace KC := KC.old hb22
      replace KS := KS.old hb22
      replace KP := KP.old hb22
      replace KG := KG.old hb22
      replace KM := KM.old hb22
      replace KN := KN.old hb22
      replace KL := KL.old hb22
      replace KO := KO.old hb22
      replace hl := old_trans hl hb22
      replace hB := old_trans hB hb22
      clear hb22
      obtain ⟨KAa, ⟨KAb, KAc, KAd⟩, -⟩ := id KA
      obtain ⟨KCa, ⟨KCb, KCc, KCd⟩, -⟩ := id KC
      obtain ⟨KSa, ⟨KSb, KSc, KSd⟩, -⟩ := id KS
      obtain ⟨KPa, ⟨KPb, KPc, KPd⟩, -⟩ := id KP
      obtain ⟨KGa, ⟨KGb, KGc, KGd⟩, -⟩ := id KG
      obtain ⟨KMa, ⟨KMb, KMc, KMd⟩, -⟩ := id KM
      obtain ⟨KNa, ⟨KNb, KNc, KNd⟩, -⟩ := id KN
      obtain ⟨KLa, ⟨KLb, KLc, KLd⟩, -⟩ := id KL
      obtain ⟨KOa, ⟨KOb, KOc, KOd⟩, -⟩ := id KO
      clear KAa KAb KAc KAd KCa KCb KCc KCd KSa KSb KSc KSd KPa KPb KPc KPd KGa KGb KGc KGd KMa KMb KMc KMd KNa KNb KNc KNd KLa KLb KLc KLd KOa KOb KOc KOd
      obtain ⟨ka, ⟨kb, kc, kd⟩, fz0, fz1, fz2⟩ := id KL
      have hst := below_set3 (b := w20.heap.size) (v0 := (.bool s7)) (v1 := (.slice avL t7.length cvL)) (v2 := (.slice avL' u7.length cvL')) hl (Nat.le_refl _)
      replace hB := below_set3 (b := w20.heap.size) (v0 := (.bool s7)) (v1 := (.slice avL t7.length cvL)) (v2 := (.slice avL' u7.length cvL')) hB (Nat.le_trans gl (Nat.le_refl _))
      replace X := X_l.later hst
      replace Y := Y_l.later hst
      replace P := P_l.later hst
      replace Q := Q_l.later hst
      replace S := S_l.later hst
      replace S' := S'_l.later hst
      replace T := T_l.later hst
      replace T' := T'_l.later hst
      replace G := G_l.later hst
      replace G' := G'_l.later hst
      replace M := M_l.later hst
      replace M' := M'_l.later hst
      replace N := N_l.later hst
      replace N' := N'_l.later hst
      replace KA := KA_l.old hst
      replace KC := KC_l.old hst
      replace KS := KS_l.old hst
      replace KP := KP_l.old hst
      replace KG := KG_l.old hst
      replace KM := KM_l.old hst
      replace KN := KN_l.old hst
      replace L := oi_set3 (v0 := (.bool s7)) (v1 := (.slice avL t7.length cvL)) (v2 := (.slice avL' u7.length cvL')) L lL
      replace L' := oi_set3 (v0 := (.bool s7)) (v1 := (.slice avL t7.length cvL)) (v2 := (.slice avL' u7.length cvL')) L' lL
      replace KO := Cel3.far3 (x := (.bool s7)) (y := (.slice avL t7.length cvL)) (z := (.slice avL' u7.length cvL')) KO nlo.symm
      replace KL := KL.setAll (.bool s7) (.slice avL t7.length cvL) (.slice avL' u7.length cvL')
      clear hl
      have hl := hst
      clear hst
      obtain ⟨KAa, ⟨KAb, KAc, KAd⟩, -⟩ := id KA
      obtain ⟨KCa, ⟨KCb, KCc, KCd⟩, -⟩ := id KC
      obtain ⟨KSa, ⟨KSb, KSc, KSd⟩, -⟩ := id KS
      obtain ⟨KPa, ⟨KPb, KPc, KPd⟩, -⟩ := id KP
      obtain ⟨KGa, ⟨KGb, KGc, KGd⟩, -⟩ := id KG
      obtain ⟨KMa, ⟨KMb, KMc, KMd⟩, -⟩ := id KM
      obtain ⟨KNa, ⟨KNb, KNc, KNd⟩, -⟩ := id KN
      obtain ⟨KLa, ⟨KLb, KLc, KLd⟩, -⟩ := id KL
      obtain ⟨KOa, ⟨KOb, KOc, KOd⟩, -⟩ := id KO
      have lP := KO.1
      go_wp2_with fail
      refine (B7.out _ _ _ _ _ _ _ _ _ _ _ _ _ X.inI Y.inI M.inI M'.inI (TT.out _ hB)).mono ?_
      rintro e w23 ⟨⟨avO, cvO, avO', cvO', rfl, O, O'⟩, hb23⟩
      clear ka kb kc kd fz0 fz1 fz2
      clear KAa KAb KAc KAd KCa KCb KCc KCd KSa KSb KSc KSd KPa KPb KPc KPd KGa KGb KGc KGd KMa KMb KMc KMd KNa KNb KNc KNd KLa KLb KLc KLd KOa KOb KOc KOd
      replace X := X.later hb23
      replace Y := Y.later hb23
      replace P := P.later hb23
      replace Q := Q.later hb23
      replace S := S.later hb23
      replace S' := S'.later hb23
      replace T := T.later hb23
      replace T' := T'.later hb23
      replace G := G.later hb23
      replace G' := G'.later hb23
      replace M := M.later hb23
      replace M' := M'.later hb23
      replace N := N.later hb23
      replace N' := N'.later hb23
      replace L := L.later hb23
      replace L' := L'.later hb23
      replace KA := KA.old hb23
      replace KC := KC.old hb23
      replace KS := KS.old hb23
      replace KP := KP.old hb23
      replace KG := KG.old hb23
      replace KM := KM.old hb23
      replace KN := KN.old hb23
      replace KL := KL.old hb23
      replace KO := KO.old hb23
      replace hl := old_trans hl hb23
      replace hB := old_trans hB hb23
      clear hb23
      obtain ⟨KAa, ⟨KAb, KAc, KAd⟩, -⟩ := id KA
      obtain ⟨KCa, ⟨KCb, KCc, KCd⟩, -⟩ := id KC
      obtain ⟨KSa, ⟨KSb, KSc, KSd⟩, -⟩ := id KS
      obtain ⟨KPa, ⟨KPb, KPc, KPd⟩, -⟩ := id KP
      obtain ⟨KGa, ⟨KGb, KGc, KGd⟩, -⟩ := id KG
      obtain ⟨KMa, ⟨KMb, KMc, KMd⟩, -⟩ := id KM
      obtain ⟨KNa, ⟨KNb, KNc, KNd⟩, -⟩ := id KN
      obtain ⟨KLa, ⟨KLb, KLc, KLd⟩, -⟩ := id KL
      obtain ⟨KOa, ⟨KOb, KOc, KOd⟩, -⟩ := id KO
      clear KAa KAb KAc KAd KCa KCb KCc KCd KSa KSb KSc KSd KPa KPb KPc KPd KGa KGb KGc KGd KMa KMb KMc KMd KNa KNb KNc KNd KLa KLb KLc KLd KOa KOb KOc KOd
      obtain ⟨ka, ⟨kb, kc, kd⟩, fz0, fz1, fz2⟩ := id KO
      have hst := below_set3 (b := w21.heap.size) (v0 := (.bool s7)) (v1 := (.slice avO t7.length cvO)) (v2 := (.slice avO' u7.length cvO')) hl glo
      replace hB := below_set3 (b := w21.heap.size) (v0 := (.bool s7)) (v1 := (.slice avO t7.length cvO)) (v2 := (.slice avO' u7.length cvO')) hB (Nat.le_trans gl glo)
      replace X := X_l.later hst
      replace Y := Y_l.later hst
      replace P := P_l.later hst
      replace Q := Q_l.later hst
      replace S := S_l.later hst
      replace S' := S'_l.later hst
      replace T := T_l.later hst
      replace T' := T'_l.later hst
      replace G := G_l.later hst
      replace G' := G'_l.later hst
      replace M := M_l.later hst
      replace M' := M'_l.later hst
      replace N := N_l.later hst
      replace N' := N'_l.later hst
      replace KA := KA_l.old hst
      replace KC := KC_l.old hst
      replace KS := KS_l.old hst
      replace KP := KP_l.old hst
      replace KG := KG_l.old hst
      replace KM := KM_l.old hst
      replace KN := KN_l.old hst
      replace L := oi_set3 (v0 := (.bool s7)) (v1 := (.slice avO t7.length cvO)) (v2 := (.slice avO' u7.length cvO')) L lO
      replace L' := oi_set3 (v0 := (.bool s7)) (v1 := (.slice avO t7.length cvO)) (v2 := (.slice avO' u7.length cvO')) L' lO
      replace O := oi_set3 (v0 := (.bool s7)) (v1 := (.slice avO t7.length cvO)) (v2 := (.slice avO' u7.length cvO')) O lP
      replace O' := oi_set3 (v0 := (.bool s7)) (v1 := (.slice avO t7.length cvO)) (v2 := (.slice avO' u7.length cvO')) O' lP
      replace KL := Cel3.far3 (x := (.bool s7)) (y := (.slice avO t7.length cvO)) (z := (.slice avO' u7.length cvO')) KL nlo
      replace KO := KO.setAll (.bool s7) (.slice avO t7.length cvO) (.slice avO' u7.length cvO')
      clear hl
      have hl := hst
      clear hst
      obtain ⟨KAa, ⟨KAb, KAc, KAd⟩, -⟩ := id KA
      obtain ⟨KCa, ⟨KCb, KCc, KCd⟩, -⟩ := id KC
      obtain ⟨KSa, ⟨KSb, KSc, KSd⟩, -⟩ := id KS
      obtain ⟨KPa, ⟨KPb, KPc, KPd⟩, -⟩ := id KP
      obtain ⟨KGa, ⟨KGb, KGc, KGd⟩, -⟩ := id KG
      obtain ⟨KMa, ⟨KMb, KMc, KMd⟩, -⟩ := id KM
      obtain ⟨KNa, ⟨KNb, KNc, KNd⟩, -⟩ := id KN
      obtain ⟨KLa, ⟨KLb, KLc, KLd⟩, -⟩ := id KL
      obtain ⟨KOa, ⟨KOb, KOc, KOd⟩, -⟩ := id KO
      clear lL lO lP
      cases r7
      · as_aux_lemma =>
        clear L L' O O'
        have lL := KL.1
        have lO := KO.1
        go_wp2_with fail
        refine (A8.out _ _ _ _ _ _ _ _ _ _ _ _ _ X.inI Y.inI G.inI G'.inI (TT.out _ hB)).mono ?_
        rintro e w24 ⟨⟨avL, cvL, avL', cvL', rfl, L, L'⟩, hb24⟩
        clear ka kb kc kd fz0 fz1 fz2
        clear KAa KAb KAc KAd KCa KCb KCc KCd KSa KSb KSc KSd KPa KPb KPc KPd KGa KGb KGc KGd KMa KMb KMc KMd KNa KNb KNc KNd KLa KLb KLc KLd KOa KOb KOc KOd
        replace X := X.later hb24
        replace Y := Y.later hb24
        replace P := P.later hb24
        replace Q := Q.later hb24
        replace S := S.later hb24
        replace S' := S'.later hb24
        replace T := T.later hb24
        replace T' := T'.later hb24
        replace G := G.later hb24
        replace G' := G'.later hb24
        replace M := M.later hb24
        replace M' := M'.later hb24
        replace N := N.later hb24
        replace N' := N'.later hb24
        replace KA := KA.old hb24
        replace KC := KC.old hb24
        replace KS := KS.old hb24
        replace KP := KP.old hb24
        replace KG := KG.old hb24
        replace KM := KM.old hb24
        replace KN := KN.old hb24
        replace KL := KL.old hb24
        replace KO := KO.old hb24
        replace hl := old_trans hl hb24
        replace hB := old_trans hB hb24
        clear hb24
        obtain ⟨KAa, ⟨KAb, KAc, KAd⟩, -⟩ := id KA
        obtain ⟨KCa, ⟨KCb, KCc, KCd⟩, -⟩ := id KC
        obtain ⟨KSa, ⟨KSb, KSc, KSd⟩, -⟩ := id KS
        obtain ⟨KPa, ⟨KPb, KPc, KPd⟩, -⟩ := id KP
        obtain ⟨KGa, ⟨KGb, KGc, KGd⟩, -⟩ := id KG
        obtain ⟨KMa, ⟨KMb, KMc, KMd⟩, -⟩ := id KM
        obtain ⟨KNa, ⟨KNb, KNc, KNd⟩, -⟩ := id KN
        obtain ⟨KLa, ⟨KLb, KLc, KLd⟩, -⟩ := id KL
        obtain ⟨KOa, ⟨KOb, KOc, KOd⟩, -⟩ := id KO
        clear KAa KAb KAc KAd KCa KCb KCc KCd KSa KSb KSc KSd KPa KPb KPc KPd KGa KGb KGc KGd KMa KMb KMc KMd KNa KNb KNc KNd KLa KLb KLc KLd KOa KOb KOc KOd
        obtain ⟨ka, ⟨kb, kc, kd⟩, fz0, fz1, fz2⟩ := id KL
        have hst := below_set3 (b := w20.heap.size) (v0 := (.bool s8)) (v1 := (.slice avL t8.length cvL)) (v2 := (.slice avL' u8.length cvL')) hl (Nat.le_refl _)
        replace hB := below_set3 (b := w20.heap.size) (v0 := (.bool s8)) (v1 := (.slice avL t8.length cvL)) (v2 := (.slice avL' u8.length cvL')) hB (Nat.le_trans gl (Nat.le_refl _))
        replace X := X_l.later hst
        replace Y := Y_l.later hst
        replace P := P_l.later hst
        replace Q := Q_l.later hst
        replace S := S_l.later hst
        replace S' := S'_l.later hst
        replace T := T_l.later hst
        replace T' := T'_l.later hst
        replace G := G_l.later hst
        replace G' := G'_l.later hst
        replace M := M_l.later hst
        replace M' := M'_l.later hst
        replace N := N_l.later hst
        replace N' := N'_l.later hst
        replace KA := KA_l.old hst
        replace KC := KC_l.old hst
        replace KS := KS_l.old hst
        replace KP := KP_l.old hst
        replace KG := KG_l.old hst
        replace KM := KM_l.old hst
        replace KN := KN_l.old hst
        replace L := oi_set3 (v0 := (.bool s8)) (v1 := (.slice avL t8.length cvL)) (v2 := (.slice avL' u8.length cvL')) L lL
        replace L' := oi_set3 (v0 := (.bool s8)) (v1 := (.slice avL t8.length cvL)) (v2 := (.slice avL' u8.length cvL')) L' lL
        replace KO := Cel3.far3 (x := (.bool s8)) (y := (.slice avL t8.length cvL)) (z := (.slice avL' u8.length cvL')) KO nlo.symm
        replace KL := KL.setAll (.bool s8) (.slice avL t8.length cvL) (.slice avL' u8.length cvL')
        clear hl
        have hl := hst
        clear hst
        obtain ⟨KAa, ⟨KAb, KAc, KAd⟩, -⟩ := id KA
        obtain ⟨KCa, ⟨KCb, KCc, KCd⟩, -⟩ := id KC
        obtain ⟨KSa, ⟨KSb, KSc, KSd⟩, -⟩ := id KS
        obtain ⟨KPa, ⟨KPb, KPc, KPd⟩, -⟩ := id KP
        obtain ⟨KGa, ⟨KGb, KGc, KGd⟩, -⟩ := id KG
        obtain ⟨KMa, ⟨KMb, KMc, KMd⟩, -⟩ := id KM
        obtain ⟨KNa, ⟨KNb, KNc, KNd⟩, -⟩ := id KN
        obtain ⟨KLa, ⟨KLb, KLc, KLd⟩, -⟩ := id KL
        obtain ⟨KOa, ⟨KOb, KOc, KOd⟩, -⟩ := id KO
        have lP := KO.1
        go_wp2_with fail
        refine (B8.out _ _ _ _ _ _ _ _ _ _ _ _ _ T.inI T'.inI N.inI N'.inI (TT.out _ hB)).mono ?_
        rintro e w25 ⟨⟨avO, cvO, avO', cvO', rfl, O, O'⟩, hb25⟩
        clear ka kb kc kd fz0 fz1 fz2
        clear KAa KAb KAc KAd KCa KCb KCc KCd KSa KSb KSc KSd KPa KPb KPc KPd KGa KGb KGc KGd KMa KMb KMc KMd KNa KNb KNc KNd KLa KLb KLc KLd KOa KOb KOc KOd
        replace X := X.later hb25
        replace Y := Y.later hb25
        replace P := P.later hb25
        replace Q := Q.later hb25
        replace S := S.later hb25
        replace S' := S'.later hb25
        replace T := T.later hb25
        replace T' := T'.later hb25
        replace G := G.later hb25
        replace G' := G'.later hb25
        replace M := M.later hb25
        replace M' := M'.later hb25
        replace N := N.later hb25
        replace N' := N'.later hb25
        replace L := L.later hb25
        replace L' := L'.later hb25
        replace KA := KA.old hb25
        replace KC := KC.old hb25
        replace KS := KS.old hb25
        replace KP := KP.old hb25
        replace KG := KG.old hb25
        replace KM := KM.old hb25
        replace KN := KN.old hb25
        replace KL := KL.old hb25
        replace KO := KO.old hb25
        replace hl := old_trans hl hb25
        replace hB := old_trans hB hb25
        clear hb25
        obtain ⟨KAa, ⟨KAb, KAc, KAd⟩, -⟩ := id KA
        obtain ⟨KCa, ⟨KCb, KCc, KCd⟩, -⟩ := id KC
        obtain ⟨KSa, ⟨KSb, KSc, KSd⟩, -⟩ := id KS
        obtain ⟨KPa, ⟨KPb, KPc, KPd⟩, -⟩ := id KP
        obtain ⟨KGa, ⟨KGb, KGc, KGd⟩, -⟩ := id KG
        obtain ⟨KMa, ⟨KMb, KMc, KMd⟩, -⟩ := id KM
        obtain ⟨KNa, ⟨KNb, KNc, KNd⟩, -⟩ := id KN
        obtain ⟨KLa, ⟨KLb, KLc, KLd⟩, -⟩ := id KL
        obtain ⟨KOa, ⟨KOb, KOc, KOd⟩, -⟩ := id KO
        clear KAa KAb KAc KAd KCa KCb KCc KCd KSa KSb KSc KSd KPa KPb KPc KPd KGa KGb KGc KGd KMa KMb KMc KMd KNa KNb KNc KNd KLa KLb KLc KLd KOa KOb KOc KOd
        obtain ⟨ka, ⟨kb, kc, kd⟩, fz0, fz1, fz2⟩ := id KO
        have hst := below_set3 (b := w21.heap.size) (v0 := (.bool s8)) (v1 := (.slice avO t8.length cvO)) (v2 := (.slice avO' u8.length cvO')) hl glo
        replace hB := below_set3 (b := w21.heap.size) (v0 := (.bool s8)) (v1 := (.slice avO t8.length cvO)) (v2 := (.slice avO' u8.length cvO')) hB (Nat.le_trans gl glo)
        replace X := X_l.later hst
        replace Y := Y_l.later hst
        replace P := P_l.later hst
        replace Q := Q_l.later hst
        replace S := S_l.later hst
        replace S' := S'_l.later hst
        replace T := T_l.later hst
        replace T' := T'_l.later hst
        replace G := G_l.later hst
        replace G' := G'_l.later hst
        replace M := M_l.later hst
        replace M' := M'_l.later hst
        replace N := N_l.later hst
        replace N' := N'_l.later hst
        replace KA := KA_l.old hst
        replace KC := KC_l.old hst
        replace KS := KS_l.old hst
        replace KP := KP_l.old hst
        replace KG := KG_l.old hst
        replace KM := KM_l.old hst
        replace KN := KN_l.old hst
        replace L := oi_set3 (v0 := (.bool s8)) (v1 := (.slice avO t8.length cvO)) (v2 := (.slice avO' u8.length cvO')) L lO
        replace L' := oi_set3 (v0 := (.bool s8)) (v1 := (.slice avO t8.length cvO)) (v2 := (.slice avO' u8.length cvO')) L' lO
        replace O := oi_set3 (v0 := (.bool s8)) (v1 := (.slice avO t8.length cvO)) (v2 := (.slice avO' u8.length cvO')) O lP
        replace O' := oi_set3 (v0 := (.bool s8)) (v1 := (.slice avO t8.length cvO)) (v2 := (.slice avO' u8.length cvO')) O' lP
        replace KL := Cel3.far3 (x := (.bool s8)) (y := (.slice avO t8.length cvO)) (z := (.slice avO' u8.length cvO')) KL nlo
        replace KO := KO.setAll (.bool s8) (.slice avO t8.length cvO) (.slice avO' u8.length cvO')
        clear hl
        have hl := hst
        clear hst
        obtain ⟨KAa, ⟨KAb, KAc, KAd⟩, -⟩ := id KA
        obtain ⟨KCa, ⟨KCb, KCc, KCd⟩, -⟩ := id KC
        obtain ⟨KSa, ⟨KSb, KSc, KSd⟩, -⟩ := id KS
        obtain ⟨KPa, ⟨KPb, KPc, KPd⟩, -⟩ := id KP
        obtain ⟨KGa, ⟨KGb, KGc, KGd⟩, -⟩ := id KG
        obtain ⟨KMa, ⟨KMb, KMc, KMd⟩, -⟩ := id KM
        obtain ⟨KNa, ⟨KNb, KNc, KNd⟩, -⟩ := id KN
        obtain ⟨KLa, ⟨KLb, KLc, KLd⟩, -⟩ := id KL
        obtain ⟨KOa, ⟨KOb, KOc, KOd⟩, -⟩ := id KO
        clear lL lO lP
        cases r8
        · as_aux_lemma =>
          go_wp2
          go_ret
          exact ⟨rfl, hB⟩
        · as_aux_lemma =>
          go_wp2_with fail
          refine (PF.out _ _ _ _ _ _ _ _ _ _ _ _ _ _ L.inI L'.inI O.inI O'.inI).mono ?_
          rintro e w26 ⟨rfl, hb26⟩
          clear ka kb kc kd fz0 fz1 fz2
          clear KAa KAb KAc KAd KCa KCb KCc KCd KSa KSb KSc KSd KPa KPb KPc KPd KGa KGb KGc KGd KMa KMb KMc KMd KNa KNb KNc KNd KLa KLb KLc KLd KOa KOb KOc KOd
          replace X := X.later hb26
          replace Y := Y.later hb26
          replace P := P.later hb26
          replace Q := Q.later hb26
          replace S := S.later hb26
          replace S' := S'.later hb26
          replace T := T.later hb26
          replace T' := T'.later hb26
          replace G := G.later hb26
          replace G' := G'.later hb26
          replace M := M.later hb26
          replace M' := M'.later hb26
          replace N := N.later hb26
          replace N' := N'.later hb26
          replace L := L.later hb26
          replace L' := L'.later hb26
          replace O := O.later hb26
          replace O' := O'.later hb26
          replace KA := KA.old hb26
          replace KC := KC.old hb26
          replace KS := KS.old hb26
          replace KP := KP.old hb26
          replace KG := KG.old hb26
          replace KM := KM.old hb26
          replace KN := KN.old hb26
          replace KL := KL.old hb26
          replace KO := KO.old hb26
          replace hl := old_trans hl hb26
          replace hB := old_trans hB hb26
          clear hb26
          obtain ⟨KAa, ⟨KAb, KAc, KAd⟩, -⟩ := id KA
          obtain ⟨KCa, ⟨KCb, KCc, KCd⟩, -⟩ := id KC
          obtain ⟨KSa, ⟨KSb, KSc, KSd⟩, -⟩ := id KS
          obtain ⟨KPa, ⟨KPb, KPc, KPd⟩, -⟩ := id KP
          obtain ⟨KGa, ⟨KGb, KGc, KGd⟩, -⟩ := id KG
          obtain ⟨KMa, ⟨KMb, KMc, KMd⟩, -⟩ := id KM
          obtain ⟨KNa, ⟨KNb, KNc, KNd⟩, -⟩ := id KN
          obtain ⟨KLa, ⟨KLb, KLc, KLd⟩, -⟩ := id KL
          obtain ⟨KOa, ⟨KOb, KOc, KOd⟩, -⟩ := id KO
          go_wp2
          go_ret
          exact ⟨rfl, hB⟩
      · as_aux_lemma =>
        go_wp2_with fail
        refine (PF.out _ _ _ _ _ _ _ _ _ _ _ _ _ _ L.inI L'.inI O.inI O'.inI).mono ?_
        rintro e w24 ⟨rfl, hb24⟩
        clear ka kb kc kd fz0 fz1 fz2
        clear KAa KAb KAc KAd KCa KCb KCc KCd KSa KSb KSc KSd KPa KPb KPc KPd KGa KGb KGc KGd KMa KMb KMc KMd KNa KNb KNc KNd KLa KLb KLc KLd KOa KOb KOc KOd
        replace X := X.later hb24
        replace Y := Y.later hb24
        replace P := P.later hb24
        replace Q := Q.later hb24
        replace S := S.later hb24
        replace S' := S'.later hb24
        replace T := T.later hb24
        replace T' := T'.later hb24
        replace G := G.later hb24
        replace G' := G'.later hb24
        replace M := M.later hb24
        replace M' := M'.later hb24
        replace N := N.later hb24
        replace N' := N'.later hb24
        replace L := L.later hb24
        replace L' := L'.later hb24
        replace O := O.later hb24
        replace O' := O'.later hb24
        replace KA := KA.old hb24
        replace KC := KC.old hb24
        replace KS := KS.old hb24
        replace KP := KP.old hb24
        replace KG := KG.old hb24
        replace KM := KM.old hb24
        replace KN := KN.old hb24
        replace KL := KL.old hb24
        replace KO := KO.old hb24
        replace hl := old_trans hl hb24
        replace hB := old_trans hB hb24
        clear hb24
        obtain ⟨KAa, ⟨KAb, KAc, KAd⟩, -⟩ := id KA
        obtain ⟨KCa, ⟨KCb, KCc, KCd⟩, -⟩ := id KC
        obtain ⟨KSa, ⟨KSb, KSc, KSd⟩, -⟩ := id KS
        obtain ⟨KPa, ⟨KPb, KPc, KPd⟩, -⟩ := id KP
        obtain ⟨KGa, ⟨KGb, KGc, KGd⟩, -⟩ := id KG
        obtain ⟨KMa, ⟨KMb, KMc, KMd⟩, -⟩ := id KM
        obtain ⟨KNa, ⟨KNb, KNc, KNd⟩, -⟩ := id KN
        obtain ⟨KLa, ⟨KLb, KLc, KLd⟩, -⟩ := id KL
        obtain ⟨KOa, ⟨KOb, KOc, KOd⟩, -⟩ := id KO
        clear L L' O O'
        have lL := KL.1
        have lO := KO.1
        go_wp2_with fail
        refine (A8.out _ _ _ _ _ _ _ _ _ _ _ _ _ X.inI Y.inI G.inI G'.inI (TT.out _ hB)).mono ?_
        rintro e w25 ⟨⟨avL, cvL, avL', cvL', rfl, L, L'⟩, hb25⟩
        clear KAa KAb KAc KAd KCa KCb KCc KCd KSa KSb KSc KSd KPa KPb KPc KPd KGa KGb KGc KGd KMa KMb KMc KMd KNa KNb KNc KNd KLa KLb KLc KLd KOa KOb KOc KOd
        replace X := X.later hb25
        replace Y := Y.later hb25
        replace P := P.later hb25
        replace Q := Q.later hb25
        replace S := S.later hb25
        replace S' := S'.later hb25
        replace T := T.later hb25
        replace T' := T'.later hb25
        replace G := G.later hb25
        replace G' := G'.later hb25
        replace M := M.later hb25
        replace M' := M'.later hb25
        replace N := N.later hb25
        replace N' := N'.later hb25
        replace KA := KA.old hb25
        replace KC := KC.old hb25
        replace KS := KS.old hb25
        replace KP := KP.old hb25
        replace KG := KG.old hb25
        replace KM := KM.old hb25
        replace KN := KN.old hb25
        replace KL := KL.old hb25
        replace KO := KO.old hb25
        replace hl := old_trans hl hb25
        replace hB := old_trans hB hb25
        clear hb25
        obtain ⟨KAa, ⟨KAb, KAc, KAd⟩, -⟩ := id KA
        obtain ⟨KCa, ⟨KCb, KCc, KCd⟩, -⟩ := id KC
        obtain ⟨KSa, ⟨KSb, KSc, KSd⟩, -⟩ := id KS
        obtain ⟨KPa, ⟨KPb, KPc, KPd⟩, -⟩ := id KP
        obtain ⟨KGa, ⟨KGb, KGc, KGd⟩, -⟩ := id KG
        obtain ⟨KMa, ⟨KMb, KMc, KMd⟩, -⟩ := id KM
        obtain ⟨KNa, ⟨KNb, KNc, KNd⟩, -⟩ := id KN
        obtain ⟨KLa, ⟨KLb, KLc, KLd⟩, -⟩ := id KL
        obtain ⟨KOa, ⟨KOb, KOc, KOd⟩, -⟩ := id KO
        clear KAa KAb KAc KAd KCa KCb KCc KCd KSa KSb KSc KSd KPa KPb KPc KPd KGa KGb KGc KGd KMa KMb KMc KMd KNa KNb KNc KNd KLa KLb KLc KLd KOa KOb KOc KOd
        obtain ⟨ka, ⟨kb, kc, kd⟩, fz0, fz1, fz2⟩ := id KL
        have hst := below_set3 (b := w20.heap.size) (v0 := (.bool s8)) (v1 := (.slice avL t8.length cvL)) (v2 := (.slice avL' u8.length cvL')) hl (Nat.le_refl _)
        replace hB := below_set3 (b := w20.heap.size) (v0 := (.bool s8)) (v1 := (.slice avL t8.length cvL)) (v2 := (.slice avL' u8.length cvL')) hB (Nat.le_trans gl (Nat.le_refl _))
        replace X := X_l.later hst
        replace Y := Y_l.later hst
        replace P := P_l.later hst
        replace Q := Q_l.later hst
        replace S := S_l.later hst
        replace S' := S'_l.later hst
        replace T := T_l.later hst
        replace T' := T'_l.later hst
        replace G := G_l.later hst
        replace G' := G'_l.later hst
        replace M := M_l.later hst
        replace M' := M'_l.later hst
        replace N := N_l.later hst
        replace N' := N'_l.later hst
        replace KA := KA_l.old hst
        replace KC := KC_l.old hst
        replace KS := KS_l.old hst
        replace KP := KP_l.old hst
        replace KG := KG_l.old hst
        replace KM := KM_l.old hst
        replace KN := KN_l.old hst
        replace L := oi_set3 (v0 := (.bool s8)) (v1 := (.slice avL t8.length cvL)) (v2 := (.slice avL' u8.length cvL')) L lL
        replace L' := oi_set3 (v0 := (.bool s8)) (v1 := (.slice avL t8.length cvL)) (v2 := (.slice avL' u8.length cvL')) L' lL
        replace KO := Cel3.far3 (x := (.bool s8)) (y := (.slice avL t8.length cvL)) (z := (.slice avL' u8.length cvL')) KO nlo.symm
        replace KL := KL.setAll (.bool s8) (.slice avL t8.length cvL) (.slice avL' u8.length cvL')
        clear hl
        have hl := hst
        clear hst
        obtain ⟨KAa, ⟨KAb, KAc, KAd⟩, -⟩ := id KA
        obtain ⟨KCa, ⟨KCb, KCc, KCd⟩, -⟩ := id KC
        obtain ⟨KSa, ⟨KSb, KSc, KSd⟩, -⟩ := id KS
        obtain ⟨KPa, ⟨KPb, KPc, KPd⟩, -⟩ := id KP
        obtain ⟨KGa, ⟨KGb, KGc, KGd⟩, -⟩ := id KG
        obtain ⟨KMa, ⟨KMb, KMc, KMd⟩, -⟩ := id KM
        obtain ⟨KNa, ⟨KNb, KNc, KNd⟩, -⟩ := id KN
        obtain ⟨KLa, ⟨KLb, KLc, KLd⟩, -⟩ := id KL
        obtain ⟨KOa, ⟨KOb, KOc, KOd⟩, -⟩ := id KO
        have lP := KO.1
        go_wp2_with fail
        refine (B8.out _ _ _ _ _ _ _ _ _ _ _ _ _ T.inI T'.inI N.inI N'.inI (TT.out _ hB)).mono ?_
        rintro e w26 ⟨⟨avO, cvO, avO', cvO', rfl, O, O'⟩, hb26⟩
        clear ka kb kc kd fz0 fz1 fz2
        clear KAa KAb KAc KAd KCa KCb KCc KCd KSa KSb KSc KSd KPa KPb KPc KPd KGa KGb KGc KGd KMa KMb KMc KMd KNa KNb KNc KNd KLa KLb KLc KLd KOa KOb KOc KOd
        replace X := X.later hb26
        replace Y := Y.later hb26
        replace P := P.later hb26
        replace Q := Q.later hb26
        replace S := S.later hb26
        replace S' := S'.later hb26
        replace T := T.later hb26
        replace T' := T'.later hb26
        replace G := G.later hb26
        replace G' := G'.later hb26
        replace M := M.later hb26
        replace M' := M'.later hb26
        replace N := N.later hb26
        replace N' := N'.later hb26
        replace L := L.later hb26
        replace L' := L'.later hb26
        replace KA := KA.old hb26
        replace KC := KC.old hb26
        replace KS := KS.old hb26
        replace KP := KP.old hb26
        replace KG := KG.old hb26
        replace KM := KM.old hb26
        replace KN := KN.old hb26
        replace KL := KL.old hb26
        replace KO := KO.old hb26
        replace hl := old_trans hl hb26
        replace hB := old_trans hB hb26
        clear hb26
        obtain ⟨KAa, ⟨KAb, KAc, KAd⟩, -⟩ := id KA
        obtain ⟨KCa, ⟨KCb, KCc, KCd⟩, -⟩ := id KC
        obtain ⟨KSa, ⟨KSb, KSc, KSd⟩, -⟩ := id KS
        obtain ⟨KPa, ⟨KPb, KPc, KPd⟩, -⟩ := id KP
        obtain ⟨KGa, ⟨KGb, KGc, KGd⟩, -⟩ := id KG
        obtain ⟨KMa, ⟨KMb, KMc, KMd⟩, -⟩ := id KM
        obtain ⟨KNa, ⟨KNb, KNc, KNd⟩, -⟩ := id KN
        obtain ⟨KLa, ⟨KLb, KLc, KLd⟩, -⟩ := id KL
        obtain ⟨KOa, ⟨KOb, KOc, KOd⟩, -⟩ := id KO
        clear KAa KAb KAc KAd KCa KCb KCc KCd KSa KSb KSc KSd KPa KPb KPc KPd KGa KGb KGc KGd KMa KMb KMc KMd KNa KNb KNc KNd KLa KLb KLc KLd KOa KOb KOc KOd
        obtain ⟨ka, ⟨kb, kc, kd⟩, fz0, fz1, fz2⟩ := id KO
        have hst := below_set3 (b := w21.heap.size) (v0 := (.bool s8)) (v1 := (.slice avO t8.length cvO)) (v2 := (.slice avO' u8.length cvO')) hl glo
        replace hB := below_set3 (b := w21.heap.size) (v0 := (.bool s8)) (v1 := (.slice avO t8.length cvO)) (v2 := (.slice avO' u8.length cvO')) hB (Nat.le_trans gl glo)
        replace X := X_l.later hst
        replace Y := Y_l.later hst
        replace P := P_l.later hst
        replace Q := Q_l.later hst
        replace S := S_l.later hst
        replace S' := S'_l.later hst
        replace T := T_l.later hst
        replace T' := T'_l.later hst
        replace G := G_l.later hst
        replace G' := G'_l.later hst
        replace M := M_l.later hst
        replace M' := M'_l.later hst
        replace N := N_l.later hst
        replace N' := N'_l.later hst
        replace KA := KA_l.old hst
        replace KC := KC_l.old hst
        replace KS := KS_l.old hst
        replace KP := KP_l.old hst
        replace KG := KG_l.old hst
        replace KM := KM_l.old hst
        replace KN := KN_l.old hst
        replace L := oi_set3 (v0 := (.bool s8)) (v1 := (.slice avO t8.length cvO)) (v2 := (.slice avO' u8.length cvO')) L lO
        replace L' := oi_set3 (v0 := (.bool s8)) (v1 := (.slice avO t8.length cvO)) (v2 := (.slice avO' u8.length cvO')) L' lO
        replace O := oi_set3 (v0 := (.bool s8)) (v1 := (.slice avO t8.length cvO)) (v2 := (.slice avO' u8.length cvO')) O lP
        replace O' := oi_set3 (v0 := (.bool s8)) (v1 := (.slice avO t8.length cvO)) (v2 := (.slice avO' u8.length cvO')) O' lP
        replace KL := Cel3.far3 (x := (.bool s8)) (y := (.slice avO t8.length cvO)) (z := (.slice avO' u8.length cvO')) KL nlo
        replace KO := KO.setAll (.bool s8) (.slice avO t8.length cvO) (.slice avO' u8.length cvO')
        clear hl
        have hl := hst
        clear hst
        obtain ⟨KAa, ⟨KAb, KAc, KAd⟩, -⟩ := id KA
        obtain ⟨KCa, ⟨KCb, KCc, KCd⟩, -⟩ := id KC
        obtain ⟨KSa, ⟨KSb, KSc, KSd⟩, -⟩ := id KS
        obtain ⟨KPa, ⟨KPb, KPc, KPd⟩, -⟩ := id KP
        obtain ⟨KGa, ⟨KGb, KGc, KGd⟩, -⟩ := id KG
        obtain ⟨KMa, ⟨KMb, KMc, KMd⟩, -⟩ := id KM
        obtain ⟨KNa, ⟨KNb, KNc, KNd⟩, -⟩ := id KN
        obtain ⟨KLa, ⟨KLb, KLc, KLd⟩, -⟩ := id KL
        obtain ⟨KOa, ⟨KOb, KOc, KOd⟩, -⟩ := id KO
        clear lL lO lP
        cases r8
        · as_aux_lemma =>
          go_wp2
          go_ret
          exact ⟨rfl, hB⟩
        · as_aux_lemma =>
          go_wp2_with fail
          refine (PF.out _ _ _ _ _ _ _ _ _ _ _ _ _ _ L.inI L'.inI O.inI O'.inI).mono ?_
          rintro e w27 ⟨rfl, hb27⟩
          clear ka kb kc kd fz0 fz1 fz2
          clear KAa KAb KAc KAd KCa KCb KCc KCd KSa KSb KSc KSd KPa KPb KPc KPd KGa KGb KGc KGd KMa KMb KMc KMd KNa KNb KNc KNd KLa KLb KLc KLd KOa KOb KOc KOd
          replace X := X.later hb27
          replace Y := Y.later hb27
          replace P := P.later hb27
          replace Q := Q.later hb27
          replace S := S.later hb27
          replace S' := S'.later hb27
          replace T := T.later hb27
          replace T' := T'.later hb27
          replace G := G.later hb27
          replace G' := G'.later hb27
          replace M := M.later hb27
          replace M' := M'.later hb27
          replace N := N.later hb27
          replace N' := N'.later hb27
          replace L := L.later hb27
          replace L' := L'.later hb27
          replace O := O.later hb27
          replace O' := O'.later hb27
          replace KA := KA.old hb27
          replace KC := KC.old hb27
          replace KS := KS.old hb27
          replace KP := KP.old hb27
          replace KG := KG.old hb27
          replace KM := KM.old hb27
          replace KN := KN.old hb27
          replace KL := KL.old hb27
          replace KO := KO.old hb27
          replace hl := old_trans hl hb27
          replace hB := old_trans hB hb27
          clear hb27
          obtain ⟨KAa, ⟨KAb, KAc, KAd⟩, -⟩ := id KA
          obtain ⟨KCa, ⟨KCb, KCc, KCd⟩, -⟩ := id KC
          obtain ⟨KSa, ⟨KSb, KSc, KSd⟩, -⟩ := id KS
          obtain ⟨KPa, ⟨KPb, KPc, KPd⟩, -⟩ := id KP
          obtain ⟨KGa, ⟨KGb, KGc, KGd⟩, -⟩ := id KG
          obtain ⟨KMa, ⟨KMb, KMc, KMd⟩, -⟩ := id KM
          obtain ⟨KNa, ⟨KNb, KNc, KNd⟩, -⟩ := id KN
          obtain ⟨KLa, ⟨KLb, KLc, KLd⟩, -⟩ := id KL
          obtain ⟨KOa, ⟨KOb, KOc, KOd⟩, -⟩ := id KO
          go_wp2
          go_ret
          exact ⟨rfl, hB⟩
    · as_aux_lemma =>
      go_wp2_with fail
      refine (PF.out _ _ _ _ _ _ _ _ _ _ _ _ _ _ L.inI L'.inI O.inI O'.inI).mono ?_
      rintro e w22 ⟨rfl, hb22⟩
      clear KAa KAb KAc KAd KCa KCb KCc KCd KSa KSb KSc KSd KPa KPb KPc KPd KGa KGb KGc KGd KMa KMb KMc KMd KNa KNb KNc KNd KLa KLb KLc KLd KOa KOb KOc KOd
      replace X := X.later hb22
      replace Y := Y.later hb22
      replace P := P.later hb22
      replace Q := Q.later hb22
      replace S := S.later hb22
      replace S' := S'.later hb22
      replace T := T.later hb22
      replace T' := T'.later hb22
      replace G := G.later hb22
      replace G' := G'.later hb22
      replace M := M.later hb22
      replace M' := M'.later hb22
      replace N := N.later hb22
      replace N' := N'.later hb22
      replace L := L.later hb22
      replace L' := L'.later hb22
      replace O := O.later hb22
      replace O' := O'.later hb22
      replace KA := KA.old hb22
      replace KC := KC.old hb22
      replace KS := KS.old hb22
      replace KP := KP.old hb22
      replace KG := KG.old hb22
      replace KM := KM.old hb22
      replace KN := KN.old hb22
      replace KL := KL.old hb22
      replace KO := KO.old hb22
      replace hl := old_trans hl hb22
      replace hB := old_trans hB hb22
      clear hb22
      obtain ⟨KAa, ⟨KAb, KAc, KAd⟩, -⟩ := id KA
      obtain ⟨KCa, ⟨KCb, KCc, KCd⟩, -⟩ := id KC
      obtain ⟨KSa, ⟨KSb, KSc, KSd⟩, -⟩ := id KS
      obtain ⟨KPa, ⟨KPb, KPc, KPd⟩, -⟩ := id KP
      obtain ⟨KGa, ⟨KGb, KGc, KGd⟩, -⟩ := id KG
      obtain ⟨KMa, ⟨KMb, KMc, KMd⟩, -⟩ := id KM
      obtain ⟨KNa, ⟨KNb, KNc, KNd⟩, -⟩ := id KN
      obtain ⟨KLa, ⟨KLb, KLc, KLd⟩, -⟩ := id KL
      obtain ⟨KOa, ⟨KOb, KOc, KOd⟩, -⟩ := id KO
      clear L L' O O'
      have lL := KL.1
      have lO := KO.1
      go_wp2_with fail
      refine (A7.out _ _ _ _ _ _ _ _ _ _ _ _ _ T.inI T'.inI P.inI Q.inI (TT.out _ hB)).mono ?_
      rintro e w23 ⟨⟨avL, cvL, avL', cvL', rfl, L, L'⟩, hb23⟩
      clear KAa KAb KAc KAd KCa KCb KCc KCd KSa KSb KSc KSd KPa KPb KPc KPd KGa KGb KGc KGd KMa KMb KMc KMd KNa KNb KNc KNd KLa KLb KLc KLd KOa KOb KOc KOd
      replace X := X.later hb23
      replace Y := Y.later hb23
      replace P := P.later hb23
      replace Q := Q.later hb23
      replace S := S.later hb23
      replace S' := S'.later hb23
      replace T := T.later hb23
      replace T' := T'.later hb23
      replace G := G.later hb23
      replace G' := G'.later hb23
      replace M := M.later hb23
      replace M' := M'.later hb23
      replace N := N.later hb23
      replace N' := N'.later hb23
      replace KA := KA.old hb23
      replace KC := KC.old hb23
      replace KS := KS.old hb23
      replace KP := KP.old hb23
      replace KG := KG.old hb23
      replace KM := KM.old hb23
      replace KN := KN.old hb23
      replace KL := KL.old hb23
      replace KO := KO.old hb23
      replace hl := old_trans hl hb23
      replace hB := old_trans hB hb23
      clear hb23
      obtain ⟨KAa, ⟨KAb, KAc, KAd⟩, -⟩ := id KA
      obtain ⟨KCa, ⟨KCb, KCc, KCd⟩, -⟩ := id KC
      obtain ⟨KSa, ⟨KSb, KSc, KSd⟩, -⟩ := id KS
      obtain ⟨KPa, ⟨KPb, KPc, KPd⟩, -⟩ := id KP
      obtain ⟨KGa, ⟨KGb, KGc, KGd⟩, -⟩ := id KG
      obtain ⟨KMa, ⟨KMb, KMc, KMd⟩, -⟩ := id KM
      obtain ⟨KNa, ⟨KNb, KNc, KNd⟩, -⟩ := id KN
      obtain ⟨KLa, ⟨KLb, KLc, KLd⟩, -⟩ := id KL
      obtain ⟨KOa, ⟨KOb, KOc, KOd⟩, -⟩ := id KO
      clear KAa KAb KAc KAd KCa KCb KCc KCd KSa KSb KSc KSd KPa KPb KPc KPd KGa KGb KGc KGd KMa KMb KMc KMd KNa KNb KNc KNd KLa KLb KLc KLd KOa KOb KOc KOd
      obtain ⟨ka, ⟨kb, kc, kd⟩, fz0, fz1, fz2⟩ := id KL
      have hst := below_set3 (b := w20.heap.size) (v0 := (.bool s7)) (v1 := (.slice avL t7.length cvL)) (v2 := (.slice avL' u7.length cvL')) hl (Nat.le_refl _)
      replace hB := below_set3 (b := w20.heap.size) (v0 := (.bool s7)) (v1 := (.slice avL t7.length cvL)) (v2 := (.slice avL' u7.length cvL')) hB (Nat.le_trans gl (Nat.le_refl _))
      replace X := X_l.later hst
      replace Y := Y_l.later hst
      replace P := P_l.later hst
      replace Q := Q_l.later hst
      replace S := S_l.later hst
      replace S' := S'_l.later hst
      replace T := T_l.later hst
      replace T' := T'_l.later hst
      replace G := G_l.later hst
      replace G' := G'_l.later hst
      replace M := M_l.later hst
      replace M' := M'_l.later hst
      replace N := N_l.later hst
      replace N' := N'_l.later hst
      replace KA := KA_l.old hst
      replace KC := KC_l.old hst
      replace KS := KS_l.old hst
      replace KP := KP_l.old hst
      replace KG := KG_l.old hst
      replace KM := KM_l.old hst
      replace KN := KN_l.old hst
      replace L := oi_set3 (v0 := (.bool s7)) (v1 := (.slice avL t7.length cvL)) (v2 := (.slice avL' u7.length cvL')) L lL
      replace L' := oi_set3 (v0 := (.bool s7)) (v1 := (.slice avL t7.length cvL)) (v2 := (.slice avL' u7.length cvL')) L' lL
      replace KO := Cel3.far3 (x := (.bool s7)) (y := (.slice avL t7.length cvL)) (z := (.slice avL' u7.length cvL')) KO nlo.symm
      replace KL := KL.setAll (.bool s7) (.slice avL t7.length cvL) (.slice avL' u7.length cvL')
      clear hl
      have hl := hst
      clear hst
      obtain ⟨KAa, ⟨KAb, KAc, KAd⟩, -⟩ := id KA
      obtain ⟨KCa, ⟨KCb, KCc, KCd⟩, -⟩ := id KC
      obtain ⟨KSa, ⟨KSb, KSc, KSd⟩, -⟩ := id KS
      obtain ⟨KPa, ⟨KPb, KPc, KPd⟩, -⟩ := id KP
      obtain ⟨KGa, ⟨KGb, KGc, KGd⟩, -⟩ := id KG
      obtain ⟨KMa, ⟨KMb, KMc, KMd⟩, -⟩ := id KM
      obtain ⟨KNa, ⟨KNb, KNc, KNd⟩, -⟩ := id KN
      obtain ⟨KLa, ⟨KLb, KLc, KLd⟩, -⟩ := id KL
      obtain ⟨KOa, ⟨KOb, KOc, KOd⟩, -⟩ := id KO
      have lP := KO.1
      go_wp2_with fail
      refine (B7.out _ _ _ _ _ _ _ _ _ _ _ _ _ X.inI Y.inI M.inI M'.inI (TT.out _ hB)).mono ?_
      rintro e w24 ⟨⟨avO, cvO, avO', cvO', rfl, O, O'⟩, hb24⟩
      clear ka kb kc kd fz0 fz1 fz2
      clear KAa KAb KAc KAd KCa KCb KCc KCd KSa KSb KSc KSd KPa KPb KPc KPd KGa KGb KGc KGd KMa KMb KMc KMd KNa KNb KNc KNd KLa KLb KLc KLd KOa KOb KOc KOd
      replace X := X.later hb24
      replace Y := Y.later hb24
      replace P := P.later hb24
      replace Q := Q.later hb24
      replace S := S.later hb24
      replace S' := S'.later hb24
      replace T := T.later hb24
      replace T' := T'.later hb24
      replace G := G.later hb24
      replace G' := G'.later hb24
      replace M := M.later hb24
      replace M' := M'.later hb24
      replace N := N.later hb24
      replace N' := N'.later hb24
      replace L := L.later hb24
      replace L' := L'.later hb24
      replace KA := KA.old hb24
      replace KC := KC.old hb24
      replace KS := KS.old hb24
      replace KP := KP.old hb24
      replace KG := KG.old hb24
      replace KM := KM.old hb24
      replace KN := KN.old hb24
      replace KL := KL.old hb24
      replace KO := KO.old hb24
      replace hl := old_trans hl hb24
      replace hB := old_trans hB hb24
      clear hb24
      obtain ⟨KAa, ⟨KAb, KAc, KAd⟩, -⟩ := id KA
      obtain ⟨KCa, ⟨KCb, KCc, KCd⟩, -⟩ := id KC
      obtain ⟨KSa, ⟨KSb, KSc, KSd⟩, -⟩ := id KS
      obtain ⟨KPa, ⟨KPb, KPc, KPd⟩, -⟩ := id KP
      obtain ⟨KGa, ⟨KGb, KGc, KGd⟩, -⟩ := id KG
      obtain ⟨KMa, ⟨KMb, KMc, KMd⟩, -⟩ := id KM
      obtain ⟨KNa, ⟨KNb, KNc, KNd⟩, -⟩ := id KN
      obtain ⟨KLa, ⟨KLb, KLc, KLd⟩, -⟩ := id KL
      obtain ⟨KOa, ⟨KOb, KOc, KOd⟩, -⟩ := id KO
      clear KAa KAb KAc KAd KCa KCb KCc KCd KSa KSb KSc KSd KPa KPb KPc KPd KGa KGb KGc KGd KMa KMb KMc KMd KNa KNb KNc KNd KLa KLb KLc KLd KOa KOb KOc KOd
      obtain ⟨ka, ⟨kb, kc, kd⟩, fz0, fz1, fz2⟩ := id KO
      have hst := below_set3 (b := w21.heap.size) (v0 := (.bool s7)) (v1 := (.slice avO t7.length cvO)) (v2 := (.slice avO' u7.length cvO')) hl glo
      replace hB := below_set3 (b := w21.heap.size) (v0 := (.bool s7)) (v1 := (.slice avO t7.length cvO)) (v2 := (.slice avO' u7.length cvO')) hB (Nat.le_trans gl glo)
      replace X := X_l.later hst
      replace Y := Y_l.later hst
      replace P := P_l.later hst
      replace Q := Q_l.later hst
      replace S := S_l.later hst
      replace S' := S'_l.later hst
      replace T := T_l.later hst
      replace T' := T'_l.later hst
      replace G := G_l.later hst
      replace G' := G'_l.later hst
      replace M := M_l.later hst
      replace M' := M'_l.later hst
      replace N := N_l.later hst
      replace N' := N'_l.later hst
      replace KA := KA_l.old hst
      replace KC := KC_l.old hst
      replace KS := KS_l.old hst
      replace KP := KP_l.old hst
      replace KG := KG_l.old hst
      replace KM := KM_l.old hst
      replace KN := KN_l.old hst
      replace L := oi_set3 (v0 := (.bool s7)) (v1 := (.slice avO t7.length cvO)) (v2 := (.slice avO' u7.length cvO')) L lO
      replace L' := oi_set3 (v0 := (.bool s7)) (v1 := (.slice avO t7.length cvO)) (v2 := (.slice avO' u7.length cvO')) L' lO
      replace O := oi_set3 (v0 := (.bool s7)) (v1 := (.slice avO t7.length cvO)) (v2 := (.slice avO' u7.length cvO')) O lP
      replace O' := oi_set3 (v0 := (.bool s7)) (v1 := (.slice avO t7.length cvO)) (v2 := (.slice avO' u7.length cvO')) O' lP
      replace KL := Cel3.far3 (x := (.bool s7)) (y := (.slice avO t7.length cvO)) (z := (.slice avO' u7.length cvO')) KL nlo
      replace KO := KO.setAll (.bool s7) (.slice avO t7.length cvO) (.slice avO' u7.length cvO')
      clear hl
      have hl := hst
      clear hst
      obtain ⟨KAa, ⟨KAb, KAc, KAd⟩, -⟩ := id KA
      obtain ⟨KCa, ⟨KCb, KCc, KCd⟩, -⟩ := id KC
      obtain ⟨KSa, ⟨KSb, KSc, KSd⟩, -⟩ := id KS
      obtain ⟨KPa, ⟨KPb, KPc, KPd⟩, -⟩ := id KP
      obtain ⟨KGa, ⟨KGb, KGc, KGd⟩, -⟩ := id KG
      obtain ⟨KMa, ⟨KMb, KMc, KMd⟩, -⟩ := id KM
      obtain ⟨KNa, ⟨KNb, KNc, KNd⟩, -⟩ := id KN
      obtain ⟨KLa, ⟨KLb, KLc, KLd⟩, -⟩ := id KL
      obtain ⟨KOa, ⟨KOb, KOc, KOd⟩, -⟩ := id KO
      clear lL lO lP
      cases r7
      · as_aux_lemma =>
        clear L L' O O'
        have lL := KL.1
        have lO := KO.1
        go_wp2_with fail
        refine (A8.out _ _ _ _ _ _ _ _ _ _ _ _ _ X.inI Y.inI G.inI G'.inI (TT.out _ hB)).mono ?_
        rintro e w25 ⟨⟨avL, cvL, avL', cvL', rfl, L, L'⟩, hb25⟩
        clear ka kb kc kd fz0 fz1 fz2
        clear KAa KAb KAc KAd KCa KCb KCc KCd KSa KSb KSc KSd KPa KPb KPc KPd KGa KGb KGc KGd KMa KMb KMc KMd KNa KNb KNc KNd KLa KLb KLc KLd KOa KOb KOc KOd
        replace X := X.later hb25
        replace Y := Y.later hb25
        replace P := P.later hb25
        replace Q := Q.later hb25
        replace S := S.later hb25
        replace S' := S'.later hb25
        replace T := T.later hb25
        replace T' := T'.later hb25
        replace G := G.later hb25
        replace G' := G'.later hb25
        replace M := M.later hb25
        replace M' := M'.later hb25
        replace N := N.later hb25
        replace N' := N'.later hb25
        replace KA := KA.old hb25
        replace KC := KC.old hb25
        replace KS := KS.old hb25
        replace KP := KP.old hb25
        replace KG := KG.old hb25
        replace KM := KM.old hb25
        replace KN := KN.old hb25
        replace KL := KL.old hb25
        replace KO := KO.old hb25
        replace hl := old_trans hl hb25
        replace hB := old_trans hB hb25
        clear hb25
        obtain ⟨KAa, ⟨KAb, KAc, KAd⟩, -⟩ := id KA
        obtain ⟨KCa, ⟨KCb, KCc, KCd⟩, -⟩ := id KC
        obtain ⟨KSa, ⟨KSb, KSc, KSd⟩, -⟩ := id KS
        obtain ⟨KPa, ⟨KPb, KPc, KPd⟩, -⟩ := id KP
        obtain ⟨KGa, ⟨KGb, KGc, KGd⟩, -⟩ := id KG
        obtain ⟨KMa, ⟨KMb, KMc, KMd⟩, -⟩ := id KM
        obtain ⟨KNa, ⟨KNb, KNc, KNd⟩, -⟩ := id KN
        obtain ⟨KLa, ⟨KLb, KLc, KLd⟩, -⟩ := id KL
        obtain ⟨KOa, ⟨KOb, KOc, KOd⟩, -⟩ := id KO
        clear KAa KAb KAc KAd KCa KCb KCc KCd KSa KSb KSc KSd KPa KPb KPc KPd KGa KGb KGc KGd KMa KMb KMc KMd KNa KNb KNc KNd KLa KLb KLc KLd KOa KOb KOc KOd
        obtain ⟨ka, ⟨kb, kc, kd⟩, fz0, fz1, fz2⟩ := id KL
        have hst := below_set3 (b := w20.heap.size) (v0 := (.bool s8)) (v1 := (.slice avL t8.length cvL)) (v2 := (.slice avL' u8.length cvL')) hl (Nat.le_refl _)
        replace hB := below_set3 (b := w20.heap.size) (v0 := (.bool s8)) (v1 := (.slice avL t8.length cvL)) (v2 := (.slice avL' u8.length cvL')) hB (Nat.le_trans gl (Nat.le_refl _))
        replace X := X_l.later hst
        replace Y := Y_l.later hst
        replace P := P_l.later hst
        replace Q := Q_l.later hst
        replace S := S_l.later hst
        replace S' := S'_l.later hst
        replace T := T_l.later hst
        replace T' := T'_l.later hst
        replace G := G_l.later hst
        replace G' := G'_l.later hst
        replace M := M_l.later hst
        replace M' := M'_l.later hst
        replace N := N_l.later hst
        replace N' := N'_l.later hst
        replace KA := KA_l.old hst
        replace KC := KC_l.old hst
        replace KS := KS_l.old hst
        replace KP := KP_l.old hst
        replace KG := KG_l.old hst
        replace KM := KM_l.old hst
        replace KN := KN_l.old hst
        replace L := oi_set3 (v0 := (.bool s8)) (v1 := (.slice avL t8.length cvL)) (v2 := (.slice avL' u8.length cvL')) L lL
        replace L' := oi_set3 (v0 := (.bool s8)) (v1 := (.slice avL t8.length cvL)) (v2 := (.slice avL' u8.length cvL')) L' lL
        replace KO := Cel3.far3 (x := (.bool s8)) (y := (.slice avL t8.length cvL)) (z := (.slice avL' u8.length cvL')) KO nlo.symm
        replace KL := KL.setAll (.bool s8) (.slice avL t8.length cvL) (.slice avL' u8.length cvL')
        clear hl
        have hl := hst
        clear hst
        obtain ⟨KAa, ⟨KAb, KAc, KAd⟩, -⟩ := id KA
        obtain ⟨KCa, ⟨KCb, KCc, KCd⟩, -⟩ := id KC
        obtain ⟨KSa, ⟨KSb, KSc, KSd⟩, -⟩ := id KS
        obtain ⟨KPa, ⟨KPb, KPc, KPd⟩, -⟩ := id KP
        obtain ⟨KGa, ⟨KGb, KGc, KGd⟩, -⟩ := id KG
        obtain ⟨KMa, ⟨KMb, KMc, KMd⟩, -⟩ := id KM
        obtain ⟨KNa, ⟨KNb, KNc, KNd⟩, -⟩ := id KN
        obtain ⟨KLa, ⟨KLb, KLc, KLd⟩, -⟩ := id KL
        obtain ⟨KOa, ⟨KOb, KOc, KOd⟩, -⟩ := id KO
        have lP := KO.1
        go_wp2_with fail
        refine (B8.out _ _ _ _ _ _ _ _ _ _ _ _ _ T.inI T'.inI N.inI N'.inI (TT.out _ hB)).mono ?_
        rintro e w26 ⟨⟨avO, cvO, avO', cvO', rfl, O, O'⟩, hb26⟩
        clear ka kb kc kd fz0 fz1 fz2
        clear KAa KAb KAc KAd KCa KCb KCc KCd KSa KSb KSc KSd KPa KPb KPc KPd KGa KGb KGc KGd KMa KMb KMc KMd KNa KNb KNc KNd KLa KLb KLc KLd KOa KOb KOc KOd
        replace X := X.later hb26
        replace Y := Y.later hb26
        replace P := P.later hb26
        replace Q := Q.later hb26
        replace S := S.later hb26
        replace S' := S'.later hb26
        replace T := T.later hb26
        replace T' := T'.later hb26
        replace G := G.later hb26
        replace G' := G'.later hb26
        replace M := M.later hb26
        replace M' := M'.later hb26
        replace N := N.later hb26
        replace N' := N'.later hb26
        replace L := L.later hb26
        replace L' := L'.later hb26
        replace KA := KA.old hb26
        replace KC := KC.old hb26
        replace KS := KS.old hb26
        replace KP := KP.old hb26
        replace KG := KG.old hb26
        replace KM := KM.old hb26
        replace KN := KN.old hb26
        replace KL := KL.old hb26
        replace KO := KO.old hb26
        replace hl := old_trans hl hb26
        replace hB := old_trans hB hb26
        clear hb26
        obtain ⟨KAa, ⟨KAb, KAc, KAd⟩, -⟩ := id KA
        obtain ⟨KCa, ⟨KCb, KCc, KCd⟩, -⟩ := id KC
        obtain ⟨KSa, ⟨KSb, KSc, KSd⟩, -⟩ := id KS
        obtain ⟨KPa, ⟨KPb, KPc, KPd⟩, -⟩ := id KP
        obtain ⟨KGa, ⟨KGb, KGc, KGd⟩, -⟩ := id KG
        obtain ⟨KMa, ⟨KMb, KMc, KMd⟩, -⟩ := id KM
        obtain ⟨KNa, ⟨KNb, KNc, KNd⟩, -⟩ := id KN
        obtain ⟨KLa, ⟨KLb, KLc, KLd⟩, -⟩ := id KL
        obtain ⟨KOa, ⟨KOb, KOc, KOd⟩, -⟩ := id KO
        clear KAa KAb KAc KAd KCa KCb KCc KCd KSa KSb KSc KSd KPa KPb KPc KPd KGa KGb KGc KGd KMa KMb KMc KMd KNa KNb KNc KNd KLa KLb KLc KLd KOa KOb KOc KOd
        obtain ⟨ka, ⟨kb, kc, kd⟩, fz0, fz1, fz2⟩ := id KO
        have hst := below_set3 (b := w21.heap.size) (v0 := (.bool s8)) (v1 := (.slice avO t8.length cvO)) (v2 := (.slice avO' u8.length cvO')) hl glo
        replace hB := below_set3 (b := w21.heap.size) (v0 := (.bool s8)) (v1 := (.slice avO t8.length cvO)) (v2 := (.slice avO' u8.length cvO')) hB (Nat.le_trans gl glo)
        replace X := X_l.later hst
        replace Y := Y_l.later hst
        replace P := P_l.later hst
        replace Q := Q_l.later hst
        replace S := S_l.later hst
        replace S' := S'_l.later hst
        replace T := T_l.later hst
        replace T' := T'_l.later hst
        replace G := G_l.later hst
        replace G' := G'_l.later hst
        replace M := M_l.later hst
        replace M' := M'_l.later hst
        replace N := N_l.later hst
        replace N' := N'_l.later hst
        replace KA := KA_l.old hst
        replace KC := KC_l.old hst
        replace KS := KS_l.old hst
        replace KP := KP_l.old hst
        replace KG := KG_l.old hst
        replace KM := KM_l.old hst
        replace KN := KN_l.old hst
        replace L := oi_set3 (v0 := (.bool s8)) (v1 := (.slice avO t8.length cvO)) (v2 := (.slice avO' u8.length cvO')) L lO
        replace L' := oi_set3 (v0 := (.bool s8)) (v1 := (.slice avO t8.length cvO)) (v2 := (.slice avO' u8.length cvO')) L' lO
        replace O := oi_set3 (v0 := (.bool s8)) (v1 := (.slice avO t8.length cvO)) (v2 := (.slice avO' u8.length cvO')) O lP
        replace O' := oi_set3 (v0 := (.bool s8)) (v1 := (.slice avO t8.length cvO)) (v2 := (.slice avO' u8.length cvO')) O' lP
        replace KL := Cel3.far3 (x := (.bool s8)) (y := (.slice avO t8.length cvO)) (z := (.slice avO' u8.length cvO')) KL nlo
        replace KO := KO.setAll (.bool s8) (.slice avO t8.length cvO) (.slice avO' u8.length cvO')
        clear hl
        have hl := hst
        clear hst
        obtain ⟨KAa, ⟨KAb, KAc, KAd⟩, -⟩ := id KA
        obtain ⟨KCa, ⟨KCb, KCc, KCd⟩, -⟩ := id KC
        obtain ⟨KSa, ⟨KSb, KSc, KSd⟩, -⟩ := id KS
        obtain ⟨KPa, ⟨KPb, KPc, KPd⟩, -⟩ := id KP
        obtain ⟨KGa, ⟨KGb, KGc, KGd⟩, -⟩ := id KG
        obtain ⟨KMa, ⟨KMb, KMc, KMd⟩, -⟩ := id KM
        obtain ⟨KNa, ⟨KNb, KNc, KNd⟩, -⟩ := id KN
        obtain ⟨KLa, ⟨KLb, KLc, KLd⟩, -⟩ := id KL
        obtain ⟨KOa, ⟨KOb, KOc, KOd⟩, -⟩ := id KO
        clear lL lO lP
        cases r8
        · as_aux_lemma =>
          go_wp2
          go_ret
          exact ⟨rfl, hB⟩
        · as_aux_lemma =>
          go_wp2_with fail
          refine (PF.out _ _ _ _ _ _ _ _ _ _ _ _ _ _ L.inI L'.inI O.inI O'.inI).mono ?_
          rintro e w27 ⟨rfl, hb27⟩
          clear ka kb kc kd fz0 fz1 fz2
          clear KAa KAb KAc KAd KCa KCb KCc KCd KSa KSb KSc KSd KPa KPb KPc KPd KGa KGb KGc KGd KMa KMb KMc KMd KNa KNb KNc KNd KLa KLb KLc KLd KOa KOb KOc KOd
          replace X := X.later hb27
          replace Y := Y.later hb27
          replace P := P.later hb27
          replace Q := Q.later hb27
          replace S := S.later hb27
          replace S' := S'.later hb27
          replace T := T.later hb27
          replace T' := T'.later hb27
          replace G := G.later hb27
          replace G' := G'.later hb27
          replace M := M.later hb27
          replace M' := M'.later hb27
          replace N := N.later hb27
          replace N' := N'.later hb27
          replace L := L.later hb27
          replace L' := L'.later hb27
          replace O := O.later hb27
          replace O' := O'.later hb27
          replace KA := KA.old hb27
          replace KC := KC.old hb27
          replace KS := KS.old hb27
          replace KP := KP.old hb27
          replace KG := KG.old hb27
          replace KM := KM.old hb27
          replace KN := KN.old hb27
          replace KL := KL.old hb27
          replace KO := KO.old hb27
          replace hl := old_trans hl hb27
          replace hB := old_trans hB hb27
          clear hb27
          obtain ⟨KAa, ⟨KAb, KAc, KAd⟩, -⟩ := id KA
          obtain ⟨KCa, ⟨KCb, KCc, KCd⟩, -⟩ := id KC
          obtain ⟨KSa, ⟨KSb, KSc, KSd⟩, -⟩ := id KS
          obtain ⟨KPa, ⟨KPb, KPc, KPd⟩, -⟩ := id KP
          obtain ⟨KGa, ⟨KGb, KGc, KGd⟩, -⟩ := id KG
          obtain ⟨KMa, ⟨KMb, KMc, KMd⟩, -⟩ := id KM
          obtain ⟨KNa, ⟨KNb, KNc, KNd⟩, -⟩ := id KN
          obtain ⟨KLa, ⟨KLb, KLc, KLd⟩, -⟩ := id KL
          obtain ⟨KOa, ⟨KOb, KOc, KOd⟩, -⟩ := id KO
          go_wp2
          go_ret
          exact ⟨rfl, hB⟩
      · as_aux_lemma =>
        go_wp2_with fail
        refine (PF.out _ _ _ _ _ _ _ _ _ _ _ _ _ _ L.inI L'.inI O.inI O'.inI).mono ?_
        rintro e w25 ⟨rfl, hb25⟩
        clear ka kb kc kd fz0 fz1 fz2
        clear KAa KAb KAc KAd KCa KCb KCc KCd KSa KSb KSc KSd KPa KPb KPc KPd KGa KGb KGc KGd KMa KMb KMc KMd KNa KNb KNc KNd KLa KLb KLc KLd KOa KOb KOc KOd
        replace X := X.later hb25
        replace Y := Y.later hb25
        replace P := P.later hb25
        replace Q := Q.later hb25
        replace S := S.later hb25
        replace S' := S'.later hb25
        replace T := T.later hb25
        replace T' := T'.later hb25
        replace G := G.later hb25
        replace G' := G'.later hb25
        replace M := M.later hb25
        replace M' := M'.later hb25
        replace N := N.later hb25
        replace N' := N'.later hb25
        replace L := L.later hb25
        replace L' := L'.later hb25
        replace O := O.later hb25
        replace O' := O'.later hb25
        replace KA := KA.old hb25
        replace KC := KC.old hb25
        replace KS := KS.old hb25
        replace KP := KP.old hb25
        replace KG := KG.old hb25
        replace KM := KM.old hb25
        replace KN := KN.old hb25
        replace KL := KL.old hb25
        replace KO := KO.old hb25
        replace hl := old_trans hl hb25
        replace hB := old_trans hB hb25
        clear hb25
        obtain ⟨KAa, ⟨KAb, KAc, KAd⟩, -⟩ := id KA
        obtain ⟨KCa, ⟨KCb, KCc, KCd⟩, -⟩ := id KC
        obtain ⟨KSa, ⟨KSb, KSc, KSd⟩, -⟩ := id KS
        obtain ⟨KPa, ⟨KPb, KPc, KPd⟩, -⟩ := id KP
        obtain ⟨KGa, ⟨KGb, KGc, KGd⟩, -⟩ := id KG
        obtain ⟨KMa, ⟨KMb, KMc, KMd⟩, -⟩ := id KM
        obtain ⟨KNa, ⟨KNb, KNc, KNd⟩, -⟩ := id KN
        obtain ⟨KLa, ⟨KLb, KLc, KLd⟩, -⟩ := id KL
        obtain ⟨KOa, ⟨KOb, KOc, KOd⟩, -⟩ := id KO
        clear L L' O O'
        have lL := KL.1
        have lO := KO.1
        go_wp2_with fail
        refine (A8.out _ _ _ _ _ _ _ _ _ _ _ _ _ X.inI Y.inI G.inI G'.inI (TT.out _ hB)).mono ?_
        rintro e w26 ⟨⟨avL, cvL, avL', cvL', rfl, L, L'⟩, hb26⟩
        clear KAa KAb KAc KAd KCa KCb KCc KCd KSa KSb KSc KSd KPa KPb KPc KPd KGa KGb KGc KGd KMa KMb KMc KMd KNa KNb KNc KNd KLa KLb KLc KLd KOa KOb KOc KOd
        replace X := X.later hb26
        replace Y := Y.later hb26
        replace P := P.later hb26
        replace Q := Q.later hb26
        replace S := S.later hb26
        replace S' := S'.later hb26
        replace T := T.later hb26
        replace T' := T'.later hb26
        replace G := G.later hb26
        replace G' := G'.later hb26
        replace M := M.later hb26
        replace M' := M'.later hb26
        replace N := N.later hb26
        replace N' := N'.later hb26
        replace KA := KA.old hb26
        replace KC := KC.old hb26
        replace KS := KS.old hb26
        replace KP := KP.old hb26
        replace KG := KG.old hb26
        replace KM := KM.old hb26
        replace KN := KN.old hb26
        replace KL := KL.old hb26
        replace KO := KO.old hb26
        replace hl := old_trans hl hb26
        replace hB := old_trans hB hb26
        clear hb26
        obtain ⟨KAa, ⟨KAb, KAc, KAd⟩, -⟩ := id KA
        obtain ⟨KCa, ⟨KCb, KCc, KCd⟩, -⟩ := id KC
        obtain ⟨KSa, ⟨KSb, KSc, KSd⟩, -⟩ := id KS
        obtain ⟨KPa, ⟨KPb, KPc, KPd⟩, -⟩ := id KP
        obtain ⟨KGa, ⟨KGb, KGc, KGd⟩, -⟩ := id KG
        obtain ⟨KMa, ⟨KMb, KMc, KMd⟩, -⟩ := id KM
        obtain ⟨KNa, ⟨KNb, KNc, KNd⟩, -⟩ := id KN
        obtain ⟨KLa, ⟨KLb, KLc, KLd⟩, -⟩ := id KL
        obtain ⟨KOa, ⟨KOb, KOc, KOd⟩, -⟩ := id KO
        clear KAa KAb KAc KAd KCa KCb KCc KCd KSa KSb KSc KSd KPa KPb KPc KPd KGa KGb KGc KGd KMa KMb KMc KMd KNa KNb KNc KNd KLa KLb KLc KLd KOa KOb KOc KOd
        obtain ⟨ka, ⟨kb, kc, kd⟩, fz0, fz1, fz2⟩ := id KL
        have hst := below_set3 (b := w20.heap.size) (v0 := (.bool s8)) (v1 := (.slice avL t8.length cvL)) (v2 := (.slice avL' u8.length cvL')) hl (Nat.le_refl _)
        replace hB := below_set3 (b := w20.heap.size) (v0 := (.bool s8)) (v1 := (.slice avL t8.length cvL)) (v2 := (.slice avL' u8.length cvL')) hB (Nat.le_trans gl (Nat.le_refl _))
        replace X := X_l.later hst
        replace Y := Y_l.later hst
        replace P := P_l.later hst
        replace Q := Q_l.later hst
        replace S := S_l.later hst
        replace S' := S'_l.later hst
        replace T := T_l.later hst
        replace T' := T'_l.later hst
        replace G := G_l.later hst
        replace G' := G'_l.later hst
        replace M := M_l.later hst
        replace M' := M'_l.later hst
        replace N := N_l.later hst
        replace N' := N'_l.later hst
        replace KA := KA_l.old hst
        replace KC := KC_l.old hst
        replace KS := KS_l.old hst
        replace KP := KP_l.old hst
        replace KG := KG_l.old hst
        replace KM := KM_l.old hst
        replace KN := KN_l.old hst
        replace L := oi_set3 (v0 := (.bool s8)) (v1 := (.slice avL t8.length cvL)) (v2 := (.slice avL' u8.length cvL')) L lL
        replace L' := oi_set3 (v0 := (.bool s8)) (v1 := (.slice avL t8.length cvL)) (v2 := (.slice avL' u8.length cvL')) L' lL
        replace KO := Cel3.far3 (x := (.bool s8)) (y := (.slice avL t8.length cvL)) (z := (.slice avL' u8.length cvL')) KO nlo.symm
        replace KL := KL.setAll (.bool s8) (.slice avL t8.length cvL) (.slice avL' u8.length cvL')
        clear hl
        have hl := hst
        clear hst
        obtain ⟨KAa, ⟨KAb, KAc, KAd⟩, -⟩ := id KA
        obtain ⟨KCa, ⟨KCb, KCc, KCd⟩, -⟩ := id KC
        obtain ⟨KSa, ⟨KSb, KSc, KSd⟩, -⟩ := id KS
        obtain ⟨KPa, ⟨KPb, KPc, KPd⟩, -⟩ := id KP
        obtain ⟨KGa, ⟨KGb, KGc, KGd⟩, -⟩ := id KG
        obtain ⟨KMa, ⟨KMb, KMc, KMd⟩, -⟩ := id KM
        obtain ⟨KNa, ⟨KNb, KNc, KNd⟩, -⟩ := id KN
        obtain ⟨KLa, ⟨KLb, KLc, KLd⟩, -⟩ := id KL
        obtain ⟨KOa, ⟨KOb, KOc, KOd⟩, -⟩ := id KO
        have lP := KO.1
        go_wp2_with fail
        refine (B8.out _ _ _ _ _ _ _ _ _ _ _ _ _ T.inI T'.inI N.inI N'.inI (TT.out _ hB)).mono ?_
        rintro e w27 ⟨⟨avO, cvO, avO', cvO', rfl, O, O'⟩, hb27⟩
        clear ka kb kc kd fz0 fz1 fz2
        clear KAa KAb KAc KAd KCa KCb KCc KCd KSa KSb KSc KSd KPa KPb KPc KPd KGa KGb KGc KGd KMa KMb KMc KMd KNa KNb KNc KNd KLa KLb KLc KLd KOa KOb KOc KOd
        replace X := X.later hb27
        replace Y := Y.later hb27
        replace P := P.later hb27
        replace Q := Q.later hb27
        replace S := S.later hb27
        replace S' := S'.later hb27
        replace T := T.later hb27
        replace T' := T'.later hb27
        replace G := G.later hb27
        replace G' := G'.later hb27
        replace M := M.later hb27
        replace M' := M'.later hb27
        replace N := N.later hb27
        replace N' := N'.later hb27
        replace L := L.later hb27
        replace L' := L'.later hb27
        replace KA := KA.old hb27
        replace KC := KC.old hb27
        replace KS := KS.old hb27
        replace KP := KP.old hb27
        replace KG := KG.old hb27
        replace KM := KM.old hb27
        replace KN := KN.old hb27
        replace KL := KL.old hb27
        replace KO := KO.old hb27
        replace hl := old_trans hl hb27
        replace hB := old_trans hB hb27
        clear hb27
        obtain ⟨KAa, ⟨KAb, KAc, KAd⟩, -⟩ := id KA
        obtain ⟨KCa, ⟨KCb, KCc, KCd⟩, -⟩ := id KC
        obtain ⟨KSa, ⟨KSb, KSc, KSd⟩, -⟩ := id KS
        obtain ⟨KPa, ⟨KPb, KPc, KPd⟩, -⟩ := id KP
        obtain ⟨KGa, ⟨KGb, KGc, KGd⟩, -⟩ := id KG
        obtain ⟨KMa, ⟨KMb, KMc, KMd⟩, -⟩ := id KM
        obtain ⟨KNa, ⟨KNb, KNc, KNd⟩, -⟩ := id KN
        obtain ⟨KLa, ⟨KLb, KLc, KLd⟩, -⟩ := id KL
        obtain ⟨KOa, ⟨KOb, KOc, KOd⟩, -⟩ := id KO
        clear KAa KAb KAc KAd KCa KCb KCc KCd KSa KSb KSc KSd KPa KPb KPc KPd KGa KGb KGc KGd KMa KMb KMc KMd KNa KNb KNc KNd KLa KLb KLc KLd KOa KOb KOc KOd
        obtain ⟨ka, ⟨kb, kc, kd⟩, fz0, fz1, fz2⟩ := id KO
        have hst := below_set3 (b := w21.heap.size) (v0 := (.bool s8)) (v1 := (.slice avO t8.length cvO)) (v2 := (.slice avO' u8.length cvO')) hl glo
        replace hB := below_set3 (b := w21.heap.size) (v0 := (.bool s8)) (v1 := (.slice avO t8.length cvO)) (v2 := (.slice avO' u8.length cvO')) hB (Nat.le_trans gl glo)
        replace X := X_l.later hst
        replace Y := Y_l.later hst
        replace P := P_l.later hst
        replace Q := Q_l.later hst
        replace S := S_l.later hst
        replace S' := S'_l.later hst
        replace T := T_l.later hst
        replace T' := T'_l.later hst
        replace G := G_l.later hst
        replace G' := G'_l.later hst
        replace M := M_l.later hst
        replace M' := M'_l.later hst
        replace N := N_l.later hst
        replace N' := N'_l.later hst
        replace KA := KA_l.old hst
        replace KC := KC_l.old hst
        replace KS := KS_l.old hst
        replace KP := KP_l.old hst
        replace KG := KG_l.old hst
        replace KM := KM_l.old hst
        replace KN := KN_l.old hst
        replace L := oi_set3 (v0 := (.bool s8)) (v1 := (.slice avO t8.length cvO)) (v2 := (.slice avO' u8.length cvO')) L lO
        replace L' := oi_set3 (v0 := (.bool s8)) (v1 := (.slice avO t8.length cvO)) (v2 := (.slice avO' u8.length cvO')) L' lO
        replace O := oi_set3 (v0 := (.bool s8)) (v1 := (.slice avO t8.length cvO)) (v2 := (.slice avO' u8.length cvO')) O lP
        replace O' := oi_set3 (v0 := (.bool s8)) (v1 := (.slice avO t8.length cvO)) (v2 := (.slice avO' u8.length cvO')) O' lP
        replace KL := Cel3.far3 (x := (.bool s8)) (y := (.slice avO t8.length cvO)) (z := (.slice avO' u8.length cvO')) KL nlo
        replace KO := KO.setAll (.bool s8) (.slice avO t8.length cvO) (.slice avO' u8.length cvO')
        clear hl
        have hl := hst
        clear hst
        obtain ⟨KAa, ⟨KAb, KAc, KAd⟩, -⟩ := id KA
        obtain ⟨KCa, ⟨KCb, KCc, KCd⟩, -⟩ := id KC
        obtain ⟨KSa, ⟨KSb, KSc, KSd⟩, -⟩ := id KS
        obtain ⟨KPa, ⟨KPb, KPc, KPd⟩, -⟩ := id KP
        obtain ⟨KGa, ⟨KGb, KGc, KGd⟩, -⟩ := id KG
        obtain ⟨KMa, ⟨KMb, KMc, KMd⟩, -⟩ := id KM
        obtain ⟨KNa, ⟨KNb, KNc, KNd⟩, -⟩ := id KN
        obtain ⟨KLa, ⟨KLb, KLc, KLd⟩, -⟩ := id KL
        obtain ⟨KOa, ⟨KOb, KOc, KOd⟩, -⟩ := id KO
        clear lL lO lP
        cases r8
        · as_aux_lemma =>
          go_wp2
          go_ret
          exact ⟨rfl, hB⟩
        · as_aux_lemma =>
          go_wp2_with fail
          refine (PF.out _ _ _ _ _ _ _ _ _ _ _ _ _ _ L.inI L'.inI O.inI O'.inI).mono ?_
          rintro e w28 ⟨rfl, hb28⟩
          clear ka kb kc kd fz0 fz1 fz2
          clear KAa KAb KAc KAd KCa KCb KCc KCd KSa KSb KSc KSd KPa KPb KPc KPd KGa KGb KGc KGd KMa KMb KMc KMd KNa KNb KNc KNd KLa KLb KLc KLd KOa KOb KOc KOd
          replace X := X.later hb28
          replace Y := Y.later hb28
          replace P := P.later hb28
          replace Q := Q.later hb28
          replace S := S.later hb28
          replace S' := S'.later hb28
          replace T := T.later hb28
          replace T' := T'.later hb28
          replace G := G.later hb28
          replace G' := G'.later hb28
          replace M := M.later hb28
          replace M' := M'.later hb28
          replace N := N.later hb28
          replace N' := N'.later hb28
          replace L := L.later hb28
          replace L' := L'.later hb28
          replace O := O.later hb28
          replace O' := O'.later hb28
          replace KA := KA.old hb28
          replace KC := KC.old hb28
          replace KS := KS.old hb28
          replace KP := KP.old hb28
          replace KG := KG.old hb28
          replace KM := KM.old hb28
          replace KN := KN.old hb28
          replace KL := KL.old hb28
          replace KO := KO.old hb28
          replace hl := old_trans hl hb28
          replace hB := old_trans hB hb28
          clear hb28
          obtain ⟨KAa, ⟨KAb, KAc, KAd⟩, -⟩ := id KA
          obtain ⟨KCa, ⟨KCb, KCc, KCd⟩, -⟩ := id KC
          obtain ⟨KSa, ⟨KSb, KSc, KSd⟩, -⟩ := id KS
          obtain ⟨KPa, ⟨KPb, KPc, KPd⟩, -⟩ := id KP
          obtain ⟨KGa, ⟨KGb, KGc, KGd⟩, -⟩ := id KG
          obtain ⟨KMa, ⟨KMb, KMc, KMd⟩, -⟩ := id KM
          obtain ⟨KNa, ⟨KNb, KNc, KNd⟩, -⟩ := id KN
          obtain ⟨KLa, ⟨KLb, KLc, KLd⟩, -⟩ := id KL
          obtain ⟨KOa, ⟨KOb, KOc, KOd⟩, -⟩ := id KO
          go_wp2
          go_ret
          exact ⟨rfl, hB⟩

set_option maxRecDepth 100000 in
theorem FnNumTop_lifted (os : Os) (started : os.Started) (H : Type) (enc : TypeId × Value → H) :
    ReturnsInHanded {} Tryz.checked os 3 .any (fun w args => (Rows.fnNumTopSpec.pre enc Tryz.prog Tryz.f3 [] false w args ∧ laidMetH Tryz.prog LHL w) ∧ sizedMet enc Tryz.prog Tryz.f3 (OpenSpec.ofChange Rows.fnNumTopSpec) false w args)
      (Rows.fnNumTopSpec.post enc Tryz.prog Tryz.f3 false true false false) := by
  refine returnsInHanded_of_change_and (C := Tryz.checked) (X := fun w _ => laidMetH Tryz.prog LHL w) (fun _ _ _ hh h => h.of_heap hh) LH_own started (by kernel_rfl) Tryz.func3
    (ChangeSpec.witness_shaped (enc := enc) (C := Tryz.checked) (os := os) (X := fun w _ => laidMetH Tryz.prog LHL w) false (World.doorLaid Tryz.prog LH_fuel os) #[.slice none 0 0, .slice none 0 0] 8 rfl (LH_shaped os _) (by kernel_rfl) (by kernel_rfl) (by kernel_rfl) (LH_met os _)) ?_
  intro W base args ds gs before hval0 hW _ _ hL _
  have hval : ∀ (j : Nat) t v, Tryz.f3.params[j]? = some t → args[j]? = some v → Value.okWide Tryz.prog W .any base t v := hval0
  have hW' := hW
  obtain ⟨p, q, hA0, hV, rfl, hfz, hnd⟩ := hW
  have hA : DataW.TrodAll enc Tryz.prog W 0 (fun _ => true) true Tryz.f3.params.toList args.toList ds p := hA0
  rw [Tryz.params3] at hA hval
  obtain ⟨v0, vs0, d0, ds0, p0, q0, hargs, rfl, rfl, h0, r0⟩ := trodAll_cons hA
  obtain ⟨v1, vs1, d1, ds1, p1, q1, rfl, rfl, rfl, h1, r1⟩ := trodAll_cons r0
  obtain ⟨rfl, rfl, rfl⟩ := trodAll_nil r1
  obtain rfl : args = #[v0, v1] := by cases args; simp_all
  obtain ⟨rfl, rfl⟩ := trodVars_none hV
  have k0 := h0
  have lt0 : ∀ x ∈ p0, x.block < W.heap.size := by obtain ⟨m, hm⟩ := k0; exact DataW.trod_lt m _ _ _ hm
  obtain ⟨a0, len0, cap0, rfl, wb0⟩ := open_bytes (hval 0 22 v0 rfl rfl) h0
  have k1 := h1
  have lt1 : ∀ x ∈ p1, x.block < W.heap.size := by obtain ⟨m, hm⟩ := k1; exact DataW.trod_lt m _ _ _ hm
  obtain ⟨a1, len1, cap1, rfl, wb1⟩ := open_bytes (hval 1 22 v1 rfl rfl) h1
  clear hA0 hval0
  refine (FnNumTop_walk a0 len0 cap0 a1 len1 cap1 W wb0 wb1 (both_of hL)).mono fun e W' ⟨he, bel⟩ => ?_
  subst he
  exact ⟨_, rfl, _, _, _, [], _, [], hW', trodAll_mk1 (shut_bool Tryz.underlying4 _), (trodAll_cons_mk (Below.trod jf1 (by kernel_rfl) (of_decide_eq_true (by kernel_rfl)) k0 bel lt0) (trodAll_cons_mk (Below.trod jf1 (by kernel_rfl) (of_decide_eq_true (by kernel_rfl)) k1 bel lt1) trodAll_mk0)), rfl, bel.frame _, fun h => by cases h⟩

theorem FnNumTop_k0 : (Rows.fnNumTopRow.wf (OpenSpec.ofChange Rows.fnNumTopSpec)) = true := by kernel_rfl
theorem FnNumTop_k3 : (Tryz.f3.params.all (Tryz.prog.readableRec ·)) = true := by kernel_rfl
theorem FnNumTop_k4 : (namedTie Tryz.prog Rows.fnNumTopRow.named Rows.fnNumTopSpec.vars) = true := by kernel_rfl
theorem FnNumTop_k5 : ((Rows.fnNumTopRow.stops == [])) = true := by kernel_rfl
theorem FnNumTop_k7 : ((Rows.fnNumTopRow.knobs == [])) = true := by kernel_rfl
theorem FnNumTop_k9 : ((Rows.fnNumTopRow.inPlace == Tryz.prog.inPlace 3)) = true := by kernel_rfl
theorem FnNumTop_k10 : ((Rows.fnNumTopRow.unfollowed == Tryz.prog.unfollowed 3)) = true := by kernel_rfl
theorem FnNumTop_k11 : ((Rows.fnNumTopRow.recurses == Tryz.prog.recurses 3)) = true := by kernel_rfl
theorem FnNumTop_k12 : ((Rows.fnNumTopRow.named == Tryz.prog.varsNamed 3)) = true := by kernel_rfl
theorem FnNumTop_k13 : ((Rows.fnNumTopRow.maps == (Tryz.f3.params.toList ++ Rows.fnNumTopSpec.plain.varTypes Tryz.prog).any (Tryz.prog.mapsRec ·))) = true := by kernel_rfl
theorem FnNumTop_k14 : ((Rows.fnNumTopRow.ifaces == (Tryz.f3.params.toList ++ Rows.fnNumTopSpec.plain.varTypes Tryz.prog).any (Tryz.prog.ifacesRec ·))) = true := by kernel_rfl
theorem FnNumTop_k15 : ((Rows.fnNumTopRow.mapsOut == Tryz.prog.mapsAmong Tryz.f3.resultTypes.toList)) = true := by kernel_rfl
theorem FnNumTop_k16 : ((Rows.fnNumTopRow.loops == (Tryz.f3.params.toList ++ Rows.fnNumTopSpec.plain.varTypes Tryz.prog).any (Tryz.prog.loopsFrom ·))) = true := by kernel_rfl
theorem FnNumTop_k17 : ((Rows.fnNumTopRow.wideKeys == (Tryz.f3.params.toList ++ Rows.fnNumTopSpec.plain.varTypes Tryz.prog ++ Tryz.f3.resultTypes.toList).any (Tryz.prog.wideKeysFrom ·))) = true := by kernel_rfl
theorem FnNumTop_k18 : (Rows.fnNumTopSpec.vars.all (Tryz.prog.varReadable ·)) = true := by kernel_rfl
theorem FnNumTop_k19 : (Tryz.f3.resultTypes.all (fun t => Tryz.prog.readableRec t && decide (t < Tryz.prog.types.size))) = true := by kernel_rfl
theorem FnNumTop_k20 : ((Rows.fnNumTopRow.ifacesOut == Tryz.f3.resultTypes.toList.any (Tryz.prog.ifacesRec ·))) = true := by kernel_rfl
theorem FnNumTop_k21 : ((Rows.fnNumTopRow.loopsOut == Tryz.f3.resultTypes.toList.any (Tryz.prog.loopsFrom ·))) = true := by kernel_rfl
theorem FnNumTop_k23 : (Rows.fnNumTopRow.shortTexts.isNone) = true := by kernel_rfl
theorem FnNumTop_k28 : ((Rows.fnNumTopRow.kinds == (if Rows.fnNumTopRow.domain.isEmpty then [] else Tryz.f3.params.toList.map fun t => match Tryz.prog.underlying t with | some (.int k) => some k | _ => none))) = true := by kernel_rfl
theorem FnNumTop_k29 : ((Rows.fnNumTopRow.pinned == Rows.fnNumTopRow.pinnedBy)) = true := by kernel_rfl
theorem FnNumTop_k30 : ((Rows.fnNumTopRow.veiled == (Tryz.f3.params.toList ++ Rows.fnNumTopSpec.plain.varTypes Tryz.prog ++ Tryz.f3.resultTypes.toList).any (Tryz.prog.veiledRec ·))) = true := by kernel_rfl
theorem FnNumTop_k31 : (Rows.fnNumTopRow.veiledFits Tryz.prog Tryz.f3.params.toList (Tryz.f3.params.toList ++ Rows.fnNumTopSpec.plain.varTypes Tryz.prog ++ Tryz.f3.resultTypes.toList)) = true := by kernel_rfl
set_option maxRecDepth 100000 in
theorem FnNumTop_closed : joinedFacts Tryz.prog 3 Tryz.f3 Rows.fnNumTopSpec Rows.fnNumTopRow = true := (and2 (and2 (and2 (and2 (and2 (and2 (and2 (and2 (and2 (and2 (and2 (and2 (and2 (and2 (and2 (and2 (and2 (and2 (and2 (and2 (and2 (and2 (and2 (and2 (and2 (and2 (and2 (and2 (and2 (and2 (and2 FnNumTop_k0 jf1) jf2) FnNumTop_k3) FnNumTop_k4) FnNumTop_k5) jf6) FnNumTop_k7) jf8) FnNumTop_k9) FnNumTop_k10) FnNumTop_k11) FnNumTop_k12) FnNumTop_k13) FnNumTop_k14) FnNumTop_k15) FnNumTop_k16) FnNumTop_k17) FnNumTop_k18) FnNumTop_k19) FnNumTop_k20) FnNumTop_k21) jf22) FnNumTop_k23) jf24) jf25) jf26) jf27) FnNumTop_k28) FnNumTop_k29) FnNumTop_k30) FnNumTop_k31)
theorem FnNumTop_row : Rows.FnNumTopSaid :=
  OpenClaim.holds_of_wide 3 Tryz.f3 rfl rfl rfl rfl rfl rfl rfl ⟨rfl, rfl, rfl, rfl, rfl⟩ rfl rfl rfl rfl rfl (by kernel_rfl) Tryz.func3 FnNumTop_closed
    (of_decide_eq_true (by kernel_rfl)) (by unfold Func.isWrapper; first | (rw [if_pos (by decide +kernel)]; kernel_rfl) | (rw [if_neg (by decide +kernel)]; exact ⟨rfl, rfl⟩))
    (fun os started H enc _ => FnNumTop_lifted os started H enc)

theorem FnNumTop_proved : Rows.FnNumTopCardSaid :=
  Claim7.holds_tied_plain_at .later [] [.data, .data, .handle] true (true, "91f3bad53399b08fb678b07bb22d6dd5aea13d0dd050997a9d365f189890a175") true
    FnNumTop_row (fun _ h => by cases h) (by kernel_rfl) (fun _ h => by cases h) fnNumTop_row_tie rfl ⟨rfl, rfl⟩ (by kernel_rfl) rfl
    (fun f fn hf hfn => by
      obtain rfl : f = 3 := Option.some.inj ((show Tryz.prog.funcNamed "loop.example/pinfold/laws.FnNumTop" = some 3 by kernel_rfl).symm.trans hf) |>.symm
      obtain rfl : fn = Tryz.f3 := (Option.some.inj (Tryz.func3.symm.trans hfn)).symm
      exact ⟨by kernel_rfl, fun j t ht => by
        rw [Tryz.params3] at ht
        have hm : t ∈ [22, 22] := by simpa using Array.mem_of_getElem? ht
        have hall : ([22, 22].all fun u => !Tryz.prog.wantsStandIn u) = true := by kernel_rfl
        exact (show Tryz.prog.wantsStandIn t = false by simpa using List.all_eq_true.1 hall t hm)⟩)
    (by kernel_rfl)
end Go.Proofs.YtekhokemekaeoaaGreatDoor
