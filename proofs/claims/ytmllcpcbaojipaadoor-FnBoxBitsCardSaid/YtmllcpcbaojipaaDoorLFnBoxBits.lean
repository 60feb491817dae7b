/- For every two codes of bytes: the box that is drawn from the first comes back from its patterns, or has none; what is made of the list that is drawn from the second is as the specification says, each pattern at its place; the law answers true; nothing that was there is written. Condition: the library's handle of errors lies as its text lays it. -/
import Derived.Test.YtmllcpcbaojipaaDoorRows
import Derived.Test.YtmllcpcbaojipaaDoorTie
import Derived.Test.YtmllcpcbaojipaaDoorCards
import Derived.WalkKit
import Derived.ProofKit
import Derived.OpenShut
import Derived.Below
import Derived.Carry
import Derived.Test.YtmllcpcbaojipaaDoorPK01
import Derived.Test.YtmllcpcbaojipaaDoorPK03
import Derived.Test.YtmllcpcbaojipaaDoorPK07
import Derived.Test.YtmllcpcbaojipaaDoorPK26
import Derived.Test.YtmllcpcbaojipaaDoorPK27
namespace Go.Proofs.YtmllcpcbaojipaaDoor
open Go.ChangeShapes Go.WideShapes Go.ChangeAt Go.RowKit
set_option linter.unusedVariables false
set_option maxRecDepth 100000

set_option maxRecDepth 100000 in
set_option maxHeartbeats 20000000 in
theorem FnBoxBits_walk (a0 : Option Addr) (len0 cap0 : Nat) (a1 : Option Addr) (len1 cap1 : Nat) (w : World) (wb0 : IsCode w a0 len0 cap0) (wb1 : IsCode w a1 len1 cap1) (hE : ET w) :
    Calls Tryd.prog 3 #[.slice a0 len0 cap0, .slice a1 len1 cap1] w fun e w' => e = .returned (.bool true) ∧ Below w.heap.size w w' := by
  by_cases c0 : (1048576 : Int) < (len0 : Int)
  · have t0 : decide ((1048576 : Int) < (len0 : Int)) = true := by simp; omega
    go_enter Tryd.func3, Tryd.ntmps3
    go_wp2
    go_ret
    exact ⟨rfl, (by repeat (first | exact Below.refl _ _ | refine Below.drew ?_ | refine old_alloc ?_ _ | refine old_trans ?_ (by assumption)))⟩
  have f0 : decide ((1048576 : Int) < (len0 : Int)) = false := by simp; omega
  by_cases c1 : (1048576 : Int) < (len1 : Int)
  · have t1 : decide ((1048576 : Int) < (len1 : Int)) = true := by simp; omega
    go_enter Tryd.func3, Tryd.ntmps3
    go_wp2
    go_ret
    exact ⟨rfl, (by repeat (first | exact Below.refl _ _ | refine Below.drew ?_ | refine old_alloc ?_ _ | refine old_trans ?_ (by assumption)))⟩
  have f1 : decide ((1048576 : Int) < (len1 : Int)) = false := by simp; omega
  have hEE := hd (fun W (h : Below w.heap.size w W) => hE.old h)
  have hB : Below w.heap.size w w := Below.refl _ _
  clear hE
  go_enter Tryd.func3, Tryd.ntmps3
  go_wp2_with fail
  refine (drawBoxBits _ a0 len0 cap0 wb0).mono ?_
  rintro e w1 ⟨⟨wd, av, cv, ps, rfl, hwd, hpl, O⟩, hb1⟩
  replace wb0 := (by with_reducible first | exact wb0.old hb1 | exact (wb0.old ((Below.refl _ _).alloc (Nat.le_refl _) _)).old hb1 | exact ((wb0.old ((Below.refl _ _).alloc (Nat.le_refl _) _)).old ((Below.refl _ _).alloc (Nat.le_refl _) _)).old hb1 : IsCode w1 _ _ _)
  replace wb1 := (by with_reducible first | exact wb1.old hb1 | exact (wb1.old ((Below.refl _ _).alloc (Nat.le_refl _) _)).old hb1 | exact ((wb1.old ((Below.refl _ _).alloc (Nat.le_refl _) _)).old ((Below.refl _ _).alloc (Nat.le_refl _) _)).old hb1 : IsCode w1 _ _ _)
  replace hB := (by with_reducible first | exact old_trans hB hb1 | exact old_trans (old_alloc hB _) hb1 | exact old_trans (old_alloc (old_alloc hB _) _) hb1 | exact old_trans (old_alloc (old_alloc (old_alloc hB _) _) _) hb1 : Below w.heap.size w w1)
  cases hp : okRow wd ps
  case false =>
    go_wp2_with fail
    refine (iBitsNo wd av cv _ ps _ (O.alloc _) hpl hp).mono ?_
    rintro e w2 ⟨⟨au, cu, rfl, U⟩, hb2⟩
    replace O := (by with_reducible first | exact O.later hb2 | exact O.drew.later hb2 | exact (O.alloc _).later hb2 | exact ((O.alloc _).alloc _).later hb2 | exact (((O.alloc _).alloc _).alloc _).later hb2 : OB w2 _ _ _ _)
    replace wb1 := (by with_reducible first | exact wb1.old hb2 | exact (wb1.old ((Below.refl _ _).alloc (Nat.le_refl _) _)).old hb2 | exact ((wb1.old ((Below.refl _ _).alloc (Nat.le_refl _) _)).old ((Below.refl _ _).alloc (Nat.le_refl _) _)).old hb2 : IsCode w2 _ _ _)
    replace hB := (by with_reducible first | exact old_trans hB hb2 | exact old_trans (old_alloc hB _) hb2 | exact old_trans (old_alloc (old_alloc hB _) _) hb2 | exact old_trans (old_alloc (old_alloc (old_alloc hB _) _) _) hb2 : Below w.heap.size w w2)
    have V := (Cel1.made _ _ rfl (.slice av ps.length cv) 25).later hb2
    (try simp only [World.size_alloc] at V)
    have V0 := V.1
    have V1 := V.2.1
    have Vz := V.2.2
    go_wp2_with fail
    refine (iOfNone wd au cu _ _ U (hEE.out _ hB)).mono ?_
    rintro e w3 ⟨⟨ac, cc, rfl, Cc⟩, hb3⟩
    replace U := (by with_reducible first | exact U.later hb3 | exact U.drew.later hb3 | exact (U.alloc _).later hb3 | exact ((U.alloc _).alloc _).later hb3 | exact (((U.alloc _).alloc _).alloc _).later hb3 : OU w3 _ _ _ _)
    clear V0 V1 Vz
    replace V := (by with_reducible first | exact V.later hb3 | exact V.drew.later hb3 | exact (V.alloc _).later hb3 | exact ((V.alloc _).alloc _).later hb3 | exact (((V.alloc _).alloc _).alloc _).later hb3 : Cel1 w3 _ _)
    replace O := (by with_reducible first | exact O.later hb3 | exact O.drew.later hb3 | exact (O.alloc _).later hb3 | exact ((O.alloc _).alloc _).later hb3 | exact (((O.alloc _).alloc _).alloc _).later hb3 : OB w3 _ _ _ _)
    replace wb1 := (by with_reducible first | exact wb1.old hb3 | exact (wb1.old ((Below.refl _ _).alloc (Nat.le_refl _) _)).old hb3 | exact ((wb1.old ((Below.refl _ _).alloc (Nat.le_refl _) _)).old ((Below.refl _ _).alloc (Nat.le_refl _) _)).old hb3 : IsCode w3 _ _ _)
    replace hB := (by with_reducible first | exact old_trans hB hb3 | exact old_trans (old_alloc hB _) hb3 | exact old_trans (old_alloc (old_alloc hB _) _) hb3 | exact old_trans (old_alloc (old_alloc (old_alloc hB _) _) _) hb3 : Below w.heap.size w w3)
    have V0 := V.1
    have V1 := V.2.1
    have Vz := V.2.2
    go_wp2_with fail
    refine (sOkO _ _ _ _ _ (O.alloc _) wd false hp).mono ?_
    rintro e w4 ⟨rfl, hb4⟩
    replace U := (by with_reducible first | exact U.later hb4 | exact U.drew.later hb4 | exact (U.alloc _).later hb4 | exact ((U.alloc _).alloc _).later hb4 | exact (((U.alloc _).alloc _).alloc _).later hb4 : OU w4 _ _ _ _)
    clear V0 V1 Vz
    replace V := (by with_reducible first | exact V.later hb4 | exact V.drew.later hb4 | exact (V.alloc _).later hb4 | exact ((V.alloc _).alloc _).later hb4 | exact (((V.alloc _).alloc _).alloc _).later hb4 : Cel1 w4 _ _)
    replace O := (by with_reducible first | exact O.later hb4 | exact O.drew.later hb4 | exact (O.alloc _).later hb4 | exact ((O.alloc _).alloc _).later hb4 | exact (((O.alloc _).alloc _).alloc _).later hb4 : OB w4 _ _ _ _)
    replace Cc := (by with_reducible first | exact Cc.later hb4 | exact Cc.drew.later hb4 | exact (Cc.alloc _).later hb4 | exact ((Cc.alloc _).alloc _).later hb4 | exact (((Cc.alloc _).alloc _).alloc _).later hb4 : OB w4 _ _ _ _)
    replace wb1 := (by with_reducible first | exact wb1.old hb4 | exact (wb1.old ((Below.refl _ _).alloc (Nat.le_refl _) _)).old hb4 | exact ((wb1.old ((Below.refl _ _).alloc (Nat.le_refl _) _)).old ((Below.refl _ _).alloc (Nat.le_refl _) _)).old hb4 : IsCode w4 _ _ _)
    replace hB := (by with_reducible first | exact old_trans hB hb4 | exact old_trans (old_alloc hB _) hb4 | exact old_trans (old_alloc (old_alloc hB _) _) hb4 | exact old_trans (old_alloc (old_alloc (old_alloc hB _) _) _) hb4 : Below w.heap.size w w4)
    have VC := (Cel1.made _ _ rfl (.slice ac 0 cc) 25).later hb4
    (try simp only [World.size_alloc] at VC)
    have V0 := V.1
    have V1 := V.2.1
    have Vz := V.2.2
    have VC0 := VC.1
    have VC1 := VC.2.1
    have VCz := VC.2.2
    clear U Cc O
    go_wp2_with fail
    refine (drawBoxOf _ a1 len1 cap1 wb1).mono ?_
    rintro e w5 ⟨⟨we, ax, cx, xs, rfl, hwe, hxl, X⟩, hb5⟩
    clear V0 V1 Vz VC0 VC1 VCz
    replace V := (by with_reducible first | exact V.later hb5 | exact V.drew.later hb5 | exact (V.alloc _).later hb5 | exact ((V.alloc _).alloc _).later hb5 | exact (((V.alloc _).alloc _).alloc _).later hb5 : Cel1 w5 _ _)
    replace VC := (by with_reducible first | exact VC.later hb5 | exact VC.drew.later hb5 | exact (VC.alloc _).later hb5 | exact ((VC.alloc _).alloc _).later hb5 | exact (((VC.alloc _).alloc _).alloc _).later hb5 : Cel1 w5 _ _)
    replace wb1 := (by with_reducible first | exact wb1.old hb5 | exact (wb1.old ((Below.refl _ _).alloc (Nat.le_refl _) _)).old hb5 | exact ((wb1.old ((Below.refl _ _).alloc (Nat.le_refl _) _)).old ((Below.refl _ _).alloc (Nat.le_refl _) _)).old hb5 : IsCode w5 _ _ _)
    replace hB := (by with_reducible first | exact old_trans hB hb5 | exact old_trans (old_alloc hB _) hb5 | exact old_trans (old_alloc (old_alloc hB _) _) hb5 | exact old_trans (old_alloc (old_alloc (old_alloc hB _) _) _) hb5 : Below w.heap.size w w5)
    have V0 := V.1
    have V1 := V.2.1
    have Vz := V.2.2
    have VC0 := VC.1
    have VC1 := VC.2.1
    have VCz := VC.2.2
    obtain ⟨c, hc⟩ : ∃ c, ofC we xs = c := ⟨_, rfl⟩
    by_cases hz : c = 0
    case neg =>
      have gz : (c == 0) = false := beq_eq_false_iff_ne.2 hz
      go_wp2_with fail
      refine (iOfC we c ax cx _ xs _ X (hEE.out _ hB) hc hz).mono ?_
      rintro e w6 ⟨⟨ad, cd, rfl, Dd⟩, hb6⟩
      replace X := (by with_reducible first | exact X.later hb6 | exact X.drew.later hb6 | exact (X.alloc _).later hb6 | exact ((X.alloc _).alloc _).later hb6 | exact (((X.alloc _).alloc _).alloc _).later hb6 : OU w6 _ _ _ _)
      clear V0 V1 Vz VC0 VC1 VCz
      replace V := (by with_reducible first | exact V.later hb6 | exact V.drew.later hb6 | exact (V.alloc _).later hb6 | exact ((V.alloc _).alloc _).later hb6 | exact (((V.alloc _).alloc _).alloc _).later hb6 : Cel1 w6 _ _)
      replace VC := (by with_reducible first | exact VC.later hb6 | exact VC.drew.later hb6 | exact (VC.alloc _).later hb6 | exact ((VC.alloc _).alloc _).later hb6 | exact (((VC.alloc _).alloc _).alloc _).later hb6 : Cel1 w6 _ _)
      replace hB := (by with_reducible first | exact old_trans hB hb6 | exact old_trans (old_alloc hB _) hb6 | exact old_trans (old_alloc (old_alloc hB _) _) hb6 | exact old_trans (old_alloc (old_alloc (old_alloc hB _) _) _) hb6 : Below w.heap.size w w6)
      have V0 := V.1
      have V1 := V.2.1
      have Vz := V.2.2
      have VC0 := VC.1
      have VC1 := VC.2.1
      have VCz := VC.2.2
      go_wp2_with fail
      refine (sOfC we c ax cx _ xs _ (X.alloc _) hc hz).mono ?_
      rintro e w7 ⟨⟨an, cn, rfl, Nn⟩, hb7⟩
      replace X := (by with_reducible first | exact X.later hb7 | exact X.drew.later hb7 | exact (X.alloc _).later hb7 | exact ((X.alloc _).alloc _).later hb7 | exact (((X.alloc _).alloc _).alloc _).later hb7 : OU w7 _ _ _ _)
      clear V0 V1 Vz VC0 VC1 VCz
      replace V := (by with_reducible first | exact V.later hb7 | exact V.drew.later hb7 | exact (V.alloc _).later hb7 | exact ((V.alloc _).alloc _).later hb7 | exact (((V.alloc _).alloc _).alloc _).later hb7 : Cel1 w7 _ _)
      replace VC := (by with_reducible first | exact VC.later hb7 | exact VC.drew.later hb7 | exact (VC.alloc _).later hb7 | exact ((VC.alloc _).alloc _).later hb7 | exact (((VC.alloc _).alloc _).alloc _).later hb7 : Cel1 w7 _ _)
      replace Dd := (by with_reducible first | exact Dd.later hb7 | exact Dd.drew.later hb7 | exact (Dd.alloc _).later hb7 | exact ((Dd.alloc _).alloc _).later hb7 | exact (((Dd.alloc _).alloc _).alloc _).later hb7 : OB w7 _ _ _ _)
      replace hB := (by with_reducible first | exact old_trans hB hb7 | exact old_trans (old_alloc hB _) hb7 | exact old_trans (old_alloc (old_alloc hB _) _) hb7 | exact old_trans (old_alloc (old_alloc (old_alloc hB _) _) _) hb7 : Below w.heap.size w w7)
      have VD := (Cel1.made _ _ rfl (.slice ad 0 cd) 25).later hb7
      (try simp only [World.size_alloc] at VD)
      have V0 := V.1
      have V1 := V.2.1
      have Vz := V.2.2
      have VC0 := VC.1
      have VC1 := VC.2.1
      have VCz := VC.2.2
      have VD0 := VD.1
      have VD1 := VD.2.1
      have VDz := VD.2.2
      clear hz hc
      go_wp2
      go_ret
      exact ⟨rfl, (by repeat (first | exact hB | exact Below.refl _ _ | refine Below.drew ?_ | refine old_alloc ?_ _ | refine old_trans ?_ (by assumption)))⟩
    subst hz
    have hxl2 := hd hxl
    have hwo := ofC_wd hc
    obtain ⟨hql, hat⟩ := of_at hc
    replace hat := hd hat
    replace hql := hd hql
    go_wp2_with fail
    refine (iOf0 we ax cx _ xs _ X (hEE.out _ hB) hc).mono ?_
    rintro e w6 ⟨⟨ad, cd, rfl, Dd⟩, hb6⟩
    replace X := (by with_reducible first | exact X.later hb6 | exact X.drew.later hb6 | exact (X.alloc _).later hb6 | exact ((X.alloc _).alloc _).later hb6 | exact (((X.alloc _).alloc _).alloc _).later hb6 : OU w6 _ _ _ _)
    clear V0 V1 Vz VC0 VC1 VCz
    replace V := (by with_reducible first | exact V.later hb6 | exact V.drew.later hb6 | exact (V.alloc _).later hb6 | exact ((V.alloc _).alloc _).later hb6 | exact (((V.alloc _).alloc _).alloc _).later hb6 : Cel1 w6 _ _)
    replace VC := (by with_reducible first | exact VC.later hb6 | exact VC.drew.later hb6 | exact (VC.alloc _).later hb6 | exact ((VC.alloc _).alloc _).later hb6 | exact (((VC.alloc _).alloc _).alloc _).later hb6 : Cel1 w6 _ _)
    replace hB := (by with_reducible first | exact old_trans hB hb6 | exact old_trans (old_alloc hB _) hb6 | exact old_trans (old_alloc (old_alloc hB _) _) hb6 | exact old_trans (old_alloc (old_alloc (old_alloc hB _) _) _) hb6 : Below w.heap.size w w6)
    have V0 := V.1
    have V1 := V.2.1
    have Vz := V.2.2
    have VC0 := VC.1
    have VC1 := VC.2.1
    have VCz := VC.2.2
    go_wp2_with fail
    refine (sOf0 we ax cx _ xs _ (X.alloc _) hc).mono ?_
    rintro e w7 ⟨⟨an, cn, rfl, Nn⟩, hb7⟩
    replace X := (by with_reducible first | exact X.later hb7 | exact X.drew.later hb7 | exact (X.alloc _).later hb7 | exact ((X.alloc _).alloc _).later hb7 | exact (((X.alloc _).alloc _).alloc _).later hb7 : OU w7 _ _ _ _)
    clear V0 V1 Vz VC0 VC1 VCz
    replace V := (by with_reducible first | exact V.later hb7 | exact V.drew.later hb7 | exact (V.alloc _).later hb7 | exact ((V.alloc _).alloc _).later hb7 | exact (((V.alloc _).alloc _).alloc _).later hb7 : Cel1 w7 _ _)
    replace VC := (by with_reducible first | exact VC.later hb7 | exact VC.drew.later hb7 | exact (VC.alloc _).later hb7 | exact ((VC.alloc _).alloc _).later hb7 | exact (((VC.alloc _).alloc _).alloc _).later hb7 : Cel1 w7 _ _)
    replace Dd := (by with_reducible first | exact Dd.later hb7 | exact Dd.drew.later hb7 | exact (Dd.alloc _).later hb7 | exact ((Dd.alloc _).alloc _).later hb7 | exact (((Dd.alloc _).alloc _).alloc _).later hb7 : OB w7 _ _ _ _)
    replace hB := (by with_reducible first | exact old_trans hB hb7 | exact old_trans (old_alloc hB _) hb7 | exact old_trans (old_alloc (old_alloc hB _) _) hb7 | exact old_trans (old_alloc (old_alloc (old_alloc hB _) _) _) hb7 : Below w.heap.size w w7)
    have VD := (Cel1.made _ _ rfl (.slice ad (ofQ we xs).length cd) 25).later hb7
    (try simp only [World.size_alloc] at VD)
    have V0 := V.1
    have V1 := V.2.1
    have Vz := V.2.2
    have VC0 := VC.1
    have VC1 := VC.2.1
    have VCz := VC.2.2
    have VD0 := VD.1
    have VD1 := VD.2.1
    have VDz := VD.2.2
    generalize ofQ we xs = qs at *
    clear hc
    go_upto_region 18 with fail
    clear V0 V1 Vz VC0 VC1 VCz VD0 VD1 VDz
    replace X := X.alloc (.cells #[.slice an qs.length cn] 25)
    replace Dd := Dd.alloc (.cells #[.slice an qs.length cn] 25)
    replace VD := VD.alloc (.cells #[.slice an qs.length cn] 25)
    replace hB := old_alloc hB (.cells #[.slice an qs.length cn] 25)
    generalize w7.alloc (.cells #[.slice an qs.length cn] 25) = wl at *
    have XI := hd X.inU
    have DI := hd Dd.inRow
    clear X Dd Nn hEE hxl hwe
    try clear V VC
    have hnI : (xs.length : Int) ≤ 100 := by have := hxl2.out; omega
    go_wp2_with fail
    go_loopw [16] (fun x wr => ∃ j : Nat, j ≤ xs.length ∧ x = .int .i64 j ∧ Below wl.heap.size wl wr) (fun x _ => xs.length - (intOf x).toNat)
    case atStart => exact ⟨0, Nat.zero_le _, rfl, Below.refl _ _⟩
    case round =>
      obtain ⟨j, hj, rfl, hb⟩ := hrel
      by_cases hlt : j < xs.length
      · obtain ⟨bx, offx, x, hav, hbx, hxv, hfx, cx0⟩ := (XI.out.old hb).at hlt
        subst hav
        have hq : j / 2 < qs.length := by have := hql.out; omega
        obtain ⟨bq, offq, y0, y1, haq, hbq, hyv, hfy, d0, d1⟩ := (DI.out.old hb).at hq
        subst haq
        obtain ⟨hk, hev, hod⟩ := hat.out j hlt
        rw [hxv] at hk hev hod
        rw [hyv] at hev hod
        have OR := iOrdW we hwo x hfx wr
        rw [hk] at OR
        replace OR := hd OR
        generalize ordW we x = o at *
        dsimp only at hev hod
        have V0 := (VD.later hb).1
        have V1 := (VD.later hb).2.2
        have hjI : (j : Int) < (xs.length : Int) := by omega
        have hj0 : (0 : Int) ≤ (j : Int) := by omega
        have tq : (j : Int).tdiv 2 = ((j / 2 : Nat) : Int) := by rw [Int.tdiv_eq_ediv_of_nonneg (by omega)]; omega
        have q1 : ((j / 2 : Nat) : Int) < (qs.length : Int) := by omega
        have q0 : (0 : Int) ≤ ((j / 2 : Nat) : Int) := by omega
        have q2 : ((j / 2 : Nat) : Int) ≤ 100 := by omega
        have hp2 : j % 2 = 0 ∨ j % 2 = 1 := by omega
        have hpar : (j % 2 = 0 ∧ y0 = o) ∨ (j % 2 = 1 ∧ y1 = o) := hp2.imp (fun q => ⟨q, hev q⟩) (fun q => ⟨q, hod q⟩)
        clear hp2
        clear hk hev hod hxv hyv hfx hfy hat hql XI DI
        generalize j / 2 = m at *
        rcases hpar with ⟨q, rfl⟩ | ⟨q, rfl⟩
        · have tm : (j : Int).tmod 2 = 0 := by rw [Int.tmod_eq_emod_of_nonneg (by omega)]; omega
          clear q
          go_wp2_with fail
          refine OR.out.mono ?_
          rintro e w2 ⟨rfl, hb2⟩
          have V2 := (hb2.cell (p := ⟨w6.heap.size, 0, none⟩) V1).trans V0
          have d2 := (hb2.cell (p := ⟨bq, offq + m * 2, none⟩) hbq).trans d0
          have d3 := (hb2.cell (p := ⟨bq, offq + m * 2 + 1, none⟩) hbq).trans d1
          have hbb := old_trans hb hb2
          clear V0 V1 d0 d1 cx0 OR hb hb2
          go_wp2
          go_roundw
          case rel => exact ⟨j + 1, by omega, by go_num, old_alloc hbb _⟩
          case measure => simp [intOf]; omega
        · have tm : (j : Int).tmod 2 = 1 := by rw [Int.tmod_eq_emod_of_nonneg (by omega)]; omega
          clear q
          go_wp2_with fail
          refine OR.out.mono ?_
          rintro e w2 ⟨rfl, hb2⟩
          have V2 := (hb2.cell (p := ⟨w6.heap.size, 0, none⟩) V1).trans V0
          have d2 := (hb2.cell (p := ⟨bq, offq + m * 2, none⟩) hbq).trans d0
          have d3 := (hb2.cell (p := ⟨bq, offq + m * 2 + 1, none⟩) hbq).trans d1
          have hbb := old_trans hb hb2
          clear V0 V1 d0 d1 cx0 OR hb hb2
          go_wp2
          go_roundw
          case rel => exact ⟨j + 1, by omega, by go_num, old_alloc hbb _⟩
          case measure => simp [intOf]; omega
      · obtain rfl : j = xs.length := by omega
        have hni : ¬ ((xs.length : Int) < (xs.length : Int)) := by omega
        go_wp2
        go_ret
        exact ⟨rfl, old_trans hB hb⟩
  case true =>
    go_wp2_with fail
    refine (iBitsYes wd av cv _ ps _ (O.alloc _) hpl hp).mono ?_
    rintro e w2 ⟨⟨au, cu, rfl, U⟩, hb2⟩
    replace O := (by with_reducible first | exact O.later hb2 | exact O.drew.later hb2 | exact (O.alloc _).later hb2 | exact ((O.alloc _).alloc _).later hb2 | exact (((O.alloc _).alloc _).alloc _).later hb2 : OB w2 _ _ _ _)
    replace wb1 := (by with_reducible first | exact wb1.old hb2 | exact (wb1.old ((Below.refl _ _).alloc (Nat.le_refl _) _)).old hb2 | exact ((wb1.old ((Below.refl _ _).alloc (Nat.le_refl _) _)).old ((Below.refl _ _).alloc (Nat.le_refl _) _)).old hb2 : IsCode w2 _ _ _)
    replace hB := (by with_reducible first | exact old_trans hB hb2 | exact old_trans (old_alloc hB _) hb2 | exact old_trans (old_alloc (old_alloc hB _) _) hb2 | exact old_trans (old_alloc (old_alloc (old_alloc hB _) _) _) hb2 : Below w.heap.size w w2)
    have V := (Cel1.made _ _ rfl (.slice av ps.length cv) 25).later hb2
    (try simp only [World.size_alloc] at V)
    have V0 := V.1
    have V1 := V.2.1
    have Vz := V.2.2
    go_wp2_with fail
    refine (iOfYes wd au cu _ ps _ U (hEE.out _ hB) hp).mono ?_
    rintro e w3 ⟨⟨ac, cc, rfl, Cc⟩, hb3⟩
    replace U := (by with_reducible first | exact U.later hb3 | exact U.drew.later hb3 | exact (U.alloc _).later hb3 | exact ((U.alloc _).alloc _).later hb3 | exact (((U.alloc _).alloc _).alloc _).later hb3 : OU w3 _ _ _ _)
    clear V0 V1 Vz
    replace V := (by with_reducible first | exact V.later hb3 | exact V.drew.later hb3 | exact (V.alloc _).later hb3 | exact ((V.alloc _).alloc _).later hb3 | exact (((V.alloc _).alloc _).alloc _).later hb3 : Cel1 w3 _ _)
    replace O := (by with_reducible first | exact O.later hb3 | exact O.drew.later hb3 | exact (O.alloc _).later hb3 | exact ((O.alloc _).alloc _).later hb3 | exact (((O.alloc _).alloc _).alloc _).later hb3 : OB w3 _ _ _ _)
    replace wb1 := (by with_reducible first | exact wb1.old hb3 | exact (wb1.old ((Below.refl _ _).alloc (Nat.le_refl _) _)).old hb3 | exact ((wb1.old ((Below.refl _ _).alloc (Nat.le_refl _) _)).old ((Below.refl _ _).alloc (Nat.le_refl _) _)).old hb3 : IsCode w3 _ _ _)
    replace hB := (by with_reducible first | exact old_trans hB hb3 | exact old_trans (old_alloc hB _) hb3 | exact old_trans (old_alloc (old_alloc hB _) _) hb3 | exact old_trans (old_alloc (old_alloc (old_alloc hB _) _) _) hb3 : Below w.heap.size w w3)
    have V0 := V.1
    have V1 := V.2.1
    have Vz := V.2.2
    go_wp2_with fail
    refine (sOkO _ _ _ _ _ (O.alloc _) wd true hp).mono ?_
    rintro e w4 ⟨rfl, hb4⟩
    replace U := (by with_reducible first | exact U.later hb4 | exact U.drew.later hb4 | exact (U.alloc _).later hb4 | exact ((U.alloc _).alloc _).later hb4 | exact (((U.alloc _).alloc _).alloc _).later hb4 : OU w4 _ _ _ _)
    clear V0 V1 Vz
    replace V := (by with_reducible first | exact V.later hb4 | exact V.drew.later hb4 | exact (V.alloc _).later hb4 | exact ((V.alloc _).alloc _).later hb4 | exact (((V.alloc _).alloc _).alloc _).later hb4 : Cel1 w4 _ _)
    replace O := (by with_reducible first | exact O.later hb4 | exact O.drew.later hb4 | exact (O.alloc _).later hb4 | exact ((O.alloc _).alloc _).later hb4 | exact (((O.alloc _).alloc _).alloc _).later hb4 : OB w4 _ _ _ _)
    replace Cc := (by with_reducible first | exact Cc.later hb4 | exact Cc.drew.later hb4 | exact (Cc.alloc _).later hb4 | exact ((Cc.alloc _).alloc _).later hb4 | exact (((Cc.alloc _).alloc _).alloc _).later hb4 : OB w4 _ _ _ _)
    replace wb1 := (by with_reducible first | exact wb1.old hb4 | exact (wb1.old ((Below.refl _ _).alloc (Nat.le_refl _) _)).old hb4 | exact ((wb1.old ((Below.refl _ _).alloc (Nat.le_refl _) _)).old ((Below.refl _ _).alloc (Nat.le_refl _) _)).old hb4 : IsCode w4 _ _ _)
    replace hB := (by with_reducible first | exact old_trans hB hb4 | exact old_trans (old_alloc hB _) hb4 | exact old_trans (old_alloc (old_alloc hB _) _) hb4 | exact old_trans (old_alloc (old_alloc (old_alloc hB _) _) _) hb4 : Below w.heap.size w w4)
    have VC := (Cel1.made _ _ rfl (.slice ac ps.length cc) 25).later hb4
    (try simp only [World.size_alloc] at VC)
    have V0 := V.1
    have V1 := V.2.1
    have Vz := V.2.2
    have VC0 := VC.1
    have VC1 := VC.2.1
    have VCz := VC.2.2
    go_wp2_with fail
    refine (iIsO _ _ _ _ _ O _ _ _ _ Cc true (isRow_same ps)).mono ?_
    rintro e w5 ⟨rfl, hb5⟩
    replace U := (by with_reducible first | exact U.later hb5 | exact U.drew.later hb5 | exact (U.alloc _).later hb5 | exact ((U.alloc _).alloc _).later hb5 | exact (((U.alloc _).alloc _).alloc _).later hb5 : OU w5 _ _ _ _)
    clear V0 V1 Vz VC0 VC1 VCz
    replace V := (by with_reducible first | exact V.later hb5 | exact V.drew.later hb5 | exact (V.alloc _).later hb5 | exact ((V.alloc _).alloc _).later hb5 | exact (((V.alloc _).alloc _).alloc _).later hb5 : Cel1 w5 _ _)
    replace VC := (by with_reducible first | exact VC.later hb5 | exact VC.drew.later hb5 | exact (VC.alloc _).later hb5 | exact ((VC.alloc _).alloc _).later hb5 | exact (((VC.alloc _).alloc _).alloc _).later hb5 : Cel1 w5 _ _)
    replace O := (by with_reducible first | exact O.later hb5 | exact O.drew.later hb5 | exact (O.alloc _).later hb5 | exact ((O.alloc _).alloc _).later hb5 | exact (((O.alloc _).alloc _).alloc _).later hb5 : OB w5 _ _ _ _)
    replace Cc := (by with_reducible first | exact Cc.later hb5 | exact Cc.drew.later hb5 | exact (Cc.alloc _).later hb5 | exact ((Cc.alloc _).alloc _).later hb5 | exact (((Cc.alloc _).alloc _).alloc _).later hb5 : OB w5 _ _ _ _)
    replace wb1 := (by with_reducible first | exact wb1.old hb5 | exact (wb1.old ((Below.refl _ _).alloc (Nat.le_refl _) _)).old hb5 | exact ((wb1.old ((Below.refl _ _).alloc (Nat.le_refl _) _)).old ((Below.refl _ _).alloc (Nat.le_refl _) _)).old hb5 : IsCode w5 _ _ _)
    replace hB := (by with_reducible first | exact old_trans hB hb5 | exact old_trans (old_alloc hB _) hb5 | exact old_trans (old_alloc (old_alloc hB _) _) hb5 | exact old_trans (old_alloc (old_alloc (old_alloc hB _) _) _) hb5 : Below w.heap.size w w5)
    have V0 := V.1
    have V1 := V.2.1
    have Vz := V.2.2
    have VC0 := VC.1
    have VC1 := VC.2.1
    have VCz := VC.2.2
    go_wp2_with fail
    refine (iIsO _ _ _ _ _ Cc _ _ _ _ O true (isRow_same ps)).mono ?_
    rintro e w6 ⟨rfl, hb6⟩
    replace U := (by with_reducible first | exact U.later hb6 | exact U.drew.later hb6 | exact (U.alloc _).later hb6 | exact ((U.alloc _).alloc _).later hb6 | exact (((U.alloc _).alloc _).alloc _).later hb6 : OU w6 _ _ _ _)
    clear V0 V1 Vz VC0 VC1 VCz
    replace V := (by with_reducible first | exact V.later hb6 | exact V.drew.later hb6 | exact (V.alloc _).later hb6 | exact ((V.alloc _).alloc _).later hb6 | exact (((V.alloc _).alloc _).alloc _).later hb6 : Cel1 w6 _ _)
    replace VC := (by with_reducible first | exact VC.later hb6 | exact VC.drew.later hb6 | exact (VC.alloc _).later hb6 | exact ((VC.alloc _).alloc _).later hb6 | exact (((VC.alloc _).alloc _).alloc _).later hb6 : Cel1 w6 _ _)
    replace O := (by with_reducible first | exact O.later hb6 | exact O.drew.later hb6 | exact (O.alloc _).later hb6 | exact ((O.alloc _).alloc _).later hb6 | exact (((O.alloc _).alloc _).alloc _).later hb6 : OB w6 _ _ _ _)
    replace Cc := (by with_reducible first | exact Cc.later hb6 | exact Cc.drew.later hb6 | exact (Cc.alloc _).later hb6 | exact ((Cc.alloc _).alloc _).later hb6 | exact (((Cc.alloc _).alloc _).alloc _).later hb6 : OB w6 _ _ _ _)
    replace wb1 := (by with_reducible first | exact wb1.old hb6 | exact (wb1.old ((Below.refl _ _).alloc (Nat.le_refl _) _)).old hb6 | exact ((wb1.old ((Below.refl _ _).alloc (Nat.le_refl _) _)).old ((Below.refl _ _).alloc (Nat.le_refl _) _)).old hb6 : IsCode w6 _ _ _)
    replace hB := (by with_reducible first | exact old_trans hB hb6 | exact old_trans (old_alloc hB _) hb6 | exact old_trans (old_alloc (old_alloc hB _) _) hb6 | exact old_trans (old_alloc (old_alloc (old_alloc hB _) _) _) hb6 : Below w.heap.size w w6)
    have V0 := V.1
    have V1 := V.2.1
    have Vz := V.2.2
    have VC0 := VC.1
    have VC1 := VC.2.1
    have VCz := VC.2.2
    clear U Cc O
    go_wp2_with fail
    refine (drawBoxOf _ a1 len1 cap1 wb1).mono ?_
    rintro e w7 ⟨⟨we, ax, cx, xs, rfl, hwe, hxl, X⟩, hb7⟩
    clear V0 V1 Vz VC0 VC1 VCz
    replace V := (by with_reducible first | exact V.later hb7 | exact V.drew.later hb7 | exact (V.alloc _).later hb7 | exact ((V.alloc _).alloc _).later hb7 | exact (((V.alloc _).alloc _).alloc _).later hb7 : Cel1 w7 _ _)
    replace VC := (by with_reducible first | exact VC.later hb7 | exact VC.drew.later hb7 | exact (VC.alloc _).later hb7 | exact ((VC.alloc _).alloc _).later hb7 | exact (((VC.alloc _).alloc _).alloc _).later hb7 : Cel1 w7 _ _)
    replace wb1 := (by with_reducible first | exact wb1.old hb7 | exact (wb1.old ((Below.refl _ _).alloc (Nat.le_refl _) _)).old hb7 | exact ((wb1.old ((Below.refl _ _).alloc (Nat.le_refl _) _)).old ((Below.refl _ _).alloc (Nat.le_refl _) _)).old hb7 : IsCode w7 _ _ _)
    replace hB := (by with_reducible first | exact old_trans hB hb7 | exact old_trans (old_alloc hB _) hb7 | exact old_trans (old_alloc (old_alloc hB _) _) hb7 | exact old_trans (old_alloc (old_alloc (old_alloc hB _) _) _) hb7 : Below w.heap.size w w7)
    have V0 := V.1
    have V1 := V.2.1
    have Vz := V.2.2
    have VC0 := VC.1
    have VC1 := VC.2.1
    have VCz := VC.2.2
    obtain ⟨c, hc⟩ : ∃ c, ofC we xs = c := ⟨_, rfl⟩
    by_cases hz : c = 0
    case neg =>
      have gz : (c == 0) = false := beq_eq_false_iff_ne.2 hz
      go_wp2_with fail
      refine (iOfC we c ax cx _ xs _ X (hEE.out _ hB) hc hz).mono ?_
      rintro e w8 ⟨⟨ad, cd, rfl, Dd⟩, hb8⟩
      replace X := (by with_reducible first | exact X.later hb8 | exact X.drew.later hb8 | exact (X.alloc _).later hb8 | exact ((X.alloc _).alloc _).later hb8 | exact (((X.alloc _).alloc _).alloc _).later hb8 : OU w8 _ _ _ _)
      clear V0 V1 Vz VC0 VC1 VCz
      replace V := (by with_reducible first | exact V.later hb8 | exact V.drew.later hb8 | exact (V.alloc _).later hb8 | exact ((V.alloc _).alloc _).later hb8 | exact (((V.alloc _).alloc _).alloc _).later hb8 : Cel1 w8 _ _)
      replace VC := (by with_reducible first | exact VC.later hb8 | exact VC.drew.later hb8 | exact (VC.alloc _).later hb8 | exact ((VC.alloc _).alloc _).later hb8 | exact (((VC.alloc _).alloc _).alloc _).later hb8 : Cel1 w8 _ _)
      replace hB := (by with_reducible first | exact old_trans hB hb8 | exact old_trans (old_alloc hB _) hb8 | exact old_trans (old_alloc (old_alloc hB _) _) hb8 | exact old_trans (old_alloc (old_alloc (old_alloc hB _) _) _) hb8 : Below w.heap.size w w8)
      have V0 := V.1
      have V1 := V.2.1
      have Vz := V.2.2
      have VC0 := VC.1
      have VC1 := VC.2.1
      have VCz := VC.2.2
      go_wp2_with fail
      refine (sOfC we c ax cx _ xs _ (X.alloc _) hc hz).mono ?_
      rintro e w9 ⟨⟨an, cn, rfl, Nn⟩, hb9⟩
      replace X := (by with_reducible first | exact X.later hb9 | exact X.drew.later hb9 | exact (X.alloc _).later hb9 | exact ((X.alloc _).alloc _).later hb9 | exact (((X.alloc _).alloc _).alloc _).later hb9 : OU w9 _ _ _ _)
      clear V0 V1 Vz VC0 VC1 VCz
      replace V := (by with_reducible first | exact V.later hb9 | exact V.drew.later hb9 | exact (V.alloc _).later hb9 | exact ((V.alloc _).alloc _).later hb9 | exact (((V.alloc _).alloc _).alloc _).later hb9 : Cel1 w9 _ _)
      replace VC := (by with_reducible first | exact VC.later hb9 | exact VC.drew.later hb9 | exact (VC.alloc _).later hb9 | exact ((VC.alloc _).alloc _).later hb9 | exact (((VC.alloc _).alloc _).alloc _).later hb9 : Cel1 w9 _ _)
      replace Dd := (by with_reducible first | exact Dd.later hb9 | exact Dd.drew.later hb9 | exact (Dd.alloc _).later hb9 | exact ((Dd.alloc _).alloc _).later hb9 | exact (((Dd.alloc _).alloc _).alloc _).later hb9 : OB w9 _ _ _ _)
      replace hB := (by with_reducible first | exact old_trans hB hb9 | exact old_trans (old_alloc hB _) hb9 | exact old_trans (old_alloc (old_alloc hB _) _) hb9 | exact old_trans (old_alloc (old_alloc (old_alloc hB _) _) _) hb9 : Below w.heap.size w w9)
      have VD := (Cel1.made _ _ rfl (.slice ad 0 cd) 25).later hb9
      (try simp only [World.size_alloc] at VD)
      have V0 := V.1
      have V1 := V.2.1
      have Vz := V.2.2
      have VC0 := VC.1
      have VC1 := VC.2.1
      have VCz := VC.2.2
      have VD0 := VD.1
      have VD1 := VD.2.1
      have VDz := VD.2.2
      clear hz hc
      go_wp2
      go_ret
      exact ⟨rfl, (by repeat (first | exact hB | exact Below.refl _ _ | refine Below.drew ?_ | refine old_alloc ?_ _ | refine old_trans ?_ (by assumption)))⟩
    subst hz
    have hxl2 := hd hxl
    have hwo := ofC_wd hc
    obtain ⟨hql, hat⟩ := of_at hc
    replace hat := hd hat
    replace hql := hd hql
    go_wp2_with fail
    refine (iOf0 we ax cx _ xs _ X (hEE.out _ hB) hc).mono ?_
    rintro e w8 ⟨⟨ad, cd, rfl, Dd⟩, hb8⟩
    replace X := (by with_reducible first | exact X.later hb8 | exact X.drew.later hb8 | exact (X.alloc _).later hb8 | exact ((X.alloc _).alloc _).later hb8 | exact (((X.alloc _).alloc _).alloc _).later hb8 : OU w8 _ _ _ _)
    clear V0 V1 Vz VC0 VC1 VCz
    replace V := (by with_reducible first | exact V.later hb8 | exact V.drew.later hb8 | exact (V.alloc _).later hb8 | exact ((V.alloc _).alloc _).later hb8 | exact (((V.alloc _).alloc _).alloc _).later hb8 : Cel1 w8 _ _)
    replace VC := (by with_reducible first | exact VC.later hb8 | exact VC.drew.later hb8 | exact (VC.alloc _).later hb8 | exact ((VC.alloc _).alloc _).later hb8 | exact (((VC.alloc _).alloc _).alloc _).later hb8 : Cel1 w8 _ _)
    replace hB := (by with_reducible first | exact old_trans hB hb8 | exact old_trans (old_alloc hB _) hb8 | exact old_trans (old_alloc (old_alloc hB _) _) hb8 | exact old_trans (old_alloc (old_alloc (old_alloc hB _) _) _) hb8 : Below w.heap.size w w8)
    have V0 := V.1
    have V1 := V.2.1
    have Vz := V.2.2
    have VC0 := VC.1
    have VC1 := VC.2.1
    have VCz := VC.2.2
    go_wp2_with fail
    refine (sOf0 we ax cx _ xs _ (X.alloc _) hc).mono ?_
    rintro e w9 ⟨⟨an, cn, rfl, Nn⟩, hb9⟩
    replace X := (by with_reducible first | exact X.later hb9 | exact X.drew.later hb9 | exact (X.alloc _).later hb9 | exact ((X.alloc _).alloc _).later hb9 | exact (((X.alloc _).alloc _).alloc _).later hb9 : OU w9 _ _ _ _)
    clear V0 V1 Vz VC0 VC1 VCz
    replace V := (by with_reducible first | exact V.later hb9 | exact V.drew.later hb9 | exact (V.alloc _).later hb9 | exact ((V.alloc _).alloc _).later hb9 | exact (((V.alloc _).alloc _).alloc _).later hb9 : Cel1 w9 _ _)
    replace VC := (by with_reducible first | exact VC.later hb9 | exact VC.drew.later hb9 | exact (VC.alloc _).later hb9 | exact ((VC.alloc _).alloc _).later hb9 | exact (((VC.alloc _).alloc _).alloc _).later hb9 : Cel1 w9 _ _)
    replace Dd := (by with_reducible first | exact Dd.later hb9 | exact Dd.drew.later hb9 | exact (Dd.alloc _).later hb9 | exact ((Dd.alloc _).alloc _).later hb9 | exact (((Dd.alloc _).alloc _).alloc _).later hb9 : OB w9 _ _ _ _)
    replace hB := (by with_reducible first | exact old_trans hB hb9 | exact old_trans (old_alloc hB _) hb9 | exact old_trans (old_alloc (old_alloc hB _) _) hb9 | exact old_trans (old_alloc (old_alloc (old_alloc hB _) _) _) hb9 : Below w.heap.size w w9)
    have VD := (Cel1.made _ _ rfl (.slice ad (ofQ we xs).length cd) 25).later hb9
    (try simp only [World.size_alloc] at VD)
    have V0 := V.1
    have V1 := V.2.1
    have Vz := V.2.2
    have VC0 := VC.1
    have VC1 := VC.2.1
    have VCz := VC.2.2
    have VD0 := VD.1
    have VD1 := VD.2.1
    have VDz := VD.2.2
    generalize ofQ we xs = qs at *
    clear hc
    go_upto_region 18 with fail
    clear V0 V1 Vz VC0 VC1 VCz VD0 VD1 VDz
    replace X := X.alloc (.cells #[.slice an qs.length cn] 25)
    replace Dd := Dd.alloc (.cells #[.slice an qs.length cn] 25)
    replace VD := VD.alloc (.cells #[.slice an qs.length cn] 25)
    replace hB := old_alloc hB (.cells #[.slice an qs.length cn] 25)
    generalize w9.alloc (.cells #[.slice an qs.length cn] 25) = wl at *
    have XI := hd X.inU
    have DI := hd Dd.inRow
    clear X Dd Nn hEE hxl hwe
    try clear V VC
    have hnI : (xs.length : Int) ≤ 100 := by have := hxl2.out; omega
    go_wp2_with fail
    go_loopw [16] (fun x wr => ∃ j : Nat, j ≤ xs.length ∧ x = .int .i64 j ∧ Below wl.heap.size wl wr) (fun x _ => xs.length - (intOf x).toNat)
    case atStart => exact ⟨0, Nat.zero_le _, rfl, Below.refl _ _⟩
    case round =>
      obtain ⟨j, hj, rfl, hb⟩ := hrel
      by_cases hlt : j < xs.length
      · obtain ⟨bx, offx, x, hav, hbx, hxv, hfx, cx0⟩ := (XI.out.old hb).at hlt
        subst hav
        have hq : j / 2 < qs.length := by have := hql.out; omega
        obtain ⟨bq, offq, y0, y1, haq, hbq, hyv, hfy, d0, d1⟩ := (DI.out.old hb).at hq
        subst haq
        obtain ⟨hk, hev, hod⟩ := hat.out j hlt
        rw [hxv] at hk hev hod
        rw [hyv] at hev hod
        have OR := iOrdW we hwo x hfx wr
        rw [hk] at OR
        replace OR := hd OR
        generalize ordW we x = o at *
        dsimp only at hev hod
        have V0 := (VD.later hb).1
        have V1 := (VD.later hb).2.2
        have hjI : (j : Int) < (xs.length : Int) := by omega
        have hj0 : (0 : Int) ≤ (j : Int) := by omega
        have tq : (j : Int).tdiv 2 = ((j / 2 : Nat) : Int) := by rw [Int.tdiv_eq_ediv_of_nonneg (by omega)]; omega
        have q1 : ((j / 2 : Nat) : Int) < (qs.length : Int) := by omega
        have q0 : (0 : Int) ≤ ((j / 2 : Nat) : Int) := by omega
        have q2 : ((j / 2 : Nat) : Int) ≤ 100 := by omega
        have hp2 : j % 2 = 0 ∨ j % 2 = 1 := by omega
        have hpar : (j % 2 = 0 ∧ y0 = o) ∨ (j % 2 = 1 ∧ y1 = o) := hp2.imp (fun q => ⟨q, hev q⟩) (fun q => ⟨q, hod q⟩)
        clear hp2
        clear hk hev hod hxv hyv hfx hfy hat hql XI DI
        generalize j / 2 = m at *
        rcases hpar with ⟨q, rfl⟩ | ⟨q, rfl⟩
        · have tm : (j : Int).tmod 2 = 0 := by rw [Int.tmod_eq_emod_of_nonneg (by omega)]; omega
          clear q
          go_wp2_with fail
          refine OR.out.mono ?_
          rintro e w2 ⟨rfl, hb2⟩
          have V2 := (hb2.cell (p := ⟨w8.heap.size, 0, none⟩) V1).trans V0
          have d2 := (hb2.cell (p := ⟨bq, offq + m * 2, none⟩) hbq).trans d0
          have d3 := (hb2.cell (p := ⟨bq, offq + m * 2 + 1, none⟩) hbq).trans d1
          have hbb := old_trans hb hb2
          clear V0 V1 d0 d1 cx0 OR hb hb2
          go_wp2
          go_roundw
          case rel => exact ⟨j + 1, by omega, by go_num, old_alloc hbb _⟩
          case measure => simp [intOf]; omega
        · have tm : (j : Int).tmod 2 = 1 := by rw [Int.tmod_eq_emod_of_nonneg (by omega)]; omega
          clear q
          go_wp2_with fail
          refine OR.out.mono ?_
          rintro e w2 ⟨rfl, hb2⟩
          have V2 := (hb2.cell (p := ⟨w8.heap.size, 0, none⟩) V1).trans V0
          have d2 := (hb2.cell (p := ⟨bq, offq + m * 2, none⟩) hbq).trans d0
          have d3 := (hb2.cell (p := ⟨bq, offq + m * 2 + 1, none⟩) hbq).trans d1
          have hbb := old_trans hb hb2
          clear V0 V1 d0 d1 cx0 OR hb hb2
          go_wp2
          go_roundw
          case rel => exact ⟨j + 1, by omega, by go_num, old_alloc hbb _⟩
          case measure => simp [intOf]; omega
      · obtain rfl : j = xs.length := by omega
        have hni : ¬ ((xs.length : Int) < (xs.length : Int)) := by omega
        go_wp2
        go_ret
        exact ⟨rfl, old_trans hB hb⟩

set_option maxRecDepth 100000 in
theorem FnBoxBits_lifted (os : Os) (started : os.Started) (H : Type) (enc : TypeId × Value → H) :
    ReturnsInHanded {} Tryd.checked os 3 .any (fun w args => (Rows.fnBoxBitsSpec.pre enc Tryd.prog Tryd.f3 [] false w args ∧ laidMetH Tryd.prog LHBL w) ∧ sizedMet enc Tryd.prog Tryd.f3 (OpenSpec.ofChange Rows.fnBoxBitsSpec) false w args)
      (Rows.fnBoxBitsSpec.post enc Tryd.prog Tryd.f3 false true false false) := by
  refine returnsInHanded_of_change_and (C := Tryd.checked) (X := fun w _ => laidMetH Tryd.prog LHBL w) (fun _ _ _ hh h => h.of_heap hh) LHB_own started (by kernel_rfl) Tryd.func3
    (ChangeSpec.witness_shaped (enc := enc) (C := Tryd.checked) (os := os) (X := fun w _ => laidMetH Tryd.prog LHBL w) false (World.doorLaid Tryd.prog LHB_fuel os) #[.slice none 0 0, .slice none 0 0] 8 rfl (LHB_shaped os _) (by kernel_rfl) (by kernel_rfl) (by kernel_rfl) (LHB_met os _)) ?_
  intro W base args ds gs before hval0 hW _ _ hL _
  have hval : ∀ (j : Nat) t v, Tryd.f3.params[j]? = some t → args[j]? = some v → Value.okWide Tryd.prog W .any base t v := hval0
  have hW' := hW
  obtain ⟨p, q, hA0, hV, rfl, hfz, hnd⟩ := hW
  have hA : DataW.TrodAll enc Tryd.prog W 0 (fun _ => true) true Tryd.f3.params.toList args.toList ds p := hA0
  rw [Tryd.params3] at hA hval
  obtain ⟨v0, vs0, d0, ds0, p0, q0, hargs, rfl, rfl, h0, r0⟩ := trodAll_cons hA
  obtain ⟨v1, vs1, d1, ds1, p1, q1, rfl, rfl, rfl, h1, r1⟩ := trodAll_cons r0
  obtain ⟨rfl, rfl, rfl⟩ := trodAll_nil r1
  obtain rfl : args = #[v0, v1] := by cases args; simp_all
  obtain ⟨rfl, rfl⟩ := trodVars_none hV
  have k0 := h0
  have lt0 : ∀ x ∈ p0, x.block < W.heap.size := by obtain ⟨m, hm⟩ := k0; exact DataW.trod_lt m _ _ _ hm
  obtain ⟨a0, len0, cap0, rfl, wb0⟩ := open_bytes (hval 0 22 v0 rfl rfl) h0
  have k1 := h1
  have lt1 : ∀ x ∈ p1, x.block < W.heap.size := by obtain ⟨m, hm⟩ := k1; exact DataW.trod_lt m _ _ _ hm
  obtain ⟨a1, len1, cap1, rfl, wb1⟩ := open_bytes (hval 1 22 v1 rfl rfl) h1
  clear hA0 hval0
  refine (FnBoxBits_walk a0 len0 cap0 a1 len1 cap1 W wb0 wb1 (et_of hL)).mono fun e W' ⟨he, bel⟩ => ?_
  subst he
  exact ⟨_, rfl, _, _, _, [], _, [], hW', trodAll_mk1 (shut_bool Tryd.underlying4 _), (trodAll_cons_mk (Below.trod jf1 (by kernel_rfl) (of_decide_eq_true (by kernel_rfl)) k0 bel lt0) (trodAll_cons_mk (Below.trod jf1 (by kernel_rfl) (of_decide_eq_true (by kernel_rfl)) k1 bel lt1) trodAll_mk0)), rfl, bel.frame _, fun h => by cases h⟩

theorem FnBoxBits_k0 : (Rows.fnBoxBitsRow.wf (OpenSpec.ofChange Rows.fnBoxBitsSpec)) = true := by kernel_rfl
theorem FnBoxBits_k3 : (Tryd.f3.params.all (Tryd.prog.readableRec ·)) = true := by kernel_rfl
theorem FnBoxBits_k4 : (namedTie Tryd.prog Rows.fnBoxBitsRow.named Rows.fnBoxBitsSpec.vars) = true := by kernel_rfl
theorem FnBoxBits_k5 : ((Rows.fnBoxBitsRow.stops == [])) = true := by kernel_rfl
theorem FnBoxBits_k7 : ((Rows.fnBoxBitsRow.knobs == [])) = true := by kernel_rfl
theorem FnBoxBits_k9 : ((Rows.fnBoxBitsRow.inPlace == Tryd.prog.inPlace 3)) = true := by kernel_rfl
theorem FnBoxBits_k10 : ((Rows.fnBoxBitsRow.unfollowed == Tryd.prog.unfollowed 3)) = true := by kernel_rfl
theorem FnBoxBits_k11 : ((Rows.fnBoxBitsRow.recurses == Tryd.prog.recurses 3)) = true := by kernel_rfl
theorem FnBoxBits_k12 : ((Rows.fnBoxBitsRow.named == Tryd.prog.varsNamed 3)) = true := by kernel_rfl
theorem FnBoxBits_k13 : ((Rows.fnBoxBitsRow.maps == (Tryd.f3.params.toList ++ Rows.fnBoxBitsSpec.plain.varTypes Tryd.prog).any (Tryd.prog.mapsRec ·))) = true := by kernel_rfl
theorem FnBoxBits_k14 : ((Rows.fnBoxBitsRow.ifaces == (Tryd.f3.params.toList ++ Rows.fnBoxBitsSpec.plain.varTypes Tryd.prog).any (Tryd.prog.ifacesRec ·))) = true := by kernel_rfl
theorem FnBoxBits_k15 : ((Rows.fnBoxBitsRow.mapsOut == Tryd.prog.mapsAmong Tryd.f3.resultTypes.toList)) = true := by kernel_rfl
theorem FnBoxBits_k16 : ((Rows.fnBoxBitsRow.loops == (Tryd.f3.params.toList ++ Rows.fnBoxBitsSpec.plain.varTypes Tryd.prog).any (Tryd.prog.loopsFrom ·))) = true := by kernel_rfl
theorem FnBoxBits_k17 : ((Rows.fnBoxBitsRow.wideKeys == (Tryd.f3.params.toList ++ Rows.fnBoxBitsSpec.plain.varTypes Tryd.prog ++ Tryd.f3.resultTypes.toList).any (Tryd.prog.wideKeysFrom ·))) = true := by kernel_rfl
theorem FnBoxBits_k18 : (Rows.fnBoxBitsSpec.vars.all (Tryd.prog.varReadable ·)) = true := by kernel_rfl
theorem FnBoxBits_k19 : (Tryd.f3.resultTypes.all (fun t => Tryd.prog.readableRec t && decide (t < Tryd.prog.types.size))) = true := by kernel_rfl
theorem FnBoxBits_k20 : ((Rows.fnBoxBitsRow.ifacesOut == Tryd.f3.resultTypes.toList.any (Tryd.prog.ifacesRec ·))) = true := by kernel_rfl
theorem FnBoxBits_k21 : ((Rows.fnBoxBitsRow.loopsOut == Tryd.f3.resultTypes.toList.any (Tryd.prog.loopsFrom ·))) = true := by kernel_rfl
theorem FnBoxBits_k23 : (Rows.fnBoxBitsRow.shortTexts.isNone) = true := by kernel_rfl
theorem FnBoxBits_k28 : ((Rows.fnBoxBitsRow.kinds == (if Rows.fnBoxBitsRow.domain.isEmpty then [] else Tryd.f3.params.toList.map fun t => match Tryd.prog.underlying t with | some (.int k) => some k | _ => none))) = true := by kernel_rfl
theorem FnBoxBits_k29 : ((Rows.fnBoxBitsRow.pinned == Rows.fnBoxBitsRow.pinnedBy)) = true := by kernel_rfl
theorem FnBoxBits_k30 : ((Rows.fnBoxBitsRow.veiled == (Tryd.f3.params.toList ++ Rows.fnBoxBitsSpec.plain.varTypes Tryd.prog ++ Tryd.f3.resultTypes.toList).any (Tryd.prog.veiledRec ·))) = true := by kernel_rfl
theorem FnBoxBits_k31 : (Rows.fnBoxBitsRow.veiledFits Tryd.prog Tryd.f3.params.toList (Tryd.f3.params.toList ++ Rows.fnBoxBitsSpec.plain.varTypes Tryd.prog ++ Tryd.f3.resultTypes.toList)) = true := by kernel_rfl
set_option maxRecDepth 100000 in
theorem FnBoxBits_closed : joinedFacts Tryd.prog 3 Tryd.f3 Rows.fnBoxBitsSpec Rows.fnBoxBitsRow = true := (and2 (and2 (and2 (and2 (and2 (and2 (and2 (and2 (and2 (and2 (and2 (and2 (and2 (and2 (and2 (and2 (and2 (and2 (and2 (and2 (and2 (and2 (and2 (and2 (and2 (and2 (and2 (and2 (and2 (and2 (and2 FnBoxBits_k0 jf1) jf2) FnBoxBits_k3) FnBoxBits_k4) FnBoxBits_k5) jf6) FnBoxBits_k7) jf8) FnBoxBits_k9) FnBoxBits_k10) FnBoxBits_k11) FnBoxBits_k12) FnBoxBits_k13) FnBoxBits_k14) FnBoxBits_k15) FnBoxBits_k16) FnBoxBits_k17) FnBoxBits_k18) FnBoxBits_k19) FnBoxBits_k20) FnBoxBits_k21) jf22) FnBoxBits_k23) jf24) jf25) jf26) jf27) FnBoxBits_k28) FnBoxBits_k29) FnBoxBits_k30) FnBoxBits_k31)
theorem FnBoxBits_row : Rows.FnBoxBitsSaid :=
  OpenClaim.holds_of_wide 3 Tryd.f3 rfl rfl rfl rfl rfl rfl rfl ⟨rfl, rfl, rfl, rfl, rfl⟩ rfl rfl rfl rfl rfl (by kernel_rfl) Tryd.func3 FnBoxBits_closed
    (of_decide_eq_true (by kernel_rfl)) (by unfold Func.isWrapper; first | (rw [if_pos (by decide +kernel)]; kernel_rfl) | (rw [if_neg (by decide +kernel)]; exact ⟨rfl, rfl⟩))
    (fun os started H enc _ => FnBoxBits_lifted os started H enc)

theorem FnBoxBits_proved : Rows.FnBoxBitsCardSaid :=
  Claim7.holds_tied_plain_at .later [] [.handle] true (true, "88f273e9d11f2c3b5ba673e22ccdcbe55b3b916894fe6f55d947997340c4dd23") true
    FnBoxBits_row (fun _ h => by cases h) (by kernel_rfl) (fun _ h => by cases h) fnBoxBits_row_tie rfl ⟨rfl, rfl⟩ (by kernel_rfl) rfl
    (fun f fn hf hfn => by
      obtain rfl : f = 3 := Option.some.inj ((show Tryd.prog.funcNamed "loop.example/pinfold/laws.FnBoxBits" = some 3 by kernel_rfl).symm.trans hf) |>.symm
      obtain rfl : fn = Tryd.f3 := (Option.some.inj (Tryd.func3.symm.trans hfn)).symm
      exact ⟨by kernel_rfl, fun j t ht => by
        rw [Tryd.params3] at ht
        have hm : t ∈ [22, 22] := by simpa using Array.mem_of_getElem? ht
        have hall : ([22, 22].all fun u => !Tryd.prog.wantsStandIn u) = true := by kernel_rfl
        exact (show Tryd.prog.wantsStandIn t = false by simpa using List.all_eq_true.1 hall t hm)⟩)
    (by kernel_rfl)
end Go.Proofs.YtmllcpcbaojipaaDoor
