/- For every two codes of bytes, of the width and the floats drawn from them: the value of a finite float, rounded down, up and to the nearest, is that float, there is none of what is no finite float, and greater floats have greater values. The law answers true; nothing that was there is written. Condition: the library's tables and its handle of errors hold what their texts lay (the card ties them). -/
import Derived.Test.YtcfbdibjjhifpaaGreatDoorRows
import Derived.Test.YtcfbdibjjhifpaaGreatDoorTie
import Derived.Test.YtcfbdibjjhifpaaGreatDoorCards
import Derived.WalkKit
import Derived.ProofKit
import Derived.OpenShut
import Derived.Below
import Derived.Carry
import Derived.Test.YtcfbdibjjhifpaaGreatDoorPK01
import Derived.Test.YtcfbdibjjhifpaaGreatDoorPK04
import Derived.Test.YtcfbdibjjhifpaaGreatDoorPK36
import Derived.Test.YtcfbdibjjhifpaaGreatDoorPK38
namespace Go.Proofs.YtcfbdibjjhifpaaGreatDoor
open Go.ChangeShapes Go.WideShapes Go.ChangeAt Go.RowKit
set_option linter.unusedVariables false
set_option maxRecDepth 100000

set_option maxRecDepth 100000 in
set_option maxHeartbeats 16000000 in
theorem FnFloatFrac_walk (a0 : Option Addr) (len0 cap0 : Nat) (a1 : Option Addr) (len1 cap1 : Nat) (w : World) (wb0 : IsCode w a0 len0 cap0) (wb1 : IsCode w a1 len1 cap1) (hT : Tab w ∧ ET w) :
    Calls Tryz.prog 5 #[.slice a0 len0 cap0, .slice a1 len1 cap1] w fun e w' => e = .returned (.bool true) ∧ Below w.heap.size w w' := by
  have TT := hd (fun (w' : World) (h : Below w.heap.size w w') => (⟨hT.1.old h, hT.2.old h⟩ : Tab w' ∧ ET w'))
  clear hT
  by_cases c0 : (1048576 : Int) < (len0 : Int)
  · have t0 : decide ((1048576 : Int) < (len0 : Int)) = true := by simp; omega
    go_enter Tryz.func5, Tryz.ntmps5
    go_wp2
    go_ret
    exact ⟨rfl, (by repeat (first | exact Below.refl _ _ | refine Below.drew ?_ | refine old_alloc ?_ _ | refine old_trans ?_ (by assumption)))⟩
  by_cases c1 : (1048576 : Int) < (len1 : Int)
  · have t1 : decide ((1048576 : Int) < (len1 : Int)) = true := by simp; omega
    go_enter Tryz.func5, Tryz.ntmps5
    go_wp2
    go_ret
    exact ⟨rfl, (by repeat (first | exact Below.refl _ _ | refine Below.drew ?_ | refine old_alloc ?_ _ | refine old_trans ?_ (by assumption)))⟩
  have hB : Below w.heap.size w w := Below.refl _ _
  go_enter Tryz.func5, Tryz.ntmps5
  go_wp2_with fail
  refine (drawFloatFrac _ a0 len0 cap0 wb0).mono ?_
  rintro e w1 ⟨⟨wd, n, hwd, rfl⟩, hb1⟩
  replace hB := old_trans hB hb1
  replace wb1 := wb1.old hb1
  clear hb1 wb0
  by_cases h32 : wd = 32 ∧ -2139095040 < n ∧ n < 2139095040
  · obtain ⟨rfl, h1, h2⟩ := h32
    skip
    obtain ⟨s, tl, ul, fv, S, II⟩ := made32 h1 h2
    have rd := round32 fv h1 h2
    replace S := hd S
    replace II := hd II
    have DN := hd (fun a b la lb ca cb w x y z => dnOf rd.1 rd.2.1 a b la lb ca cb w x y z)
    have UP := hd (fun a b la lb ca cb w x y z => upOf rd.1 rd.2.2.1 a b la lb ca cb w x y z)
    have NR := hd (fun a b la lb ca cb w x y z => nrOf rd.1 rd.2.2.2 a b la lb ca cb w x y z)
    replace fv := hd fv
    clear rd hwd
    go_wp2_with fail
    refine (II.out _ (TT.out _ hB)).mono ?_
    rintro e w2 ⟨⟨avF, cvF, avF', cvF', rfl, X, Y⟩, hb2⟩
    replace wb1 := wb1.old hb2
    replace hB := old_trans hB hb2
    clear hb2
    have KF_ := Cel3.new w2 (.bool s) (.slice avF tl.length cvF) (.slice avF' ul.length cvF') 28
    have halKF : Below w2.heap.size w2 (w2.alloc (.cells #[.bool s, .slice avF tl.length cvF, .slice avF' ul.length cvF'] 28)) := old_alloc (Below.refl _ _) _
    replace X := X.later halKF
    replace Y := Y.later halKF
    replace wb1 := wb1.old halKF
    replace hB := old_trans hB halKF
    clear halKF
    have KF := KF_
    clear KF_
    obtain ⟨KFa, ⟨KFb, KFc, KFd⟩, -⟩ := id KF
    go_wp2_with fail
    refine (S.out _).mono ?_
    rintro e w3 ⟨⟨avE, cvE, avE', cvE', rfl, -, -⟩, hb3⟩
    clear KFa KFb KFc KFd
    replace X := X.later hb3
    replace Y := Y.later hb3
    replace KF := KF.old hb3
    replace wb1 := wb1.old hb3
    replace hB := old_trans hB hb3
    clear hb3
    obtain ⟨KFa, ⟨KFb, KFc, KFd⟩, -⟩ := id KF
    clear KFa KFb KFc KFd
    have KE_ := Cel3.new w3 (.bool s) (.slice avE tl.length cvE) (.slice avE' ul.length cvE') 28
    have halKE : Below w3.heap.size w3 (w3.alloc (.cells #[.bool s, .slice avE tl.length cvE, .slice avE' ul.length cvE'] 28)) := old_alloc (Below.refl _ _) _
    replace X := X.later halKE
    replace Y := Y.later halKE
    replace KF := KF.old halKE
    replace wb1 := wb1.old halKE
    replace hB := old_trans hB halKE
    clear halKE
    have KE := KE_
    clear KE_
    obtain ⟨KFa, ⟨KFb, KFc, KFd⟩, -⟩ := id KF
    obtain ⟨KEa, ⟨KEb, KEc, KEd⟩, -⟩ := id KE
    go_wp2_with fail
    refine (DN.out _ _ _ _ _ _ _ X.inI Y.inI (TT.out _ hB)).mono ?_
    rintro e w4 ⟨rfl, hb4⟩
    clear KFa KFb KFc KFd KEa KEb KEc KEd
    replace X := X.later hb4
    replace Y := Y.later hb4
    replace KF := KF.old hb4
    replace KE := KE.old hb4
    replace wb1 := wb1.old hb4
    replace hB := old_trans hB hb4
    clear hb4
    obtain ⟨KFa, ⟨KFb, KFc, KFd⟩, -⟩ := id KF
    obtain ⟨KEa, ⟨KEb, KEc, KEd⟩, -⟩ := id KE
    go_wp2_with fail
    refine (UP.out _ _ _ _ _ _ _ X.inI Y.inI (TT.out _ hB)).mono ?_
    rintro e w5 ⟨rfl, hb5⟩
    clear KFa KFb KFc KFd KEa KEb KEc KEd
    replace X := X.later hb5
    replace Y := Y.later hb5
    replace KF := KF.old hb5
    replace KE := KE.old hb5
    replace wb1 := wb1.old hb5
    replace hB := old_trans hB hb5
    clear hb5
    obtain ⟨KFa, ⟨KFb, KFc, KFd⟩, -⟩ := id KF
    obtain ⟨KEa, ⟨KEb, KEc, KEd⟩, -⟩ := id KE
    go_wp2_with fail
    refine (NR.out _ _ _ _ _ _ _ X.inI Y.inI (TT.out _ hB)).mono ?_
    rintro e w6 ⟨rfl, hb6⟩
    clear KFa KFb KFc KFd KEa KEb KEc KEd
    replace X := X.later hb6
    replace Y := Y.later hb6
    replace KF := KF.old hb6
    replace KE := KE.old hb6
    replace wb1 := wb1.old hb6
    replace hB := old_trans hB hb6
    clear hb6
    obtain ⟨KFa, ⟨KFb, KFc, KFd⟩, -⟩ := id KF
    obtain ⟨KEa, ⟨KEb, KEc, KEd⟩, -⟩ := id KE
    clear DN UP NR S II
    go_wp2_with fail
    refine (drawFloatFrac _ a1 len1 cap1 wb1).mono ?_
    rintro e w7 ⟨⟨wd', k, hwd', rfl⟩, hb7⟩
    clear KFa KFb KFc KFd KEa KEb KEc KEd
    replace X := X.later hb7
    replace Y := Y.later hb7
    replace KF := KF.old hb7
    replace KE := KE.old hb7
    replace wb1 := wb1.old hb7
    replace hB := old_trans hB hb7
    clear hb7
    obtain ⟨KFa, ⟨KFb, KFc, KFd⟩, -⟩ := id KF
    obtain ⟨KEa, ⟨KEb, KEc, KEd⟩, -⟩ := id KE
    clear wb1 hwd'
    by_cases hk : -2139095040 < k ∧ k < 2139095040
    · skip
      obtain ⟨s2, tl2, ul2, gv, -, I2⟩ := made32 hk.1 hk.2
      replace I2 := hd I2
      have od := order32 fv.out gv h1 h2 hk.1 hk.2
      replace gv := hd gv
      go_wp2_with fail
      refine (I2.out _ (TT.out _ hB)).mono ?_
      rintro e w8 ⟨⟨avG, cvG, avG', cvG', rfl, U, V⟩, hb8⟩
      clear KFa KFb KFc KFd KEa KEb KEc KEd
      replace X := X.later hb8
      replace Y := Y.later hb8
      replace KF := KF.old hb8
      replace KE := KE.old hb8
      replace hB := old_trans hB hb8
      clear hb8
      obtain ⟨KFa, ⟨KFb, KFc, KFd⟩, -⟩ := id KF
      obtain ⟨KEa, ⟨KEb, KEc, KEd⟩, -⟩ := id KE
      clear KFa KFb KFc KFd KEa KEb KEc KEd
      have KG_ := Cel3.new w8 (.bool s2) (.slice avG tl2.length cvG) (.slice avG' ul2.length cvG') 28
      have halKG : Below w8.heap.size w8 (w8.alloc (.cells #[.bool s2, .slice avG tl2.length cvG, .slice avG' ul2.length cvG'] 28)) := old_alloc (Below.refl _ _) _
      replace X := X.later halKG
      replace Y := Y.later halKG
      replace U := U.later halKG
      replace V := V.later halKG
      replace KF := KF.old halKG
      replace KE := KE.old halKG
      replace hB := old_trans hB halKG
      clear halKG
      have KG := KG_
      clear KG_
      obtain ⟨KFa, ⟨KFb, KFc, KFd⟩, -⟩ := id KF
      obtain ⟨KEa, ⟨KEb, KEc, KEd⟩, -⟩ := id KE
      obtain ⟨KGa, ⟨KGb, KGc, KGd⟩, -⟩ := id KG
      rcases Int.lt_trichotomy n k with hlt | hlt | hlt
      · skip
        have hm := od.1 hlt
        have CM := hd (fun a b la lb ca cb c d lc ld cc cd w x1 x2 x3 x4 => osCmp fv.out.1 gv.out.1 hm a b la lb ca cb c d lc ld cc cd w x1 x2 x3 x4)
        have q1 : decide (n < k) = true := decide_eq_true hlt
        have q2 : (n == k) = false := beq_eq_false_iff_ne.2 (by omega)
        clear od fv gv I2 hm h1 h2 hk
        go_wp2_with fail
        refine (CM.out _ _ _ _ _ _ _ _ _ _ _ _ _ X.inI Y.inI U.inI V.inI).mono ?_
        rintro e w9 ⟨rfl, hb9⟩
        clear KFa KFb KFc KFd KEa KEb KEc KEd KGa KGb KGc KGd
        replace X := X.later hb9
        replace Y := Y.later hb9
        replace U := U.later hb9
        replace V := V.later hb9
        replace KF := KF.old hb9
        replace KE := KE.old hb9
        replace KG := KG.old hb9
        replace hB := old_trans hB hb9
        clear hb9
        obtain ⟨KFa, ⟨KFb, KFc, KFd⟩, -⟩ := id KF
        obtain ⟨KEa, ⟨KEb, KEc, KEd⟩, -⟩ := id KE
        obtain ⟨KGa, ⟨KGb, KGc, KGd⟩, -⟩ := id KG
        go_wp2
        go_ret
        exact ⟨rfl, hB⟩
      · skip
        have hm := od.2.1 hlt
        subst hlt
        have CM := hd (fun a b la lb ca cb c d lc ld cc cd w x1 x2 x3 x4 => osCmp fv.out.1 gv.out.1 hm a b la lb ca cb c d lc ld cc cd w x1 x2 x3 x4)
        clear od fv gv I2 hm h1 h2 hk
        go_wp2_with fail
        refine (CM.out _ _ _ _ _ _ _ _ _ _ _ _ _ X.inI Y.inI U.inI V.inI).mono ?_
        rintro e w9 ⟨rfl, hb9⟩
        clear KFa KFb KFc KFd KEa KEb KEc KEd KGa KGb KGc KGd
        replace X := X.later hb9
        replace Y := Y.later hb9
        replace U := U.later hb9
        replace V := V.later hb9
        replace KF := KF.old hb9
        replace KE := KE.old hb9
        replace KG := KG.old hb9
        replace hB := old_trans hB hb9
        clear hb9
        obtain ⟨KFa, ⟨KFb, KFc, KFd⟩, -⟩ := id KF
        obtain ⟨KEa, ⟨KEb, KEc, KEd⟩, -⟩ := id KE
        obtain ⟨KGa, ⟨KGb, KGc, KGd⟩, -⟩ := id KG
        go_wp2
        go_ret
        exact ⟨rfl, hB⟩
      · skip
        have hm := od.2.2 hlt
        have CM := hd (fun a b la lb ca cb c d lc ld cc cd w x1 x2 x3 x4 => osCmp fv.out.1 gv.out.1 hm a b la lb ca cb c d lc ld cc cd w x1 x2 x3 x4)
        have q1 : decide (n < k) = false := decide_eq_false (by omega)
        have q2 : (n == k) = false := beq_eq_false_iff_ne.2 (by omega)
        clear od fv gv I2 hm h1 h2 hk
        go_wp2_with fail
        refine (CM.out _ _ _ _ _ _ _ _ _ _ _ _ _ X.inI Y.inI U.inI V.inI).mono ?_
        rintro e w9 ⟨rfl, hb9⟩
        clear KFa KFb KFc KFd KEa KEb KEc KEd KGa KGb KGc KGd
        replace X := X.later hb9
        replace Y := Y.later hb9
        replace U := U.later hb9
        replace V := V.later hb9
        replace KF := KF.old hb9
        replace KE := KE.old hb9
        replace KG := KG.old hb9
        replace hB := old_trans hB hb9
        clear hb9
        obtain ⟨KFa, ⟨KFb, KFc, KFd⟩, -⟩ := id KF
        obtain ⟨KEa, ⟨KEb, KEc, KEd⟩, -⟩ := id KE
        obtain ⟨KGa, ⟨KGb, KGc, KGd⟩, -⟩ := id KG
        go_wp2
        go_ret
        exact ⟨rfl, hB⟩
    · skip
      have N2 := hd (noFF 32 k (fun q => hk q.2) (fun q => absurd q.1 (by decide))).2
      clear fv
      go_wp2_with fail
      refine (N2.out _ (TT.out _ hB)).mono ?_
      rintro e w8 ⟨⟨avG, cvG, avG', cvG', rfl⟩, hb8⟩
      clear KFa KFb KFc KFd KEa KEb KEc KEd
      replace X := X.later hb8
      replace Y := Y.later hb8
      replace KF := KF.old hb8
      replace KE := KE.old hb8
      replace hB := old_trans hB hb8
      clear hb8
      obtain ⟨KFa, ⟨KFb, KFc, KFd⟩, -⟩ := id KF
      obtain ⟨KEa, ⟨KEb, KEc, KEd⟩, -⟩ := id KE
      clear KFa KFb KFc KFd KEa KEb KEc KEd
      have KG_ := Cel3.new w8 (.bool false) (.slice avG 0 cvG) (.slice avG' 0 cvG') 28
      have halKG : Below w8.heap.size w8 (w8.alloc (.cells #[.bool false, .slice avG 0 cvG, .slice avG' 0 cvG'] 28)) := old_alloc (Below.refl _ _) _
      replace X := X.later halKG
      replace Y := Y.later halKG
      replace KF := KF.old halKG
      replace KE := KE.old halKG
      replace hB := old_trans hB halKG
      clear halKG
      have KG := KG_
      clear KG_
      obtain ⟨KFa, ⟨KFb, KFc, KFd⟩, -⟩ := id KF
      obtain ⟨KEa, ⟨KEb, KEc, KEd⟩, -⟩ := id KE
      obtain ⟨KGa, ⟨KGb, KGc, KGd⟩, -⟩ := id KG
      clear KFa KFb KFc KFd KEa KEb KEc KEd KGa KGb KGc KGd
      have BO := hd (fun w' (hS : Below w.heap.size w w') => (sOk 32 k w').mono (fun e w'' (q : _ ∧ _) => (⟨q.1, old_trans hS q.2⟩ : _ ∧ Below w.heap.size w w'')))
      have TO := hd (fun w' (hS : Below w.heap.size w w') => (iBitTop_32 w').mono (fun e w'' (q : _ ∧ _) => (⟨q.1, old_trans hS q.2⟩ : _ ∧ Below w.heap.size w w'')))
      clear N2 KF KE KG X Y
      rw [okB_32] at BO
      by_cases hb : -2139095040 ≤ k ∧ k ≤ 2139095040
      · rw [decide_eq_true hb] at BO
        by_cases e1 : k = 2139095040
        · subst e1
          clear hk hb h1 h2
          go_wp2_with fail
          refine (BO.out _ hB).mono ?_
          rintro e x1 ⟨rfl, hS1⟩
          go_wp2_with fail
          refine (TO.out _ hS1).mono ?_
          rintro e x2 ⟨rfl, hS2⟩
          go_wp2
          go_ret
          exact ⟨rfl, hS2⟩
        · obtain rfl : k = -2139095040 := by omega
          clear hk hb h1 h2 e1
          go_wp2_with fail
          refine (BO.out _ hB).mono ?_
          rintro e x1 ⟨rfl, hS1⟩
          go_wp2_with fail
          refine (TO.out _ hS1).mono ?_
          rintro e x2 ⟨rfl, hS2⟩
          go_wp2_with fail
          refine (TO.out _ hS2).mono ?_
          rintro e x3 ⟨rfl, hS3⟩
          go_wp2
          go_ret
          exact ⟨rfl, hS3⟩
      · rw [decide_eq_false hb] at BO
        clear hk hb h1 h2 TO
        go_wp2_with fail
        refine (BO.out _ hB).mono ?_
        rintro e x1 ⟨rfl, hS1⟩
        go_wp2
        go_ret
        exact ⟨rfl, hS1⟩
  by_cases h64 : wd = 64 ∧ -9218868437227405312 < n ∧ n < 9218868437227405312
  · obtain ⟨rfl, h1, h2⟩ := h64
    clear h32
    obtain ⟨s, tl, ul, fv, S, II⟩ := made64 h1 h2
    have rd := round64 fv h1 h2
    replace S := hd S
    replace II := hd II
    have DN := hd (fun a b la lb ca cb w x y z => dnOf rd.1 rd.2.1 a b la lb ca cb w x y z)
    have UP := hd (fun a b la lb ca cb w x y z => upOf rd.1 rd.2.2.1 a b la lb ca cb w x y z)
    have NR := hd (fun a b la lb ca cb w x y z => nrOf rd.1 rd.2.2.2 a b la lb ca cb w x y z)
    replace fv := hd fv
    clear rd hwd
    go_wp2_with fail
    refine (II.out _ (TT.out _ hB)).mono ?_
    rintro e w2 ⟨⟨avF, cvF, avF', cvF', rfl, X, Y⟩, hb2⟩
    replace wb1 := wb1.old hb2
    replace hB := old_trans hB hb2
    clear hb2
    have KF_ := Cel3.new w2 (.bool s) (.slice avF tl.length cvF) (.slice avF' ul.length cvF') 28
    have halKF : Below w2.heap.size w2 (w2.alloc (.cells #[.bool s, .slice avF tl.length cvF, .slice avF' ul.length cvF'] 28)) := old_alloc (Below.refl _ _) _
    replace X := X.later halKF
    replace Y := Y.later halKF
    replace wb1 := wb1.old halKF
    replace hB := old_trans hB halKF
    clear halKF
    have KF := KF_
    clear KF_
    obtain ⟨KFa, ⟨KFb, KFc, KFd⟩, -⟩ := id KF
    go_wp2_with fail
    refine (S.out _).mono ?_
    rintro e w3 ⟨⟨avE, cvE, avE', cvE', rfl, -, -⟩, hb3⟩
    clear KFa KFb KFc KFd
    replace X := X.later hb3
    replace Y := Y.later hb3
    replace KF := KF.old hb3
    replace wb1 := wb1.old hb3
    replace hB := old_trans hB hb3
    clear hb3
    obtain ⟨KFa, ⟨KFb, KFc, KFd⟩, -⟩ := id KF
    clear KFa KFb KFc KFd
    have KE_ := Cel3.new w3 (.bool s) (.slice avE tl.length cvE) (.slice avE' ul.length cvE') 28
    have halKE : Below w3.heap.size w3 (w3.alloc (.cells #[.bool s, .slice avE tl.length cvE, .slice avE' ul.length cvE'] 28)) := old_alloc (Below.refl _ _) _
    replace X := X.later halKE
    replace Y := Y.later halKE
    replace KF := KF.old halKE
    replace wb1 := wb1.old halKE
    replace hB := old_trans hB halKE
    clear halKE
    have KE := KE_
    clear KE_
    obtain ⟨KFa, ⟨KFb, KFc, KFd⟩, -⟩ := id KF
    obtain ⟨KEa, ⟨KEb, KEc, KEd⟩, -⟩ := id KE
    go_wp2_with fail
    refine (DN.out _ _ _ _ _ _ _ X.inI Y.inI (TT.out _ hB)).mono ?_
    rintro e w4 ⟨rfl, hb4⟩
    clear KFa KFb KFc KFd KEa KEb KEc KEd
    replace X := X.later hb4
    replace Y := Y.later hb4
    replace KF := KF.old hb4
    replace KE := KE.old hb4
    replace wb1 := wb1.old hb4
    replace hB := old_trans hB hb4
    clear hb4
    obtain ⟨KFa, ⟨KFb, KFc, KFd⟩, -⟩ := id KF
    obtain ⟨KEa, ⟨KEb, KEc, KEd⟩, -⟩ := id KE
    go_wp2_with fail
    refine (UP.out _ _ _ _ _ _ _ X.inI Y.inI (TT.out _ hB)).mono ?_
    rintro e w5 ⟨rfl, hb5⟩
    clear KFa KFb KFc KFd KEa KEb KEc KEd
    replace X := X.later hb5
    replace Y := Y.later hb5
    replace KF := KF.old hb5
    replace KE := KE.old hb5
    replace wb1 := wb1.old hb5
    replace hB := old_trans hB hb5
    clear hb5
    obtain ⟨KFa, ⟨KFb, KFc, KFd⟩, -⟩ := id KF
    obtain ⟨KEa, ⟨KEb, KEc, KEd⟩, -⟩ := id KE
    go_wp2_with fail
    refine (NR.out _ _ _ _ _ _ _ X.inI Y.inI (TT.out _ hB)).mono ?_
    rintro e w6 ⟨rfl, hb6⟩
    clear KFa KFb KFc KFd KEa KEb KEc KEd
    replace X := X.later hb6
    replace Y := Y.later hb6
    replace KF := KF.old hb6
    replace KE := KE.old hb6
    replace wb1 := wb1.old hb6
    replace hB := old_trans hB hb6
    clear hb6
    obtain ⟨KFa, ⟨KFb, KFc, KFd⟩, -⟩ := id KF
    obtain ⟨KEa, ⟨KEb, KEc, KEd⟩, -⟩ := id KE
    clear DN UP NR S II
    go_wp2_with fail
    refine (drawFloatFrac _ a1 len1 cap1 wb1).mono ?_
    rintro e w7 ⟨⟨wd', k, hwd', rfl⟩, hb7⟩
    clear KFa KFb KFc KFd KEa KEb KEc KEd
    replace X := X.later hb7
    replace Y := Y.later hb7
    replace KF := KF.old hb7
    replace KE := KE.old hb7
    replace wb1 := wb1.old hb7
    replace hB := old_trans hB hb7
    clear hb7
    obtain ⟨KFa, ⟨KFb, KFc, KFd⟩, -⟩ := id KF
    obtain ⟨KEa, ⟨KEb, KEc, KEd⟩, -⟩ := id KE
    clear wb1 hwd'
    by_cases hk : -9218868437227405312 < k ∧ k < 9218868437227405312
    · skip
      obtain ⟨s2, tl2, ul2, gv, -, I2⟩ := made64 hk.1 hk.2
      replace I2 := hd I2
      have od := order64 fv.out gv h1 h2 hk.1 hk.2
      replace gv := hd gv
      go_wp2_with fail
      refine (I2.out _ (TT.out _ hB)).mono ?_
      rintro e w8 ⟨⟨avG, cvG, avG', cvG', rfl, U, V⟩, hb8⟩
      clear KFa KFb KFc KFd KEa KEb KEc KEd
      replace X := X.later hb8
      replace Y := Y.later hb8
      replace KF := KF.old hb8
      replace KE := KE.old hb8
      replace hB := old_trans hB hb8
      clear hb8
      obtain ⟨KFa, ⟨KFb, KFc, KFd⟩, -⟩ := id KF
      obtain ⟨KEa, ⟨KEb, KEc, KEd⟩, -⟩ := id KE
      clear KFa KFb KFc KFd KEa KEb KEc KEd
      have KG_ := Cel3.new w8 (.bool s2) (.slice avG tl2.length cvG) (.slice avG' ul2.length cvG') 28
      have halKG : Below w8.heap.size w8 (w8.alloc (.cells #[.bool s2, .slice avG tl2.length cvG, .slice avG' ul2.length cvG'] 28)) := old_alloc (Below.refl _ _) _
      replace X := X.later halKG
      replace Y := Y.later halKG
      replace U := U.later halKG
      replace V := V.later halKG
      replace KF := KF.old halKG
      replace KE := KE.old halKG
      replace hB := old_trans hB halKG
      clear halKG
      have KG := KG_
      clear KG_
      obtain ⟨KFa, ⟨KFb, KFc, KFd⟩, -⟩ := id KF
      obtain ⟨KEa, ⟨KEb, KEc, KEd⟩, -⟩ := id KE
      obtain ⟨KGa, ⟨KGb, KGc, KGd⟩, -⟩ := id KG
      rcases Int.lt_trichotomy n k with hlt | hlt | hlt
      · skip
        have hm := od.1 hlt
        have CM := hd (fun a b la lb ca cb c d lc ld cc cd w x1 x2 x3 x4 => osCmp fv.out.1 gv.out.1 hm a b la lb ca cb c d lc ld cc cd w x1 x2 x3 x4)
        have q1 : decide (n < k) = true := decide_eq_true hlt
        have q2 : (n == k) = false := beq_eq_false_iff_ne.2 (by omega)
        clear od fv gv I2 hm h1 h2 hk
        go_wp2_with fail
        refine (CM.out _ _ _ _ _ _ _ _ _ _ _ _ _ X.inI Y.inI U.inI V.inI).mono ?_
        rintro e w9 ⟨rfl, hb9⟩
        clear KFa KFb KFc KFd KEa KEb KEc KEd KGa KGb KGc KGd
        replace X := X.later hb9
        replace Y := Y.later hb9
        replace U := U.later hb9
        replace V := V.later hb9
        replace KF := KF.old hb9
        replace KE := KE.old hb9
        replace KG := KG.old hb9
        replace hB := old_trans hB hb9
        clear hb9
        obtain ⟨KFa, ⟨KFb, KFc, KFd⟩, -⟩ := id KF
        obtain ⟨KEa, ⟨KEb, KEc, KEd⟩, -⟩ := id KE
        obtain ⟨KGa, ⟨KGb, KGc, KGd⟩, -⟩ := id KG
        go_wp2
        go_ret
        exact ⟨rfl, hB⟩
      · skip
        have hm := od.2.1 hlt
        subst hlt
        have CM := hd (fun a b la lb ca cb c d lc ld cc cd w x1 x2 x3 x4 => osCmp fv.out.1 gv.out.1 hm a b la lb ca cb c d lc ld cc cd w x1 x2 x3 x4)
        clear od fv gv I2 hm h1 h2 hk
        go_wp2_with fail
        refine (CM.out _ _ _ _ _ _ _ _ _ _ _ _ _ X.inI Y.inI U.inI V.inI).mono ?_
        rintro e w9 ⟨rfl, hb9⟩
        clear KFa KFb KFc KFd KEa KEb KEc KEd KGa KGb KGc KGd
        replace X := X.later hb9
        replace Y := Y.later hb9
        replace U := U.later hb9
        replace V := V.later hb9
        replace KF := KF.old hb9
        replace KE := KE.old hb9
        replace KG := KG.old hb9
        replace hB := old_trans hB hb9
        clear hb9
        obtain ⟨KFa, ⟨KFb, KFc, KFd⟩, -⟩ := id KF
        obtain ⟨KEa, ⟨KEb, KEc, KEd⟩, -⟩ := id KE
        obtain ⟨KGa, ⟨KGb, KGc, KGd⟩, -⟩ := id KG
        go_wp2
        go_ret
        exact ⟨rfl, hB⟩
      · skip
        have hm := od.2.2 hlt
        have CM := hd (fun a b la lb ca cb c d lc ld cc cd w x1 x2 x3 x4 => osCmp fv.out.1 gv.out.1 hm a b la lb ca cb c d lc ld cc cd w x1 x2 x3 x4)
        have q1 : decide (n < k) = false := decide_eq_false (by omega)
        have q2 : (n == k) = false := beq_eq_false_iff_ne.2 (by omega)
        clear od fv gv I2 hm h1 h2 hk
        go_wp2_with fail
        refine (CM.out _ _ _ _ _ _ _ _ _ _ _ _ _ X.inI Y.inI U.inI V.inI).mono ?_
        rintro e w9 ⟨rfl, hb9⟩
        clear KFa KFb KFc KFd KEa KEb KEc KEd KGa KGb KGc KGd
        replace X := X.later hb9
        replace Y := Y.later hb9
        replace U := U.later hb9
        replace V := V.later hb9
        replace KF := KF.old hb9
        replace KE := KE.old hb9
        replace KG := KG.old hb9
        replace hB := old_trans hB hb9
        clear hb9
        obtain ⟨KFa, ⟨KFb, KFc, KFd⟩, -⟩ := id KF
        obtain ⟨KEa, ⟨KEb, KEc, KEd⟩, -⟩ := id KE
        obtain ⟨KGa, ⟨KGb, KGc, KGd⟩, -⟩ := id KG
        go_wp2
        go_ret
        exact ⟨rfl, hB⟩
    · skip
      have N2 := hd (noFF 64 k (fun q => absurd q.1 (by decide)) (fun q => hk q.2)).2
      clear fv
      go_wp2_with fail
      refine (N2.out _ (TT.out _ hB)).mono ?_
      rintro e w8 ⟨⟨avG, cvG, avG', cvG', rfl⟩, hb8⟩
      clear KFa KFb KFc KFd KEa KEb KEc KEd
      replace X := X.later hb8
      replace Y := Y.later hb8
      replace KF := KF.old hb8
      replace KE := KE.old hb8
      replace hB := old_trans hB hb8
      clear hb8
      obtain ⟨KFa, ⟨KFb, KFc, KFd⟩, -⟩ := id KF
      obtain ⟨KEa, ⟨KEb, KEc, KEd⟩, -⟩ := id KE
      clear KFa KFb KFc KFd KEa KEb KEc KEd
      have KG_ := Cel3.new w8 (.bool false) (.slice avG 0 cvG) (.slice avG' 0 cvG') 28
      have halKG : Below w8.heap.size w8 (w8.alloc (.cells #[.bool false, .slice avG 0 cvG, .slice avG' 0 cvG'] 28)) := old_alloc (Below.refl _ _) _
      replace X := X.later halKG
      replace Y := Y.later halKG
      replace KF := KF.old halKG
      replace KE := KE.old halKG
      replace hB := old_trans hB halKG
      clear halKG
      have KG := KG_
      clear KG_
      obtain ⟨KFa, ⟨KFb, KFc, KFd⟩, -⟩ := id KF
      obtain ⟨KEa, ⟨KEb, KEc, KEd⟩, -⟩ := id KE
      obtain ⟨KGa, ⟨KGb, KGc, KGd⟩, -⟩ := id KG
      clear KFa KFb KFc KFd KEa KEb KEc KEd KGa KGb KGc KGd
      have BO := hd (fun w' (hS : Below w.heap.size w w') => (sOk 64 k w').mono (fun e w'' (q : _ ∧ _) => (⟨q.1, old_trans hS q.2⟩ : _ ∧ Below w.heap.size w w'')))
      have TO := hd (fun w' (hS : Below w.heap.size w w') => (iBitTop_64 w').mono (fun e w'' (q : _ ∧ _) => (⟨q.1, old_trans hS q.2⟩ : _ ∧ Below w.heap.size w w'')))
      clear N2 KF KE KG X Y
      rw [okB_64] at BO
      by_cases hb : -9218868437227405312 ≤ k ∧ k ≤ 9218868437227405312
      · rw [decide_eq_true hb] at BO
        by_cases e1 : k = 9218868437227405312
        · subst e1
          clear hk hb h1 h2
          go_wp2_with fail
          refine (BO.out _ hB).mono ?_
          rintro e x1 ⟨rfl, hS1⟩
          go_wp2_with fail
          refine (TO.out _ hS1).mono ?_
          rintro e x2 ⟨rfl, hS2⟩
          go_wp2
          go_ret
          exact ⟨rfl, hS2⟩
        · obtain rfl : k = -9218868437227405312 := by omega
          clear hk hb h1 h2 e1
          go_wp2_with fail
          refine (BO.out _ hB).mono ?_
          rintro e x1 ⟨rfl, hS1⟩
          go_wp2_with fail
          refine (TO.out _ hS1).mono ?_
          rintro e x2 ⟨rfl, hS2⟩
          go_wp2_with fail
          refine (TO.out _ hS2).mono ?_
          rintro e x3 ⟨rfl, hS3⟩
          go_wp2
          go_ret
          exact ⟨rfl, hS3⟩
      · rw [decide_eq_false hb] at BO
        clear hk hb h1 h2 TO
        go_wp2_with fail
        refine (BO.out _ hB).mono ?_
        rintro e x1 ⟨rfl, hS1⟩
        go_wp2
        go_ret
        exact ⟨rfl, hS1⟩
  obtain ⟨N1, N2⟩ := noFF wd n h32 h64
  replace N1 := hd N1
  replace N2 := hd N2
  clear wb1 h32 h64 hwd
  go_wp2_with fail
  refine (N2.out _ (TT.out _ hB)).mono ?_
  rintro e w2 ⟨⟨avF, cvF, avF', cvF', rfl⟩, hb2⟩
  replace hB := old_trans hB hb2
  clear hb2
  have KF_ := Cel3.new w2 (.bool false) (.slice avF 0 cvF) (.slice avF' 0 cvF') 28
  have halKF : Below w2.heap.size w2 (w2.alloc (.cells #[.bool false, .slice avF 0 cvF, .slice avF' 0 cvF'] 28)) := old_alloc (Below.refl _ _) _
  replace hB := old_trans hB halKF
  clear halKF
  have KF := KF_
  clear KF_
  obtain ⟨KFa, ⟨KFb, KFc, KFd⟩, -⟩ := id KF
  go_wp2_with fail
  refine (N1.out _).mono ?_
  rintro e w3 ⟨⟨avE, cvE, avE', cvE', rfl⟩, hb3⟩
  clear KFa KFb KFc KFd
  replace KF := KF.old hb3
  replace hB := old_trans hB hb3
  clear hb3
  obtain ⟨KFa, ⟨KFb, KFc, KFd⟩, -⟩ := id KF
  clear KFa KFb KFc KFd
  have KE_ := Cel3.new w3 (.bool false) (.slice avE 0 cvE) (.slice avE' 0 cvE') 28
  have halKE : Below w3.heap.size w3 (w3.alloc (.cells #[.bool false, .slice avE 0 cvE, .slice avE' 0 cvE'] 28)) := old_alloc (Below.refl _ _) _
  replace KF := KF.old halKE
  replace hB := old_trans hB halKE
  clear halKE
  have KE := KE_
  clear KE_
  obtain ⟨KFa, ⟨KFb, KFc, KFd⟩, -⟩ := id KF
  obtain ⟨KEa, ⟨KEb, KEc, KEd⟩, -⟩ := id KE
  go_wp2
  go_ret
  exact ⟨rfl, hB⟩

set_option maxRecDepth 100000 in
theorem FnFloatFrac_lifted (os : Os) (started : os.Started) (H : Type) (enc : TypeId × Value → H) :
    ReturnsInHanded {} Tryz.checked os 5 .any (fun w args => (Rows.fnFloatFracSpec.pre enc Tryz.prog Tryz.f5 [] false w args ∧ laidMetH Tryz.prog LHL w) ∧ sizedMet enc Tryz.prog Tryz.f5 (OpenSpec.ofChange Rows.fnFloatFracSpec) false w args)
      (Rows.fnFloatFracSpec.post enc Tryz.prog Tryz.f5 false true false false) := by
  refine returnsInHanded_of_change_and (C := Tryz.checked) (X := fun w _ => laidMetH Tryz.prog LHL w) (fun _ _ _ hh h => h.of_heap hh) LH_own started (by kernel_rfl) Tryz.func5
    (ChangeSpec.witness_shaped (enc := enc) (C := Tryz.checked) (os := os) (X := fun w _ => laidMetH Tryz.prog LHL w) false (World.doorLaid Tryz.prog LH_fuel os) #[.slice none 0 0, .slice none 0 0] 8 rfl (LH_shaped os _) (by kernel_rfl) (by kernel_rfl) (by kernel_rfl) (LH_met os _)) ?_
  intro W base args ds gs before hval0 hW _ _ hL _
  have hval : ∀ (j : Nat) t v, Tryz.f5.params[j]? = some t → args[j]? = some v → Value.okWide Tryz.prog W .any base t v := hval0
  have hW' := hW
  obtain ⟨p, q, hA0, hV, rfl, hfz, hnd⟩ := hW
  have hA : DataW.TrodAll enc Tryz.prog W 0 (fun _ => true) true Tryz.f5.params.toList args.toList ds p := hA0
  rw [Tryz.params5] at hA hval
  obtain ⟨v0, vs0, d0, ds0, p0, q0, hargs, rfl, rfl, h0, r0⟩ := trodAll_cons hA
  obtain ⟨v1, vs1, d1, ds1, p1, q1, rfl, rfl, rfl, h1, r1⟩ := trodAll_cons r0
  obtain ⟨rfl, rfl, rfl⟩ := trodAll_nil r1
  obtain rfl : args = #[v0, v1] := by cases args; simp_all
  obtain ⟨rfl, rfl⟩ := trodVars_none hV
  have k0 := h0
  have lt0 : ∀ x ∈ p0, x.block < W.heap.size := by obtain ⟨m, hm⟩ := k0; exact DataW.trod_lt m _ _ _ hm
  obtain ⟨a0, len0, cap0, rfl, wb0⟩ := open_bytes (hval 0 32 v0 rfl rfl) h0
  have k1 := h1
  have lt1 : ∀ x ∈ p1, x.block < W.heap.size := by obtain ⟨m, hm⟩ := k1; exact DataW.trod_lt m _ _ _ hm
  obtain ⟨a1, len1, cap1, rfl, wb1⟩ := open_bytes (hval 1 32 v1 rfl rfl) h1
  clear hA0 hval0
  refine (FnFloatFrac_walk a0 len0 cap0 a1 len1 cap1 W wb0 wb1 (both_of hL)).mono fun e W' ⟨he, bel⟩ => ?_
  subst he
  exact ⟨_, rfl, _, _, _, [], _, [], hW', trodAll_mk1 (shut_bool Tryz.underlying4 _), (trodAll_cons_mk (Below.trod jf1 (by kernel_rfl) (of_decide_eq_true (by kernel_rfl)) k0 bel lt0) (trodAll_cons_mk (Below.trod jf1 (by kernel_rfl) (of_decide_eq_true (by kernel_rfl)) k1 bel lt1) trodAll_mk0)), rfl, bel.frame _, fun h => by cases h⟩

theorem FnFloatFrac_k0 : (Rows.fnFloatFracRow.wf (OpenSpec.ofChange Rows.fnFloatFracSpec)) = true := by kernel_rfl
theorem FnFloatFrac_k3 : (Tryz.f5.params.all (Tryz.prog.readableRec ·)) = true := by kernel_rfl
theorem FnFloatFrac_k4 : (namedTie Tryz.prog Rows.fnFloatFracRow.named Rows.fnFloatFracSpec.vars) = true := by kernel_rfl
theorem FnFloatFrac_k5 : ((Rows.fnFloatFracRow.stops == [])) = true := by kernel_rfl
theorem FnFloatFrac_k7 : ((Rows.fnFloatFracRow.knobs == [])) = true := by kernel_rfl
theorem FnFloatFrac_k9 : ((Rows.fnFloatFracRow.inPlace == Tryz.prog.inPlace 5)) = true := by kernel_rfl
theorem FnFloatFrac_k10 : ((Rows.fnFloatFracRow.unfollowed == Tryz.prog.unfollowed 5)) = true := by kernel_rfl
theorem FnFloatFrac_k11 : ((Rows.fnFloatFracRow.recurses == Tryz.prog.recurses 5)) = true := by kernel_rfl
theorem FnFloatFrac_k12 : ((Rows.fnFloatFracRow.named == Tryz.prog.varsNamed 5)) = true := by kernel_rfl
theorem FnFloatFrac_k13 : ((Rows.fnFloatFracRow.maps == (Tryz.f5.params.toList ++ Rows.fnFloatFracSpec.plain.varTypes Tryz.prog).any (Tryz.prog.mapsRec ·))) = true := by kernel_rfl
theorem FnFloatFrac_k14 : ((Rows.fnFloatFracRow.ifaces == (Tryz.f5.params.toList ++ Rows.fnFloatFracSpec.plain.varTypes Tryz.prog).any (Tryz.prog.ifacesRec ·))) = true := by kernel_rfl
theorem FnFloatFrac_k15 : ((Rows.fnFloatFracRow.mapsOut == Tryz.prog.mapsAmong Tryz.f5.resultTypes.toList)) = true := by kernel_rfl
theorem FnFloatFrac_k16 : ((Rows.fnFloatFracRow.loops == (Tryz.f5.params.toList ++ Rows.fnFloatFracSpec.plain.varTypes Tryz.prog).any (Tryz.prog.loopsFrom ·))) = true := by kernel_rfl
theorem FnFloatFrac_k17 : ((Rows.fnFloatFracRow.wideKeys == (Tryz.f5.params.toList ++ Rows.fnFloatFracSpec.plain.varTypes Tryz.prog ++ Tryz.f5.resultTypes.toList).any (Tryz.prog.wideKeysFrom ·))) = true := by kernel_rfl
theorem FnFloatFrac_k18 : (Rows.fnFloatFracSpec.vars.all (Tryz.prog.varReadable ·)) = true := by kernel_rfl
theorem FnFloatFrac_k19 : (Tryz.f5.resultTypes.all (fun t => Tryz.prog.readableRec t && decide (t < Tryz.prog.types.size))) = true := by kernel_rfl
theorem FnFloatFrac_k20 : ((Rows.fnFloatFracRow.ifacesOut == Tryz.f5.resultTypes.toList.any (Tryz.prog.ifacesRec ·))) = true := by kernel_rfl
theorem FnFloatFrac_k21 : ((Rows.fnFloatFracRow.loopsOut == Tryz.f5.resultTypes.toList.any (Tryz.prog.loopsFrom ·))) = true := by kernel_rfl
theorem FnFloatFrac_k23 : (Rows.fnFloatFracRow.shortTexts.isNone) = true := by kernel_rfl
theorem FnFloatFrac_k28 : ((Rows.fnFloatFracRow.kinds == (if Rows.fnFloatFracRow.domain.isEmpty then [] else Tryz.f5.params.toList.map fun t => match Tryz.prog.underlying t with | some (.int k) => some k | _ => none))) = true := by kernel_rfl
theorem FnFloatFrac_k29 : ((Rows.fnFloatFracRow.pinned == Rows.fnFloatFracRow.pinnedBy)) = true := by kernel_rfl
theorem FnFloatFrac_k30 : ((Rows.fnFloatFracRow.veiled == (Tryz.f5.params.toList ++ Rows.fnFloatFracSpec.plain.varTypes Tryz.prog ++ Tryz.f5.resultTypes.toList).any (Tryz.prog.veiledRec ·))) = true := by kernel_rfl
theorem FnFloatFrac_k31 : (Rows.fnFloatFracRow.veiledFits Tryz.prog Tryz.f5.params.toList (Tryz.f5.params.toList ++ Rows.fnFloatFracSpec.plain.varTypes Tryz.prog ++ Tryz.f5.resultTypes.toList)) = true := by kernel_rfl
set_option maxRecDepth 100000 in
theorem FnFloatFrac_closed : joinedFacts Tryz.prog 5 Tryz.f5 Rows.fnFloatFracSpec Rows.fnFloatFracRow = true := (and2 (and2 (and2 (and2 (and2 (and2 (and2 (and2 (and2 (and2 (and2 (and2 (and2 (and2 (and2 (and2 (and2 (and2 (and2 (and2 (and2 (and2 (and2 (and2 (and2 (and2 (and2 (and2 (and2 (and2 (and2 FnFloatFrac_k0 jf1) jf2) FnFloatFrac_k3) FnFloatFrac_k4) FnFloatFrac_k5) jf6) FnFloatFrac_k7) jf8) FnFloatFrac_k9) FnFloatFrac_k10) FnFloatFrac_k11) FnFloatFrac_k12) FnFloatFrac_k13) FnFloatFrac_k14) FnFloatFrac_k15) FnFloatFrac_k16) FnFloatFrac_k17) FnFloatFrac_k18) FnFloatFrac_k19) FnFloatFrac_k20) FnFloatFrac_k21) jf22) FnFloatFrac_k23) jf24) jf25) jf26) jf27) FnFloatFrac_k28) FnFloatFrac_k29) FnFloatFrac_k30) FnFloatFrac_k31)
theorem FnFloatFrac_row : Rows.FnFloatFracSaid :=
  OpenClaim.holds_of_wide 5 Tryz.f5 rfl rfl rfl rfl rfl rfl rfl ⟨rfl, rfl, rfl, rfl, rfl⟩ rfl rfl rfl rfl rfl (by kernel_rfl) Tryz.func5 FnFloatFrac_closed
    (of_decide_eq_true (by kernel_rfl)) (by unfold Func.isWrapper; first | (rw [if_pos (by decide +kernel)]; kernel_rfl) | (rw [if_neg (by decide +kernel)]; exact ⟨rfl, rfl⟩))
    (fun os started H enc _ => FnFloatFrac_lifted os started H enc)

theorem FnFloatFrac_proved : Rows.FnFloatFracCardSaid :=
  Claim7.holds_tied_plain_at .later [] [.data, .data, .handle] true (true, "56ed852ba81ed10a09a067803bb75bd33e25ce2b42a59168cee76c945b43beeb") true
    FnFloatFrac_row (fun _ h => by cases h) (by kernel_rfl) (fun _ h => by cases h) fnFloatFrac_row_tie rfl ⟨rfl, rfl⟩ (by kernel_rfl) rfl
    (fun f fn hf hfn => by
      obtain rfl : f = 5 := Option.some.inj ((show Tryz.prog.funcNamed "loop.example/pinfold/laws.FnFloatFrac" = some 5 by kernel_rfl).symm.trans hf) |>.symm
      obtain rfl : fn = Tryz.f5 := (Option.some.inj (Tryz.func5.symm.trans hfn)).symm
      exact ⟨by kernel_rfl, fun j t ht => by
        rw [Tryz.params5] at ht
        have hm : t ∈ [32, 32] := by simpa using Array.mem_of_getElem? ht
        have hall : ([32, 32].all fun u => !Tryz.prog.wantsStandIn u) = true := by kernel_rfl
        exact (show Tryz.prog.wantsStandIn t = false by simpa using List.all_eq_true.1 hall t hm)⟩)
    (by kernel_rfl)
end Go.Proofs.YtcfbdibjjhifpaaGreatDoor
