/- For every code of bytes, of the width and the fraction drawn from it: the floats below and above it hold it between them, are one just if it is a float, else next to one another; the nearest one is one of them, if both are finite, and no farther than the other one. The law answers true; nothing that was there is written. Condition: the library's tables and its handle of errors hold what their texts lay (the card ties them). -/
import Derived.Test.YtgoffjpfddmhhaaGreatDoorRows
import Derived.Test.YtgoffjpfddmhhaaGreatDoorTie
import Derived.Test.YtgoffjpfddmhhaaGreatDoorCards
import Derived.WalkKit
import Derived.ProofKit
import Derived.OpenShut
import Derived.Below
import Derived.Carry
import Derived.Test.YtgoffjpfddmhhaaGreatDoorPK01
import Derived.Test.YtgoffjpfddmhhaaGreatDoorPK04
import Derived.Test.YtgoffjpfddmhhaaGreatDoorPK38
import Derived.Test.YtgoffjpfddmhhaaGreatDoorPK40
namespace Go.Proofs.YtgoffjpfddmhhaaGreatDoor
open Go.ChangeShapes Go.WideShapes Go.ChangeAt Go.RowKit
set_option linter.unusedVariables false
set_option maxRecDepth 100000

set_option maxRecDepth 100000 in
set_option maxHeartbeats 32000000 in
theorem FnFloatRound_walk (a0 : Option Addr) (len0 cap0 : Nat) (w : World) (wb0 : IsCode w a0 len0 cap0) (hT : Tab w ∧ ET w) :
    Calls Tryz.prog 3 #[.slice a0 len0 cap0] w fun e w' => e = .returned (.bool true) ∧ Below w.heap.size w w' := by
  have TT := hd (fun (w' : World) (h : Below w.heap.size w w') => (⟨hT.1.old h, hT.2.old h⟩ : Tab w' ∧ ET w'))
  clear hT
  by_cases c0 : (1048576 : Int) < (len0 : Int)
  · have t0 : decide ((1048576 : Int) < (len0 : Int)) = true := by simp; omega
    go_enter Tryz.func3, Tryz.ntmps3
    go_wp2
    go_ret
    exact ⟨rfl, (by repeat (first | exact Below.refl _ _ | refine Below.drew ?_ | refine old_alloc ?_ _ | refine old_trans ?_ (by assumption)))⟩
  have hB : Below w.heap.size w w := Below.refl _ _
  go_enter Tryz.func3, Tryz.ntmps3
  go_wp2_with fail
  refine (drawFloatNear _ a0 len0 cap0 wb0).mono ?_
  rintro e w1 ⟨⟨wd, s, avF, cvF, xs, avF', cvF', ys, ⟨d1, d2⟩, rfl, X, Y⟩, hb1⟩
  replace hB := old_trans hB hb1
  clear hb1 wb0
  cases hf : fracOk s xs ys
  case false =>
    as_aux_lemma =>
      have hpf : pfOk wd s xs ys = false := by unfold pfOk; rw [hf, Bool.and_false]
      have DN := hd (fun a b la lb ca cb w x y (z : Tab w ∧ ET w) => iFloatDown wd s a b la lb ca cb xs ys w x y z.1 z.2)
      have UP := hd (fun a b la lb ca cb w x y (z : Tab w ∧ ET w) => iFloatUp wd s a b la lb ca cb xs ys w x y z.1 z.2)
      have NR := hd (fun a b la lb ca cb w x y (z : Tab w ∧ ET w) => iFloatNear wd s a b la lb ca cb xs ys w x y z.1 z.2)
      have SD := hd (fun a b la lb ca cb w x y => sFloatDownA wd s a b la lb ca cb xs ys w x y)
      rw [hpf] at DN UP NR SD
      generalize pfL wd s xs ys = lo at *
      generalize pfH wd s xs ys = hi at *
      generalize nrF wd s xs ys = n at *
      clear hpf hf
      have KF_ := Cel3.new w1 (.bool s) (.slice avF xs.length cvF) (.slice avF' ys.length cvF') 25
      have halKF : Below w1.heap.size w1 (w1.alloc (.cells #[.bool s, .slice avF xs.length cvF, .slice avF' ys.length cvF'] 25)) := old_alloc (Below.refl _ _) _
      replace X := X.later halKF
      replace Y := Y.later halKF
      replace hB := old_trans hB halKF
      clear halKF
      have KF := KF_
      clear KF_
      obtain ⟨KFa, ⟨KFb, KFc, KFd⟩, -⟩ := id KF
      go_wp2_with fail
      refine (DN.out _ _ _ _ _ _ _ X.inI Y.inI (TT.out _ hB)).mono ?_
      rintro e w2 ⟨rfl, hb2⟩
      clear KFa KFb KFc KFd
      replace X := X.later hb2
      replace Y := Y.later hb2
      replace KF := KF.old hb2
      replace hB := old_trans hB hb2
      clear hb2
      obtain ⟨KFa, ⟨KFb, KFc, KFd⟩, -⟩ := id KF
      go_wp2_with fail
      refine (UP.out _ _ _ _ _ _ _ X.inI Y.inI (TT.out _ hB)).mono ?_
      rintro e w3 ⟨rfl, hb3⟩
      clear KFa KFb KFc KFd
      replace X := X.later hb3
      replace Y := Y.later hb3
      replace KF := KF.old hb3
      replace hB := old_trans hB hb3
      clear hb3
      obtain ⟨KFa, ⟨KFb, KFc, KFd⟩, -⟩ := id KF
      go_wp2_with fail
      refine (NR.out _ _ _ _ _ _ _ X.inI Y.inI (TT.out _ hB)).mono ?_
      rintro e w4 ⟨rfl, hb4⟩
      clear KFa KFb KFc KFd
      replace X := X.later hb4
      replace Y := Y.later hb4
      replace KF := KF.old hb4
      replace hB := old_trans hB hb4
      clear hb4
      obtain ⟨KFa, ⟨KFb, KFc, KFd⟩, -⟩ := id KF
      go_wp2_with fail
      refine (SD.out _ _ _ _ _ _ _ X.inI Y.inI).mono ?_
      rintro e w5 ⟨rfl, hb5⟩
      clear KFa KFb KFc KFd
      replace X := X.later hb5
      replace Y := Y.later hb5
      replace KF := KF.old hb5
      replace hB := old_trans hB hb5
      clear hb5
      obtain ⟨KFa, ⟨KFb, KFc, KFd⟩, -⟩ := id KF
      clear DN UP NR SD
      go_wp2
      go_ret
      exact ⟨rfl, hB⟩
  by_cases h32 : wd = 32
  case pos =>
    as_aux_lemma =>
      subst h32
      have hpf : pfOk 32 s xs ys = true := by unfold pfOk; rw [hf]; rfl
      obtain ⟨⟨a1, a2⟩, ⟨a3, a4⟩, a5, a6⟩ := around32 hf
      obtain ⟨n1, n2⟩ := near32R hf
      have hnl := fun h1 h2 => nrIs32 h1 h2 a2 a3
      have CL := hd (fun (s1 : Bool) (t1 u1 : List Int) h1 g => cmpLo32 (s1 := s1) (t1 := t1) (u1 := u1) hf h1 g)
      have CH := hd (fun (s2 : Bool) (t2 u2 : List Int) h2 g => cmpHi32 (s2 := s2) (t2 := t2) (u2 := u2) hf h2 g)
      have FI := hd (fun (s1 s2 : Bool) (t1 u1 t2 u2 : List Int) h1 h2 g1 g2 (sp sq : Bool) (tp up tq uq : List Int) hp hq => fin32 (s1 := s1) (s2 := s2) (t1 := t1) (u1 := u1) (t2 := t2) (u2 := u2) hf h1 h2 g1 g2 (sp := sp) (sq := sq) (tp := tp) (up := up) (tq := tq) (uq := uq) hp hq)
      have eL : pfL 32 s xs ys = arL32 s (val xs) (val ys) := by unfold pfL; rw [hpf]; rfl
      have eH : pfH 32 s xs ys = arH32 s (val xs) (val ys) := by unfold pfH; rw [hpf]; rfl
      have eN : nrF 32 s xs ys = nr32 s (val xs) (val ys) := by unfold nrF; rw [hpf]; rfl
      have DN := hd (fun a b la lb ca cb w x y z => dnOf hpf eL a b la lb ca cb w x y z)
      have UP := hd (fun a b la lb ca cb w x y z => upOf hpf eH a b la lb ca cb w x y z)
      have NR := hd (fun a b la lb ca cb w x y z => nrOf hpf eN a b la lb ca cb w x y z)
      have SD := hd (fun a b la lb ca cb w x y => sdnOf hpf eL a b la lb ca cb w x y)
      clear hpf eL eH eN
      generalize arL32 s (val xs) (val ys) = lo at *
      generalize arH32 s (val xs) (val ys) = hi at *
      generalize nr32 s (val xs) (val ys) = n at *
      have q1 : decide (hi < lo) = false := decide_eq_false (by omega)
      have q2 : decide (1 < hi - lo) = false := decide_eq_false (by omega)
      have q3 : decide (n ≤ -2139095040) = false := decide_eq_false (by omega)
      have q4 : decide (2139095040 ≤ n) = false := decide_eq_false (by omega)
      have nw : -9223372036854775808 ≤ hi - lo ∧ hi - lo ≤ 9223372036854775807 := by omega
      replace hf := hd hf
      have KF_ := Cel3.new w1 (.bool s) (.slice avF xs.length cvF) (.slice avF' ys.length cvF') 25
      have halKF : Below w1.heap.size w1 (w1.alloc (.cells #[.bool s, .slice avF xs.length cvF, .slice avF' ys.length cvF'] 25)) := old_alloc (Below.refl _ _) _
      replace X := X.later halKF
      replace Y := Y.later halKF
      replace hB := old_trans hB halKF
      clear halKF
      have KF := KF_
      clear KF_
      obtain ⟨KFa, ⟨KFb, KFc, KFd⟩, -⟩ := id KF
      go_wp2_with fail
      refine (DN.out _ _ _ _ _ _ _ X.inI Y.inI (TT.out _ hB)).mono ?_
      rintro e w2 ⟨rfl, hb2⟩
      clear KFa KFb KFc KFd
      replace X := X.later hb2
      replace Y := Y.later hb2
      replace KF := KF.old hb2
      replace hB := old_trans hB hb2
      clear hb2
      obtain ⟨KFa, ⟨KFb, KFc, KFd⟩, -⟩ := id KF
      go_wp2_with fail
      refine (UP.out _ _ _ _ _ _ _ X.inI Y.inI (TT.out _ hB)).mono ?_
      rintro e w3 ⟨rfl, hb3⟩
      clear KFa KFb KFc KFd
      replace X := X.later hb3
      replace Y := Y.later hb3
      replace KF := KF.old hb3
      replace hB := old_trans hB hb3
      clear hb3
      obtain ⟨KFa, ⟨KFb, KFc, KFd⟩, -⟩ := id KF
      go_wp2_with fail
      refine (NR.out _ _ _ _ _ _ _ X.inI Y.inI (TT.out _ hB)).mono ?_
      rintro e w4 ⟨rfl, hb4⟩
      clear KFa KFb KFc KFd
      replace X := X.later hb4
      replace Y := Y.later hb4
      replace KF := KF.old hb4
      replace hB := old_trans hB hb4
      clear hb4
      obtain ⟨KFa, ⟨KFb, KFc, KFd⟩, -⟩ := id KF
      go_wp2_with fail
      refine (SD.out _ _ _ _ _ _ _ X.inI Y.inI).mono ?_
      rintro e w5 ⟨rfl, hb5⟩
      clear KFa KFb KFc KFd
      replace X := X.later hb5
      replace Y := Y.later hb5
      replace KF := KF.old hb5
      replace hB := old_trans hB hb5
      clear hb5
      obtain ⟨KFa, ⟨KFb, KFc, KFd⟩, -⟩ := id KF
      clear DN UP NR SD
      have TP : Hid (∀ w' : World, Calls Tryz.prog 11 #[.int .i64 32] w' fun e w'' => e = .returned (.int .i64 2139095040) ∧ Below w'.heap.size w' w'') := fun w' => iTop 32 w'
      have wt : wrap64 (-2139095040) = -2139095040 := by unfold wrap64; omega
      go_wp2_with fail
      refine (TP.out _).mono ?_
      rintro e w6 ⟨rfl, hb6⟩
      clear KFa KFb KFc KFd
      replace X := X.later hb6
      replace Y := Y.later hb6
      replace KF := KF.old hb6
      replace hB := old_trans hB hb6
      clear hb6
      obtain ⟨KFa, ⟨KFb, KFc, KFd⟩, -⟩ := id KF
      clear TP
      by_cases hlo : -2139095040 < lo
      case pos =>
        as_aux_lemma =>
          have q5 : decide (-2139095040 < lo) = true := decide_eq_true hlo
          by_cases hhi : hi < 2139095040
          case pos =>
            as_aux_lemma =>
              have q6 : decide (hi < 2139095040) = true := decide_eq_true hhi
              clear KFa KFb KFc KFd
              obtain ⟨KFa, ⟨KFb, KFc, KFd⟩, -⟩ := id KF
              go_upto_region 13 with fail
              go_cut [116] (fun x wx => x = .bool false ∧ w6 = wx)
              case first =>
                as_aux_lemma =>
                  have hnn := hnl hlo hhi
                  by_cases hn2 : n = lo
                  · clear hnn
                    subst hn2
                    go_wp2
                    go_meet
                    exact ⟨by first | rfl | (simp; done) | (simp; omega), rfl⟩
                  · have hn3 : n = hi := by
                      rcases hnn with h | h
                      · exact absurd h hn2
                      · exact h
                    have q8 : (n == lo) = false := beq_eq_false_iff_ne.2 hn2
                    clear hnn
                    subst hn3
                    go_wp2
                    go_meet
                    exact ⟨by first | rfl | (simp; done) | (simp; omega), rfl⟩
              case rest =>
                as_aux_lemma =>
                  obtain ⟨rfl, rfl⟩ := hcut
                  obtain ⟨s1, t1, u1, g1, -, I1⟩ := made32 hlo a2
                  replace I1 := hd I1
                  have cl := CL.out s1 t1 u1 hlo g1
                  clear CL
                  go_wp2_with fail
                  refine (I1.out _ (TT.out _ hB)).mono ?_
                  rintro e w7 ⟨⟨avA, cvA, avA', cvA', rfl, P, P'⟩, hb7⟩
                  clear KFa KFb KFc KFd
                  replace X := X.later hb7
                  replace Y := Y.later hb7
                  replace KF := KF.old hb7
                  replace hB := old_trans hB hb7
                  clear hb7
                  obtain ⟨KFa, ⟨KFb, KFc, KFd⟩, -⟩ := id KF
                  clear I1
                  clear KFa KFb KFc KFd
                  have KA_ := Cel3.new w7 (.bool s1) (.slice avA t1.length cvA) (.slice avA' u1.length cvA') 25
                  have halKA : Below w7.heap.size w7 (w7.alloc (.cells #[.bool s1, .slice avA t1.length cvA, .slice avA' u1.length cvA'] 25)) := old_alloc (Below.refl _ _) _
                  replace X := X.later halKA
                  replace Y := Y.later halKA
                  replace P := P.later halKA
                  replace P' := P'.later halKA
                  replace KF := KF.old halKA
                  replace hB := old_trans hB halKA
                  clear halKA
                  have KA := KA_
                  clear KA_
                  obtain ⟨KFa, ⟨KFb, KFc, KFd⟩, -⟩ := id KF
                  obtain ⟨KAa, ⟨KAb, KAc, KAd⟩, -⟩ := id KA
                  obtain ⟨s2, t2, u2, g2, -, I2⟩ := made32 a3 hhi
                  replace I2 := hd I2
                  have ch := CH.out s2 t2 u2 hhi g2
                  clear CH
                  go_wp2_with fail
                  refine (I2.out _ (TT.out _ hB)).mono ?_
                  rintro e w8 ⟨⟨avB, cvB, avB', cvB', rfl, Q, Q'⟩, hb8⟩
                  clear KFa KFb KFc KFd KAa KAb KAc KAd
                  replace X := X.later hb8
                  replace Y := Y.later hb8
                  replace P := P.later hb8
                  replace P' := P'.later hb8
                  replace KF := KF.old hb8
                  replace KA := KA.old hb8
                  replace hB := old_trans hB hb8
                  clear hb8
                  obtain ⟨KFa, ⟨KFb, KFc, KFd⟩, -⟩ := id KF
                  obtain ⟨KAa, ⟨KAb, KAc, KAd⟩, -⟩ := id KA
                  clear I2
                  clear KFa KFb KFc KFd KAa KAb KAc KAd
                  have KB_ := Cel3.new w8 (.bool s2) (.slice avB t2.length cvB) (.slice avB' u2.length cvB') 25
                  have halKB : Below w8.heap.size w8 (w8.alloc (.cells #[.bool s2, .slice avB t2.length cvB, .slice avB' u2.length cvB'] 25)) := old_alloc (Below.refl _ _) _
                  replace X := X.later halKB
                  replace Y := Y.later halKB
                  replace P := P.later halKB
                  replace P' := P'.later halKB
                  replace Q := Q.later halKB
                  replace Q' := Q'.later halKB
                  replace KF := KF.old halKB
                  replace KA := KA.old halKB
                  replace hB := old_trans hB halKB
                  clear halKB
                  have KB := KB_
                  clear KB_
                  obtain ⟨KFa, ⟨KFb, KFc, KFd⟩, -⟩ := id KF
                  obtain ⟨KAa, ⟨KAb, KAc, KAd⟩, -⟩ := id KA
                  obtain ⟨KBa, ⟨KBb, KBc, KBd⟩, -⟩ := id KB
                  obtain ⟨c1, hc1⟩ : ∃ c1, c1 = c3 (pab s1 t1 u1 s xs ys) := ⟨_, rfl⟩
                  rw [← hc1] at cl
                  have r1 : decide (0 < c1) = false := decide_eq_false (by omega)
                  have r2 : (c1 == 0) = (lo == hi) := by
                    rcases cl with ⟨h1, h2⟩ | ⟨h1, h2⟩
                    · rw [h1, show (lo == hi) = false from beq_eq_false_iff_ne.2 h2]; rfl
                    · rw [h1, h2]; simp
                  have CM1 := hd (fun a b la lb ca cb c d lc ld cc cd w x1 x2 x3 x4 => osCmp g1.1 hf.out hc1.symm a b la lb ca cb c d lc ld cc cd w x1 x2 x3 x4)
                  clear hc1 cl
                  obtain ⟨c2, hc2⟩ : ∃ c2, c2 = c3 (pab s xs ys s2 t2 u2) := ⟨_, rfl⟩
                  rw [← hc2] at ch
                  have r3 : decide (0 < c2) = false := decide_eq_false (by omega)
                  have CM2 := hd (fun a b la lb ca cb c d lc ld cc cd w x1 x2 x3 x4 => osCmp hf.out g2.1 hc2.symm a b la lb ca cb c d lc ld cc cd w x1 x2 x3 x4)
                  clear hc2 ch
                  clear q1 q2 q3 q4 q5 q6 n1 n2 nw hnl a1 a4 a5 a6
                  replace hlo := hd hlo
                  replace hhi := hd hhi
                  replace a2 := hd a2
                  replace a3 := hd a3
                  replace g1 := hd g1
                  replace g2 := hd g2
                  go_wp2_with fail
                  refine (CM1.out _ _ _ _ _ _ _ _ _ _ _ _ _ P.inI P'.inI X.inI Y.inI).mono ?_
                  rintro e w9 ⟨rfl, hb9⟩
                  clear KFa KFb KFc KFd KAa KAb KAc KAd KBa KBb KBc KBd
                  replace X := X.later hb9
                  replace Y := Y.later hb9
                  replace P := P.later hb9
                  replace P' := P'.later hb9
                  replace Q := Q.later hb9
                  replace Q' := Q'.later hb9
                  replace KF := KF.old hb9
                  replace KA := KA.old hb9
                  replace KB := KB.old hb9
                  replace hB := old_trans hB hb9
                  clear hb9
                  obtain ⟨KFa, ⟨KFb, KFc, KFd⟩, -⟩ := id KF
                  obtain ⟨KAa, ⟨KAb, KAc, KAd⟩, -⟩ := id KA
                  obtain ⟨KBa, ⟨KBb, KBc, KBd⟩, -⟩ := id KB
                  go_wp2_with fail
                  refine (CM2.out _ _ _ _ _ _ _ _ _ _ _ _ _ X.inI Y.inI Q.inI Q'.inI).mono ?_
                  rintro e w10 ⟨rfl, hb10⟩
                  clear KFa KFb KFc KFd KAa KAb KAc KAd KBa KBb KBc KBd
                  replace X := X.later hb10
                  replace Y := Y.later hb10
                  replace P := P.later hb10
                  replace P' := P'.later hb10
                  replace Q := Q.later hb10
                  replace Q' := Q'.later hb10
                  replace KF := KF.old hb10
                  replace KA := KA.old hb10
                  replace KB := KB.old hb10
                  replace hB := old_trans hB hb10
                  clear hb10
                  obtain ⟨KFa, ⟨KFb, KFc, KFd⟩, -⟩ := id KF
                  obtain ⟨KAa, ⟨KAb, KAc, KAd⟩, -⟩ := id KA
                  obtain ⟨KBa, ⟨KBb, KBc, KBd⟩, -⟩ := id KB
                  go_wp2_with fail
                  refine (CM1.out _ _ _ _ _ _ _ _ _ _ _ _ _ P.inI P'.inI X.inI Y.inI).mono ?_
                  rintro e w11 ⟨rfl, hb11⟩
                  clear KFa KFb KFc KFd KAa KAb KAc KAd KBa KBb KBc KBd
                  replace X := X.later hb11
                  replace Y := Y.later hb11
                  replace P := P.later hb11
                  replace P' := P'.later hb11
                  replace Q := Q.later hb11
                  replace Q' := Q'.later hb11
                  replace KF := KF.old hb11
                  replace KA := KA.old hb11
                  replace KB := KB.old hb11
                  replace hB := old_trans hB hb11
                  clear hb11
                  obtain ⟨KFa, ⟨KFb, KFc, KFd⟩, -⟩ := id KF
                  obtain ⟨KAa, ⟨KAb, KAc, KAd⟩, -⟩ := id KA
                  obtain ⟨KBa, ⟨KBb, KBc, KBd⟩, -⟩ := id KB
                  clear CM1 CM2
                  obtain ⟨b1, sp, tp, up, hp, SB1⟩ := oSubS hf.out g1.out.1
                  obtain ⟨b2, sq, tq, uq, hq, SB2⟩ := oSubS g2.out.1 hf.out
                  replace SB1 := hd SB1
                  replace SB2 := hd SB2
                  replace hp := hd hp
                  replace hq := hd hq
                  go_wp2_with fail
                  refine (SB1.out _ _ _ _ _ _ _ _ _ _ _ _ _ X.inI Y.inI P.inI P'.inI).mono ?_
                  rintro e w12 ⟨⟨avU, cvU, avU', cvU', rfl, M, M'⟩, hb12⟩
                  clear KFa KFb KFc KFd KAa KAb KAc KAd KBa KBb KBc KBd
                  replace X := X.later hb12
                  replace Y := Y.later hb12
                  replace P := P.later hb12
                  replace P' := P'.later hb12
                  replace Q := Q.later hb12
                  replace Q' := Q'.later hb12
                  replace KF := KF.old hb12
                  replace KA := KA.old hb12
                  replace KB := KB.old hb12
                  replace hB := old_trans hB hb12
                  clear hb12
                  obtain ⟨KFa, ⟨KFb, KFc, KFd⟩, -⟩ := id KF
                  obtain ⟨KAa, ⟨KAb, KAc, KAd⟩, -⟩ := id KA
                  obtain ⟨KBa, ⟨KBb, KBc, KBd⟩, -⟩ := id KB
                  clear SB1 r1 r2 r3
                  clear KFa KFb KFc KFd KAa KAb KAc KAd KBa KBb KBc KBd
                  have KU_ := Cel3.new w12 (.bool sp) (.slice avU tp.length cvU) (.slice avU' up.length cvU') 25
                  have halKU : Below w12.heap.size w12 (w12.alloc (.cells #[.bool sp, .slice avU tp.length cvU, .slice avU' up.length cvU'] 25)) := old_alloc (Below.refl _ _) _
                  replace X := X.later halKU
                  replace Y := Y.later halKU
                  replace P := P.later halKU
                  replace P' := P'.later halKU
                  replace Q := Q.later halKU
                  replace Q' := Q'.later halKU
                  replace M := M.later halKU
                  replace M' := M'.later halKU
                  replace KF := KF.old halKU
                  replace KA := KA.old halKU
                  replace KB := KB.old halKU
                  replace hB := old_trans hB halKU
                  clear halKU
                  have KU := KU_
                  clear KU_
                  obtain ⟨KFa, ⟨KFb, KFc, KFd⟩, -⟩ := id KF
                  obtain ⟨KAa, ⟨KAb, KAc, KAd⟩, -⟩ := id KA
                  obtain ⟨KBa, ⟨KBb, KBc, KBd⟩, -⟩ := id KB
                  obtain ⟨KUa, ⟨KUb, KUc, KUd⟩, -⟩ := id KU
                  go_wp2_with fail
                  refine (SB2.out _ _ _ _ _ _ _ _ _ _ _ _ _ Q.inI Q'.inI X.inI Y.inI).mono ?_
                  rintro e w13 ⟨⟨avV, cvV, avV', cvV', rfl, N, N'⟩, hb13⟩
                  clear KFa KFb KFc KFd KAa KAb KAc KAd KBa KBb KBc KBd KUa KUb KUc KUd
                  replace X := X.later hb13
                  replace Y := Y.later hb13
                  replace P := P.later hb13
                  replace P' := P'.later hb13
                  replace Q := Q.later hb13
                  replace Q' := Q'.later hb13
                  replace M := M.later hb13
                  replace M' := M'.later hb13
                  replace KF := KF.old hb13
                  replace KA := KA.old hb13
                  replace KB := KB.old hb13
                  replace KU := KU.old hb13
                  replace hB := old_trans hB hb13
                  clear hb13
                  obtain ⟨KFa, ⟨KFb, KFc, KFd⟩, -⟩ := id KF
                  obtain ⟨KAa, ⟨KAb, KAc, KAd⟩, -⟩ := id KA
                  obtain ⟨KBa, ⟨KBb, KBc, KBd⟩, -⟩ := id KB
                  obtain ⟨KUa, ⟨KUb, KUc, KUd⟩, -⟩ := id KU
                  clear SB2
                  clear KFa KFb KFc KFd KAa KAb KAc KAd KBa KBb KBc KBd KUa KUb KUc KUd
                  have KV_ := Cel3.new w13 (.bool sq) (.slice avV tq.length cvV) (.slice avV' uq.length cvV') 25
                  have halKV : Below w13.heap.size w13 (w13.alloc (.cells #[.bool sq, .slice avV tq.length cvV, .slice avV' uq.length cvV'] 25)) := old_alloc (Below.refl _ _) _
                  replace X := X.later halKV
                  replace Y := Y.later halKV
                  replace P := P.later halKV
                  replace P' := P'.later halKV
                  replace Q := Q.later halKV
                  replace Q' := Q'.later halKV
                  replace M := M.later halKV
                  replace M' := M'.later halKV
                  replace N := N.later halKV
                  replace N' := N'.later halKV
                  replace KF := KF.old halKV
                  replace KA := KA.old halKV
                  replace KB := KB.old halKV
                  replace KU := KU.old halKV
                  replace hB := old_trans hB halKV
                  clear halKV
                  have KV := KV_
                  clear KV_
                  obtain ⟨KFa, ⟨KFb, KFc, KFd⟩, -⟩ := id KF
                  obtain ⟨KAa, ⟨KAb, KAc, KAd⟩, -⟩ := id KA
                  obtain ⟨KBa, ⟨KBb, KBc, KBd⟩, -⟩ := id KB
                  obtain ⟨KUa, ⟨KUb, KUc, KUd⟩, -⟩ := id KU
                  obtain ⟨KVa, ⟨KVb, KVc, KVd⟩, -⟩ := id KV
                  cases b1
                  case false =>
                    as_aux_lemma =>
                      go_wp2
                      go_ret
                      exact ⟨rfl, hB⟩
                  cases b2
                  case false =>
                    as_aux_lemma =>
                      go_wp2
                      go_ret
                      exact ⟨rfl, hB⟩
                  have hp := hp.out rfl
                  have hq := hq.out rfl
                  have fi := FI.out s1 s2 t1 u1 t2 u2 hlo.out hhi.out g1.out g2.out sp sq tp up tq uq hp hq
                  obtain ⟨c, hc⟩ : ∃ c, c = c3 (pab sp tp up sq tq uq) := ⟨_, rfl⟩
                  rw [← hc] at fi
                  have CM3 := hd (fun a b la lb ca cb c' d lc ld cc cd w x1 x2 x3 x4 => osCmp hp.1 hq.1 hc.symm a b la lb ca cb c' d lc ld cc cd w x1 x2 x3 x4)
                  clear hc hp hq FI hlo hhi g1 g2 a2 a3
                  rcases fi with ⟨rfl, hn⟩ | ⟨rfl, hn⟩ | ⟨rfl, hne, hev⟩ | ⟨rfl, heq, hn⟩
                  · as_aux_lemma =>
                      subst hn
                      skip
                      go_wp2_with fail
                      refine (CM3.out _ _ _ _ _ _ _ _ _ _ _ _ _ M.inI M'.inI N.inI N'.inI).mono ?_
                      rintro e w14 ⟨rfl, hb14⟩
                      clear KFa KFb KFc KFd KAa KAb KAc KAd KBa KBb KBc KBd KUa KUb KUc KUd KVa KVb KVc KVd
                      replace X := X.later hb14
                      replace Y := Y.later hb14
                      replace P := P.later hb14
                      replace P' := P'.later hb14
                      replace Q := Q.later hb14
                      replace Q' := Q'.later hb14
                      replace M := M.later hb14
                      replace M' := M'.later hb14
                      replace N := N.later hb14
                      replace N' := N'.later hb14
                      replace KF := KF.old hb14
                      replace KA := KA.old hb14
                      replace KB := KB.old hb14
                      replace KU := KU.old hb14
                      replace KV := KV.old hb14
                      replace hB := old_trans hB hb14
                      clear hb14
                      obtain ⟨KFa, ⟨KFb, KFc, KFd⟩, -⟩ := id KF
                      obtain ⟨KAa, ⟨KAb, KAc, KAd⟩, -⟩ := id KA
                      obtain ⟨KBa, ⟨KBb, KBc, KBd⟩, -⟩ := id KB
                      obtain ⟨KUa, ⟨KUb, KUc, KUd⟩, -⟩ := id KU
                      obtain ⟨KVa, ⟨KVb, KVc, KVd⟩, -⟩ := id KV
                      clear CM3
                      go_wp2
                      go_ret
                      exact ⟨rfl, hB⟩
                  · as_aux_lemma =>
                      subst hn
                      by_cases e2 : n = lo
                      · as_aux_lemma =>
                          subst e2
                          skip
                          go_wp2_with fail
                          refine (CM3.out _ _ _ _ _ _ _ _ _ _ _ _ _ M.inI M'.inI N.inI N'.inI).mono ?_
                          rintro e w14 ⟨rfl, hb14⟩
                          clear KFa KFb KFc KFd KAa KAb KAc KAd KBa KBb KBc KBd KUa KUb KUc KUd KVa KVb KVc KVd
                          replace X := X.later hb14
                          replace Y := Y.later hb14
                          replace P := P.later hb14
                          replace P' := P'.later hb14
                          replace Q := Q.later hb14
                          replace Q' := Q'.later hb14
                          replace M := M.later hb14
                          replace M' := M'.later hb14
                          replace N := N.later hb14
                          replace N' := N'.later hb14
                          replace KF := KF.old hb14
                          replace KA := KA.old hb14
                          replace KB := KB.old hb14
                          replace KU := KU.old hb14
                          replace KV := KV.old hb14
                          replace hB := old_trans hB hb14
                          clear hb14
                          obtain ⟨KFa, ⟨KFb, KFc, KFd⟩, -⟩ := id KF
                          obtain ⟨KAa, ⟨KAb, KAc, KAd⟩, -⟩ := id KA
                          obtain ⟨KBa, ⟨KBb, KBc, KBd⟩, -⟩ := id KB
                          obtain ⟨KUa, ⟨KUb, KUc, KUd⟩, -⟩ := id KU
                          obtain ⟨KVa, ⟨KVb, KVc, KVd⟩, -⟩ := id KV
                          clear CM3
                          go_wp2
                          go_ret
                          exact ⟨rfl, hB⟩
                      · as_aux_lemma =>
                          have e3 : (n == lo) = false := beq_eq_false_iff_ne.2 e2
                          skip
                          go_wp2_with fail
                          refine (CM3.out _ _ _ _ _ _ _ _ _ _ _ _ _ M.inI M'.inI N.inI N'.inI).mono ?_
                          rintro e w14 ⟨rfl, hb14⟩
                          clear KFa KFb KFc KFd KAa KAb KAc KAd KBa KBb KBc KBd KUa KUb KUc KUd KVa KVb KVc KVd
                          replace X := X.later hb14
                          replace Y := Y.later hb14
                          replace P := P.later hb14
                          replace P' := P'.later hb14
                          replace Q := Q.later hb14
                          replace Q' := Q'.later hb14
                          replace M := M.later hb14
                          replace M' := M'.later hb14
                          replace N := N.later hb14
                          replace N' := N'.later hb14
                          replace KF := KF.old hb14
                          replace KA := KA.old hb14
                          replace KB := KB.old hb14
                          replace KU := KU.old hb14
                          replace KV := KV.old hb14
                          replace hB := old_trans hB hb14
                          clear hb14
                          obtain ⟨KFa, ⟨KFb, KFc, KFd⟩, -⟩ := id KF
                          obtain ⟨KAa, ⟨KAb, KAc, KAd⟩, -⟩ := id KA
                          obtain ⟨KBa, ⟨KBb, KBc, KBd⟩, -⟩ := id KB
                          obtain ⟨KUa, ⟨KUb, KUc, KUd⟩, -⟩ := id KU
                          obtain ⟨KVa, ⟨KVb, KVc, KVd⟩, -⟩ := id KV
                          clear CM3
                          go_wp2
                          go_ret
                          exact ⟨rfl, hB⟩
                  · as_aux_lemma =>
                      have e1 : (lo == hi) = false := beq_eq_false_iff_ne.2 hne
                      have e2 : (Int.tmod n 2 == 0) = true := by rw [hev]; rfl
                      go_wp2_with fail
                      refine (CM3.out _ _ _ _ _ _ _ _ _ _ _ _ _ M.inI M'.inI N.inI N'.inI).mono ?_
                      rintro e w14 ⟨rfl, hb14⟩
                      clear KFa KFb KFc KFd KAa KAb KAc KAd KBa KBb KBc KBd KUa KUb KUc KUd KVa KVb KVc KVd
                      replace X := X.later hb14
                      replace Y := Y.later hb14
                      replace P := P.later hb14
                      replace P' := P'.later hb14
                      replace Q := Q.later hb14
                      replace Q' := Q'.later hb14
                      replace M := M.later hb14
                      replace M' := M'.later hb14
                      replace N := N.later hb14
                      replace N' := N'.later hb14
                      replace KF := KF.old hb14
                      replace KA := KA.old hb14
                      replace KB := KB.old hb14
                      replace KU := KU.old hb14
                      replace KV := KV.old hb14
                      replace hB := old_trans hB hb14
                      clear hb14
                      obtain ⟨KFa, ⟨KFb, KFc, KFd⟩, -⟩ := id KF
                      obtain ⟨KAa, ⟨KAb, KAc, KAd⟩, -⟩ := id KA
                      obtain ⟨KBa, ⟨KBb, KBc, KBd⟩, -⟩ := id KB
                      obtain ⟨KUa, ⟨KUb, KUc, KUd⟩, -⟩ := id KU
                      obtain ⟨KVa, ⟨KVb, KVc, KVd⟩, -⟩ := id KV
                      clear CM3
                      go_wp2
                      go_ret
                      exact ⟨rfl, hB⟩
                  · as_aux_lemma =>
                      subst heq
                      subst hn
                      skip
                      go_wp2_with fail
                      refine (CM3.out _ _ _ _ _ _ _ _ _ _ _ _ _ M.inI M'.inI N.inI N'.inI).mono ?_
                      rintro e w14 ⟨rfl, hb14⟩
                      clear KFa KFb KFc KFd KAa KAb KAc KAd KBa KBb KBc KBd KUa KUb KUc KUd KVa KVb KVc KVd
                      replace X := X.later hb14
                      replace Y := Y.later hb14
                      replace P := P.later hb14
                      replace P' := P'.later hb14
                      replace Q := Q.later hb14
                      replace Q' := Q'.later hb14
                      replace M := M.later hb14
                      replace M' := M'.later hb14
                      replace N := N.later hb14
                      replace N' := N'.later hb14
                      replace KF := KF.old hb14
                      replace KA := KA.old hb14
                      replace KB := KB.old hb14
                      replace KU := KU.old hb14
                      replace KV := KV.old hb14
                      replace hB := old_trans hB hb14
                      clear hb14
                      obtain ⟨KFa, ⟨KFb, KFc, KFd⟩, -⟩ := id KF
                      obtain ⟨KAa, ⟨KAb, KAc, KAd⟩, -⟩ := id KA
                      obtain ⟨KBa, ⟨KBb, KBc, KBd⟩, -⟩ := id KB
                      obtain ⟨KUa, ⟨KUb, KUc, KUd⟩, -⟩ := id KU
                      obtain ⟨KVa, ⟨KVb, KVc, KVd⟩, -⟩ := id KV
                      clear CM3
                      go_wp2
                      go_ret
                      exact ⟨rfl, hB⟩
          case neg =>
            as_aux_lemma =>
              have hhi' : Hid (hi = 2139095040) := by show _ = _; omega
              have q6 : decide (hi < 2139095040) = false := decide_eq_false hhi
              clear KFa KFb KFc KFd
              obtain ⟨KFa, ⟨KFb, KFc, KFd⟩, -⟩ := id KF
              go_upto_region 13 with fail
              go_cut [116] (fun x wx => x = .bool false ∧ w6 = wx)
              case first =>
                as_aux_lemma =>
                  go_wp2
                  go_meet
                  exact ⟨by first | rfl | (simp; done) | (simp; omega), rfl⟩
              case rest =>
                as_aux_lemma =>
                  obtain ⟨rfl, rfl⟩ := hcut
                  obtain ⟨s1, t1, u1, g1, -, I1⟩ := made32 hlo a2
                  replace I1 := hd I1
                  have cl := CL.out s1 t1 u1 hlo g1
                  clear CL
                  go_wp2_with fail
                  refine (I1.out _ (TT.out _ hB)).mono ?_
                  rintro e w7 ⟨⟨avA, cvA, avA', cvA', rfl, P, P'⟩, hb7⟩
                  clear KFa KFb KFc KFd
                  replace X := X.later hb7
                  replace Y := Y.later hb7
                  replace KF := KF.old hb7
                  replace hB := old_trans hB hb7
                  clear hb7
                  obtain ⟨KFa, ⟨KFb, KFc, KFd⟩, -⟩ := id KF
                  clear I1
                  clear KFa KFb KFc KFd
                  have KA_ := Cel3.new w7 (.bool s1) (.slice avA t1.length cvA) (.slice avA' u1.length cvA') 25
                  have halKA : Below w7.heap.size w7 (w7.alloc (.cells #[.bool s1, .slice avA t1.length cvA, .slice avA' u1.length cvA'] 25)) := old_alloc (Below.refl _ _) _
                  replace X := X.later halKA
                  replace Y := Y.later halKA
                  replace P := P.later halKA
                  replace P' := P'.later halKA
                  replace KF := KF.old halKA
                  replace hB := old_trans hB halKA
                  clear halKA
                  have KA := KA_
                  clear KA_
                  obtain ⟨KFa, ⟨KFb, KFc, KFd⟩, -⟩ := id KF
                  obtain ⟨KAa, ⟨KAb, KAc, KAd⟩, -⟩ := id KA
                  have NO := hd (noFF 32 hi (fun q => absurd q.2 (by omega)) (fun q => absurd q.1 (by decide))).2
                  go_wp2_with fail
                  refine (NO.out _ (TT.out _ hB)).mono ?_
                  rintro e w8 ⟨⟨avB, cvB, avB', cvB', rfl⟩, hb8⟩
                  clear KFa KFb KFc KFd KAa KAb KAc KAd
                  replace X := X.later hb8
                  replace Y := Y.later hb8
                  replace P := P.later hb8
                  replace P' := P'.later hb8
                  replace KF := KF.old hb8
                  replace KA := KA.old hb8
                  replace hB := old_trans hB hb8
                  clear hb8
                  obtain ⟨KFa, ⟨KFb, KFc, KFd⟩, -⟩ := id KF
                  obtain ⟨KAa, ⟨KAb, KAc, KAd⟩, -⟩ := id KA
                  clear NO
                  clear KFa KFb KFc KFd KAa KAb KAc KAd
                  have KB_ := Cel3.new w8 (.bool false) (.slice avB 0 cvB) (.slice avB' 0 cvB') 25
                  have halKB : Below w8.heap.size w8 (w8.alloc (.cells #[.bool false, .slice avB 0 cvB, .slice avB' 0 cvB'] 25)) := old_alloc (Below.refl _ _) _
                  replace X := X.later halKB
                  replace Y := Y.later halKB
                  replace P := P.later halKB
                  replace P' := P'.later halKB
                  replace KF := KF.old halKB
                  replace KA := KA.old halKB
                  replace hB := old_trans hB halKB
                  clear halKB
                  have KB := KB_
                  clear KB_
                  obtain ⟨KFa, ⟨KFb, KFc, KFd⟩, -⟩ := id KF
                  obtain ⟨KAa, ⟨KAb, KAc, KAd⟩, -⟩ := id KA
                  obtain ⟨KBa, ⟨KBb, KBc, KBd⟩, -⟩ := id KB
                  obtain ⟨c1, hc1⟩ : ∃ c1, c1 = c3 (pab s1 t1 u1 s xs ys) := ⟨_, rfl⟩
                  rw [← hc1] at cl
                  have r1 : decide (0 < c1) = false := decide_eq_false (by omega)
                  have r2 : (c1 == 0) = (lo == hi) := by
                    rcases cl with ⟨h1, h2⟩ | ⟨h1, h2⟩
                    · rw [h1, show (lo == hi) = false from beq_eq_false_iff_ne.2 h2]; rfl
                    · rw [h1, h2]; simp
                  have CM1 := hd (fun a b la lb ca cb c d lc ld cc cd w x1 x2 x3 x4 => osCmp g1.1 hf.out hc1.symm a b la lb ca cb c d lc ld cc cd w x1 x2 x3 x4)
                  clear hc1 cl
                  clear q1 q2 q3 q4 q5 q6 n1 n2 nw hnl a1 a4 a5 a6 CH FI hlo hhi hhi' a2 a3 g1
                  go_wp2_with fail
                  refine (CM1.out _ _ _ _ _ _ _ _ _ _ _ _ _ P.inI P'.inI X.inI Y.inI).mono ?_
                  rintro e w9 ⟨rfl, hb9⟩
                  clear KFa KFb KFc KFd KAa KAb KAc KAd KBa KBb KBc KBd
                  replace X := X.later hb9
                  replace Y := Y.later hb9
                  replace P := P.later hb9
                  replace P' := P'.later hb9
                  replace KF := KF.old hb9
                  replace KA := KA.old hb9
                  replace KB := KB.old hb9
                  replace hB := old_trans hB hb9
                  clear hb9
                  obtain ⟨KFa, ⟨KFb, KFc, KFd⟩, -⟩ := id KF
                  obtain ⟨KAa, ⟨KAb, KAc, KAd⟩, -⟩ := id KA
                  obtain ⟨KBa, ⟨KBb, KBc, KBd⟩, -⟩ := id KB
                  go_wp2_with fail
                  refine (CM1.out _ _ _ _ _ _ _ _ _ _ _ _ _ P.inI P'.inI X.inI Y.inI).mono ?_
                  rintro e w10 ⟨rfl, hb10⟩
                  clear KFa KFb KFc KFd KAa KAb KAc KAd KBa KBb KBc KBd
                  replace X := X.later hb10
                  replace Y := Y.later hb10
                  replace P := P.later hb10
                  replace P' := P'.later hb10
                  replace KF := KF.old hb10
                  replace KA := KA.old hb10
                  replace KB := KB.old hb10
                  replace hB := old_trans hB hb10
                  clear hb10
                  obtain ⟨KFa, ⟨KFb, KFc, KFd⟩, -⟩ := id KF
                  obtain ⟨KAa, ⟨KAb, KAc, KAd⟩, -⟩ := id KA
                  obtain ⟨KBa, ⟨KBb, KBc, KBd⟩, -⟩ := id KB
                  clear CM1
                  go_wp2
                  go_ret
                  exact ⟨rfl, hB⟩
      case neg =>
        as_aux_lemma =>
          have hlo' : Hid (lo = -2139095040) := by show _ = _; omega
          have hhi : hi < 2139095040 := by omega
          have q5 : decide (-2139095040 < lo) = false := decide_eq_false hlo
          have q6 : decide (hi < 2139095040) = true := decide_eq_true hhi
          clear KFa KFb KFc KFd
          obtain ⟨KFa, ⟨KFb, KFc, KFd⟩, -⟩ := id KF
          go_upto_region 13 with fail
          go_cut [116] (fun x wx => x = .bool false ∧ w6 = wx)
          case first =>
            as_aux_lemma =>
              go_wp2
              go_meet
              exact ⟨by first | rfl | (simp; done) | (simp; omega), rfl⟩
          case rest =>
            as_aux_lemma =>
              obtain ⟨rfl, rfl⟩ := hcut
              have NO := hd (noFF 32 lo (fun q => absurd q.2 (by omega)) (fun q => absurd q.1 (by decide))).2
              go_wp2_with fail
              refine (NO.out _ (TT.out _ hB)).mono ?_
              rintro e w7 ⟨⟨avA, cvA, avA', cvA', rfl⟩, hb7⟩
              clear KFa KFb KFc KFd
              replace X := X.later hb7
              replace Y := Y.later hb7
              replace KF := KF.old hb7
              replace hB := old_trans hB hb7
              clear hb7
              obtain ⟨KFa, ⟨KFb, KFc, KFd⟩, -⟩ := id KF
              clear NO
              clear KFa KFb KFc KFd
              have KA_ := Cel3.new w7 (.bool false) (.slice avA 0 cvA) (.slice avA' 0 cvA') 25
              have halKA : Below w7.heap.size w7 (w7.alloc (.cells #[.bool false, .slice avA 0 cvA, .slice avA' 0 cvA'] 25)) := old_alloc (Below.refl _ _) _
              replace X := X.later halKA
              replace Y := Y.later halKA
              replace KF := KF.old halKA
              replace hB := old_trans hB halKA
              clear halKA
              have KA := KA_
              clear KA_
              obtain ⟨KFa, ⟨KFb, KFc, KFd⟩, -⟩ := id KF
              obtain ⟨KAa, ⟨KAb, KAc, KAd⟩, -⟩ := id KA
              obtain ⟨s2, t2, u2, g2, -, I2⟩ := made32 a3 hhi
              replace I2 := hd I2
              have ch := CH.out s2 t2 u2 hhi g2
              clear CH
              go_wp2_with fail
              refine (I2.out _ (TT.out _ hB)).mono ?_
              rintro e w8 ⟨⟨avB, cvB, avB', cvB', rfl, Q, Q'⟩, hb8⟩
              clear KFa KFb KFc KFd KAa KAb KAc KAd
              replace X := X.later hb8
              replace Y := Y.later hb8
              replace KF := KF.old hb8
              replace KA := KA.old hb8
              replace hB := old_trans hB hb8
              clear hb8
              obtain ⟨KFa, ⟨KFb, KFc, KFd⟩, -⟩ := id KF
              obtain ⟨KAa, ⟨KAb, KAc, KAd⟩, -⟩ := id KA
              clear I2
              clear KFa KFb KFc KFd KAa KAb KAc KAd
              have KB_ := Cel3.new w8 (.bool s2) (.slice avB t2.length cvB) (.slice avB' u2.length cvB') 25
              have halKB : Below w8.heap.size w8 (w8.alloc (.cells #[.bool s2, .slice avB t2.length cvB, .slice avB' u2.length cvB'] 25)) := old_alloc (Below.refl _ _) _
              replace X := X.later halKB
              replace Y := Y.later halKB
              replace Q := Q.later halKB
              replace Q' := Q'.later halKB
              replace KF := KF.old halKB
              replace KA := KA.old halKB
              replace hB := old_trans hB halKB
              clear halKB
              have KB := KB_
              clear KB_
              obtain ⟨KFa, ⟨KFb, KFc, KFd⟩, -⟩ := id KF
              obtain ⟨KAa, ⟨KAb, KAc, KAd⟩, -⟩ := id KA
              obtain ⟨KBa, ⟨KBb, KBc, KBd⟩, -⟩ := id KB
              obtain ⟨c2, hc2⟩ : ∃ c2, c2 = c3 (pab s xs ys s2 t2 u2) := ⟨_, rfl⟩
              rw [← hc2] at ch
              have r3 : decide (0 < c2) = false := decide_eq_false (by omega)
              have CM2 := hd (fun a b la lb ca cb c d lc ld cc cd w x1 x2 x3 x4 => osCmp hf.out g2.1 hc2.symm a b la lb ca cb c d lc ld cc cd w x1 x2 x3 x4)
              clear hc2 ch
              clear q1 q2 q3 q4 q5 q6 n1 n2 nw hnl a1 a4 a5 a6 CL FI hlo hhi hlo' a2 a3 g2
              go_wp2_with fail
              refine (CM2.out _ _ _ _ _ _ _ _ _ _ _ _ _ X.inI Y.inI Q.inI Q'.inI).mono ?_
              rintro e w9 ⟨rfl, hb9⟩
              clear KFa KFb KFc KFd KAa KAb KAc KAd KBa KBb KBc KBd
              replace X := X.later hb9
              replace Y := Y.later hb9
              replace Q := Q.later hb9
              replace Q' := Q'.later hb9
              replace KF := KF.old hb9
              replace KA := KA.old hb9
              replace KB := KB.old hb9
              replace hB := old_trans hB hb9
              clear hb9
              obtain ⟨KFa, ⟨KFb, KFc, KFd⟩, -⟩ := id KF
              obtain ⟨KAa, ⟨KAb, KAc, KAd⟩, -⟩ := id KA
              obtain ⟨KBa, ⟨KBb, KBc, KBd⟩, -⟩ := id KB
              clear CM2
              go_wp2
              go_ret
              exact ⟨rfl, hB⟩
  by_cases h64 : wd = 64
  case pos =>
    as_aux_lemma =>
      subst h64
      have hpf : pfOk 64 s xs ys = true := by unfold pfOk; rw [hf]; rfl
      obtain ⟨⟨a1, a2⟩, ⟨a3, a4⟩, a5, a6⟩ := around64 hf
      obtain ⟨n1, n2⟩ := near64R hf
      have hnl := fun h1 h2 => nrIs64 h1 h2 a2 a3
      have CL := hd (fun (s1 : Bool) (t1 u1 : List Int) h1 g => cmpLo64 (s1 := s1) (t1 := t1) (u1 := u1) hf h1 g)
      have CH := hd (fun (s2 : Bool) (t2 u2 : List Int) h2 g => cmpHi64 (s2 := s2) (t2 := t2) (u2 := u2) hf h2 g)
      have FI := hd (fun (s1 s2 : Bool) (t1 u1 t2 u2 : List Int) h1 h2 g1 g2 (sp sq : Bool) (tp up tq uq : List Int) hp hq => fin64 (s1 := s1) (s2 := s2) (t1 := t1) (u1 := u1) (t2 := t2) (u2 := u2) hf h1 h2 g1 g2 (sp := sp) (sq := sq) (tp := tp) (up := up) (tq := tq) (uq := uq) hp hq)
      have eL : pfL 64 s xs ys = arL64 s (val xs) (val ys) := by unfold pfL; rw [hpf]; rfl
      have eH : pfH 64 s xs ys = arH64 s (val xs) (val ys) := by unfold pfH; rw [hpf]; rfl
      have eN : nrF 64 s xs ys = nr64 s (val xs) (val ys) := by unfold nrF; rw [hpf]; rfl
      have DN := hd (fun a b la lb ca cb w x y z => dnOf hpf eL a b la lb ca cb w x y z)
      have UP := hd (fun a b la lb ca cb w x y z => upOf hpf eH a b la lb ca cb w x y z)
      have NR := hd (fun a b la lb ca cb w x y z => nrOf hpf eN a b la lb ca cb w x y z)
      have SD := hd (fun a b la lb ca cb w x y => sdnOf hpf eL a b la lb ca cb w x y)
      clear hpf eL eH eN
      generalize arL64 s (val xs) (val ys) = lo at *
      generalize arH64 s (val xs) (val ys) = hi at *
      generalize nr64 s (val xs) (val ys) = n at *
      have q1 : decide (hi < lo) = false := decide_eq_false (by omega)
      have q2 : decide (1 < hi - lo) = false := decide_eq_false (by omega)
      have q3 : decide (n ≤ -9218868437227405312) = false := decide_eq_false (by omega)
      have q4 : decide (9218868437227405312 ≤ n) = false := decide_eq_false (by omega)
      have nw : -9223372036854775808 ≤ hi - lo ∧ hi - lo ≤ 9223372036854775807 := by omega
      replace hf := hd hf
      have KF_ := Cel3.new w1 (.bool s) (.slice avF xs.length cvF) (.slice avF' ys.length cvF') 25
      have halKF : Below w1.heap.size w1 (w1.alloc (.cells #[.bool s, .slice avF xs.length cvF, .slice avF' ys.length cvF'] 25)) := old_alloc (Below.refl _ _) _
      replace X := X.later halKF
      replace Y := Y.later halKF
      replace hB := old_trans hB halKF
      clear halKF
      have KF := KF_
      clear KF_
      obtain ⟨KFa, ⟨KFb, KFc, KFd⟩, -⟩ := id KF
      go_wp2_with fail
      refine (DN.out _ _ _ _ _ _ _ X.inI Y.inI (TT.out _ hB)).mono ?_
      rintro e w2 ⟨rfl, hb2⟩
      clear KFa KFb KFc KFd
      replace X := X.later hb2
      replace Y := Y.later hb2
      replace KF := KF.old hb2
      replace hB := old_trans hB hb2
      clear hb2
      obtain ⟨KFa, ⟨KFb, KFc, KFd⟩, -⟩ := id KF
      go_wp2_with fail
      refine (UP.out _ _ _ _ _ _ _ X.inI Y.inI (TT.out _ hB)).mono ?_
      rintro e w3 ⟨rfl, hb3⟩
      clear KFa KFb KFc KFd
      replace X := X.later hb3
      replace Y := Y.later hb3
      replace KF := KF.old hb3
      replace hB := old_trans hB hb3
      clear hb3
      obtain ⟨KFa, ⟨KFb, KFc, KFd⟩, -⟩ := id KF
      go_wp2_with fail
      refine (NR.out _ _ _ _ _ _ _ X.inI Y.inI (TT.out _ hB)).mono ?_
      rintro e w4 ⟨rfl, hb4⟩
      clear KFa KFb KFc KFd
      replace X := X.later hb4
      replace Y := Y.later hb4
      replace KF := KF.old hb4
      replace hB := old_trans hB hb4
      clear hb4
      obtain ⟨KFa, ⟨KFb, KFc, KFd⟩, -⟩ := id KF
      go_wp2_with fail
      refine (SD.out _ _ _ _ _ _ _ X.inI Y.inI).mono ?_
      rintro e w5 ⟨rfl, hb5⟩
      clear KFa KFb KFc KFd
      replace X := X.later hb5
      replace Y := Y.later hb5
      replace KF := KF.old hb5
      replace hB := old_trans hB hb5
      clear hb5
      obtain ⟨KFa, ⟨KFb, KFc, KFd⟩, -⟩ := id KF
      clear DN UP NR SD
      have TP : Hid (∀ w' : World, Calls Tryz.prog 11 #[.int .i64 64] w' fun e w'' => e = .returned (.int .i64 9218868437227405312) ∧ Below w'.heap.size w' w'') := fun w' => iTop 64 w'
      have wt : wrap64 (-9218868437227405312) = -9218868437227405312 := by unfold wrap64; omega
      go_wp2_with fail
      refine (TP.out _).mono ?_
      rintro e w6 ⟨rfl, hb6⟩
      clear KFa KFb KFc KFd
      replace X := X.later hb6
      replace Y := Y.later hb6
      replace KF := KF.old hb6
      replace hB := old_trans hB hb6
      clear hb6
      obtain ⟨KFa, ⟨KFb, KFc, KFd⟩, -⟩ := id KF
      clear TP
      by_cases hlo : -9218868437227405312 < lo
      case pos =>
        as_aux_lemma =>
          have q5 : decide (-9218868437227405312 < lo) = true := decide_eq_true hlo
          by_cases hhi : hi < 9218868437227405312
          case pos =>
            as_aux_lemma =>
              have q6 : decide (hi < 9218868437227405312) = true := decide_eq_true hhi
              clear KFa KFb KFc KFd
              obtain ⟨KFa, ⟨KFb, KFc, KFd⟩, -⟩ := id KF
              go_upto_region 13 with fail
              go_cut [116] (fun x wx => x = .bool false ∧ w6 = wx)
              case first =>
                as_aux_lemma =>
                  have hnn := hnl hlo hhi
                  by_cases hn2 : n = lo
                  · clear hnn
                    subst hn2
                    go_wp2
                    go_meet
                    exact ⟨by first | rfl | (simp; done) | (simp; omega), rfl⟩
                  · have hn3 : n = hi := by
                      rcases hnn with h | h
                      · exact absurd h hn2
                      · exact h
                    have q8 : (n == lo) = false := beq_eq_false_iff_ne.2 hn2
                    clear hnn
                    subst hn3
                    go_wp2
                    go_meet
                    exact ⟨by first | rfl | (simp; done) | (simp; omega), rfl⟩
              case rest =>
                as_aux_lemma =>
                  obtain ⟨rfl, rfl⟩ := hcut
                  obtain ⟨s1, t1, u1, g1, -, I1⟩ := made64 hlo a2
                  replace I1 := hd I1
                  have cl := CL.out s1 t1 u1 hlo g1
                  clear CL
                  go_wp2_with fail
                  refine (I1.out _ (TT.out _ hB)).mono ?_
                  rintro e w7 ⟨⟨avA, cvA, avA', cvA', rfl, P, P'⟩, hb7⟩
                  clear KFa KFb KFc KFd
                  replace X := X.later hb7
                  replace Y := Y.later hb7
                  replace KF := KF.old hb7
                  replace hB := old_trans hB hb7
                  clear hb7
                  obtain ⟨KFa, ⟨KFb, KFc, KFd⟩, -⟩ := id KF
                  clear I1
                  clear KFa KFb KFc KFd
                  have KA_ := Cel3.new w7 (.bool s1) (.slice avA t1.length cvA) (.slice avA' u1.length cvA') 25
                  have halKA : Below w7.heap.size w7 (w7.alloc (.cells #[.bool s1, .slice avA t1.length cvA, .slice avA' u1.length cvA'] 25)) := old_alloc (Below.refl _ _) _
                  replace X := X.later halKA
                  replace Y := Y.later halKA
                  replace P := P.later halKA
                  replace P' := P'.later halKA
                  replace KF := KF.old halKA
                  replace hB := old_trans hB halKA
                  clear halKA
                  have KA := KA_
                  clear KA_
                  obtain ⟨KFa, ⟨KFb, KFc, KFd⟩, -⟩ := id KF
                  obtain ⟨KAa, ⟨KAb, KAc, KAd⟩, -⟩ := id KA
                  obtain ⟨s2, t2, u2, g2, -, I2⟩ := made64 a3 hhi
                  replace I2 := hd I2
                  have ch := CH.out s2 t2 u2 hhi g2
                  clear CH
                  go_wp2_with fail
                  refine (I2.out _ (TT.out _ hB)).mono ?_
                  rintro e w8 ⟨⟨avB, cvB, avB', cvB', rfl, Q, Q'⟩, hb8⟩
                  clear KFa KFb KFc KFd KAa KAb KAc KAd
                  replace X := X.later hb8
                  replace Y := Y.later hb8
                  replace P := P.later hb8
                  replace P' := P'.later hb8
                  replace KF := KF.old hb8
                  replace KA := KA.old hb8
                  replace hB := old_trans hB hb8
                  clear hb8
                  obtain ⟨KFa, ⟨KFb, KFc, KFd⟩, -⟩ := id KF
                  obtain ⟨KAa, ⟨KAb, KAc, KAd⟩, -⟩ := id KA
                  clear I2
                  clear KFa KFb KFc KFd KAa KAb KAc KAd
                  have KB_ := Cel3.new w8 (.bool s2) (.slice avB t2.length cvB) (.slice avB' u2.length cvB') 25
                  have halKB : Below w8.heap.size w8 (w8.alloc (.cells #[.bool s2, .slice avB t2.length cvB, .slice avB' u2.length cvB'] 25)) := old_alloc (Below.refl _ _) _
                  replace X := X.later halKB
                  replace Y := Y.later halKB
                  replace P := P.later halKB
                  replace P' := P'.later halKB
                  replace Q := Q.later halKB
                  replace Q' := Q'.later halKB
                  replace KF := KF.old halKB
                  replace KA := KA.old halKB
                  replace hB := old_trans hB halKB
                  clear halKB
                  have KB := KB_
                  clear KB_
                  obtain ⟨KFa, ⟨KFb, KFc, KFd⟩, -⟩ := id KF
                  obtain ⟨KAa, ⟨KAb, KAc, KAd⟩, -⟩ := id KA
                  obtain ⟨KBa, ⟨KBb, KBc, KBd⟩, -⟩ := id KB
                  obtain ⟨c1, hc1⟩ : ∃ c1, c1 = c3 (pab s1 t1 u1 s xs ys) := ⟨_, rfl⟩
                  rw [← hc1] at cl
                  have r1 : decide (0 < c1) = false := decide_eq_false (by omega)
                  have r2 : (c1 == 0) = (lo == hi) := by
                    rcases cl with ⟨h1, h2⟩ | ⟨h1, h2⟩
                    · rw [h1, show (lo == hi) = false from beq_eq_false_iff_ne.2 h2]; rfl
                    · rw [h1, h2]; simp
                  have CM1 := hd (fun a b la lb ca cb c d lc ld cc cd w x1 x2 x3 x4 => osCmp g1.1 hf.out hc1.symm a b la lb ca cb c d lc ld cc cd w x1 x2 x3 x4)
                  clear hc1 cl
                  obtain ⟨c2, hc2⟩ : ∃ c2, c2 = c3 (pab s xs ys s2 t2 u2) := ⟨_, rfl⟩
                  rw [← hc2] at ch
                  have r3 : decide (0 < c2) = false := decide_eq_false (by omega)
                  have CM2 := hd (fun a b la lb ca cb c d lc ld cc cd w x1 x2 x3 x4 => osCmp hf.out g2.1 hc2.symm a b la lb ca cb c d lc ld cc cd w x1 x2 x3 x4)
                  clear hc2 ch
                  clear q1 q2 q3 q4 q5 q6 n1 n2 nw hnl a1 a4 a5 a6
                  replace hlo := hd hlo
                  replace hhi := hd hhi
                  replace a2 := hd a2
                  replace a3 := hd a3
                  replace g1 := hd g1
                  replace g2 := hd g2
                  go_wp2_with fail
                  refine (CM1.out _ _ _ _ _ _ _ _ _ _ _ _ _ P.inI P'.inI X.inI Y.inI).mono ?_
                  rintro e w9 ⟨rfl, hb9⟩
                  clear KFa KFb KFc KFd KAa KAb KAc KAd KBa KBb KBc KBd
                  replace X := X.later hb9
                  replace Y := Y.later hb9
                  replace P := P.later hb9
                  replace P' := P'.later hb9
                  replace Q := Q.later hb9
                  replace Q' := Q'.later hb9
                  replace KF := KF.old hb9
                  replace KA := KA.old hb9
                  replace KB := KB.old hb9
                  replace hB := old_trans hB hb9
                  clear hb9
                  obtain ⟨KFa, ⟨KFb, KFc, KFd⟩, -⟩ := id KF
                  obtain ⟨KAa, ⟨KAb, KAc, KAd⟩, -⟩ := id KA
                  obtain ⟨KBa, ⟨KBb, KBc, KBd⟩, -⟩ := id KB
                  go_wp2_with fail
                  refine (CM2.out _ _ _ _ _ _ _ _ _ _ _ _ _ X.inI Y.inI Q.inI Q'.inI).mono ?_
                  rintro e w10 ⟨rfl, hb10⟩
                  clear KFa KFb KFc KFd KAa KAb KAc KAd KBa KBb KBc KBd
                  replace X := X.later hb10
                  replace Y := Y.later hb10
                  replace P := P.later hb10
                  replace P' := P'.later hb10
                  replace Q := Q.later hb10
                  replace Q' := Q'.later hb10
                  replace KF := KF.old hb10
                  replace KA := KA.old hb10
                  replace KB := KB.old hb10
                  replace hB := old_trans hB hb10
                  clear hb10
                  obtain ⟨KFa, ⟨KFb, KFc, KFd⟩, -⟩ := id KF
                  obtain ⟨KAa, ⟨KAb, KAc, KAd⟩, -⟩ := id KA
                  obtain ⟨KBa, ⟨KBb, KBc, KBd⟩, -⟩ := id KB
                  go_wp2_with fail
                  refine (CM1.out _ _ _ _ _ _ _ _ _ _ _ _ _ P.inI P'.inI X.inI Y.inI).mono ?_
                  rintro e w11 ⟨rfl, hb11⟩
                  clear KFa KFb KFc KFd KAa KAb KAc KAd KBa KBb KBc KBd
                  replace X := X.later hb11
                  replace Y := Y.later hb11
                  replace P := P.later hb11
                  replace P' := P'.later hb11
                  replace Q := Q.later hb11
                  replace Q' := Q'.later hb11
                  replace KF := KF.old hb11
                  replace KA := KA.old hb11
                  replace KB := KB.old hb11
                  replace hB := old_trans hB hb11
                  clear hb11
                  obtain ⟨KFa, ⟨KFb, KFc, KFd⟩, -⟩ := id KF
                  obtain ⟨KAa, ⟨KAb, KAc, KAd⟩, -⟩ := id KA
                  obtain ⟨KBa, ⟨KBb, KBc, KBd⟩, -⟩ := id KB
                  clear CM1 CM2
                  obtain ⟨b1, sp, tp, up, hp, SB1⟩ := oSubS hf.out g1.out.1
                  obtain ⟨b2, sq, tq, uq, hq, SB2⟩ := oSubS g2.out.1 hf.out
                  replace SB1 := hd SB1
                  replace SB2 := hd SB2
                  replace hp := hd hp
                  replace hq := hd hq
                  go_wp2_with fail
                  refine (SB1.out _ _ _ _ _ _ _ _ _ _ _ _ _ X.inI Y.inI P.inI P'.inI).mono ?_
                  rintro e w12 ⟨⟨avU, cvU, avU', cvU', rfl, M, M'⟩, hb12⟩
                  clear KFa KFb KFc KFd KAa KAb KAc KAd KBa KBb KBc KBd
                  replace X := X.later hb12
                  replace Y := Y.later hb12
                  replace P := P.later hb12
                  replace P' := P'.later hb12
                  replace Q := Q.later hb12
                  replace Q' := Q'.later hb12
                  replace KF := KF.old hb12
                  replace KA := KA.old hb12
                  replace KB := KB.old hb12
                  replace hB := old_trans hB hb12
                  clear hb12
                  obtain ⟨KFa, ⟨KFb, KFc, KFd⟩, -⟩ := id KF
                  obtain ⟨KAa, ⟨KAb, KAc, KAd⟩, -⟩ := id KA
                  obtain ⟨KBa, ⟨KBb, KBc, KBd⟩, -⟩ := id KB
                  clear SB1 r1 r2 r3
                  clear KFa KFb KFc KFd KAa KAb KAc KAd KBa KBb KBc KBd
                  have KU_ := Cel3.new w12 (.bool sp) (.slice avU tp.length cvU) (.slice avU' up.length cvU') 25
                  have halKU : Below w12.heap.size w12 (w12.alloc (.cells #[.bool sp, .slice avU tp.length cvU, .slice avU' up.length cvU'] 25)) := old_alloc (Below.refl _ _) _
                  replace X := X.later halKU
                  replace Y := Y.later halKU
                  replace P := P.later halKU
                  replace P' := P'.later halKU
                  replace Q := Q.later halKU
                  replace Q' := Q'.later halKU
                  replace M := M.later halKU
                  replace M' := M'.later halKU
                  replace KF := KF.old halKU
                  replace KA := KA.old halKU
                  replace KB := KB.old halKU
                  replace hB := old_trans hB halKU
                  clear halKU
                  have KU := KU_
                  clear KU_
                  obtain ⟨KFa, ⟨KFb, KFc, KFd⟩, -⟩ := id KF
                  obtain ⟨KAa, ⟨KAb, KAc, KAd⟩, -⟩ := id KA
                  obtain ⟨KBa, ⟨KBb, KBc, KBd⟩, -⟩ := id KB
                  obtain ⟨KUa, ⟨KUb, KUc, KUd⟩, -⟩ := id KU
                  go_wp2_with fail
                  refine (SB2.out _ _ _ _ _ _ _ _ _ _ _ _ _ Q.inI Q'.inI X.inI Y.inI).mono ?_
                  rintro e w13 ⟨⟨avV, cvV, avV', cvV', rfl, N, N'⟩, hb13⟩
                  clear KFa KFb KFc KFd KAa KAb KAc KAd KBa KBb KBc KBd KUa KUb KUc KUd
                  replace X := X.later hb13
                  replace Y := Y.later hb13
                  replace P := P.later hb13
                  replace P' := P'.later hb13
                  replace Q := Q.later hb13
                  replace Q' := Q'.later hb13
                  replace M := M.later hb13
                  replace M' := M'.later hb13
                  replace KF := KF.old hb13
                  replace KA := KA.old hb13
                  replace KB := KB.old hb13
                  replace KU := KU.old hb13
                  replace hB := old_trans hB hb13
                  clear hb13
                  obtain ⟨KFa, ⟨KFb, KFc, KFd⟩, -⟩ := id KF
                  obtain ⟨KAa, ⟨KAb, KAc, KAd⟩, -⟩ := id KA
                  obtain ⟨KBa, ⟨KBb, KBc, KBd⟩, -⟩ := id KB
                  obtain ⟨KUa, ⟨KUb, KUc, KUd⟩, -⟩ := id KU
                  clear SB2
                  clear KFa KFb KFc KFd KAa KAb KAc KAd KBa KBb KBc KBd KUa KUb KUc KUd
                  have KV_ := Cel3.new w13 (.bool sq) (.slice avV tq.length cvV) (.slice avV' uq.length cvV') 25
                  have halKV : Below w13.heap.size w13 (w13.alloc (.cells #[.bool sq, .slice avV tq.length cvV, .slice avV' uq.length cvV'] 25)) := old_alloc (Below.refl _ _) _
                  replace X := X.later halKV
                  replace Y := Y.later halKV
                  replace P := P.later halKV
                  replace P' := P'.later halKV
                  replace Q := Q.later halKV
                  replace Q' := Q'.later halKV
                  replace M := M.later halKV
                  replace M' := M'.later halKV
                  replace N := N.later halKV
                  replace N' := N'.later halKV
                  replace KF := KF.old halKV
                  replace KA := KA.old halKV
                  replace KB := KB.old halKV
                  replace KU := KU.old halKV
                  replace hB := old_trans hB halKV
                  clear halKV
                  have KV := KV_
                  clear KV_
                  obtain ⟨KFa, ⟨KFb, KFc, KFd⟩, -⟩ := id KF
                  obtain ⟨KAa, ⟨KAb, KAc, KAd⟩, -⟩ := id KA
                  obtain ⟨KBa, ⟨KBb, KBc, KBd⟩, -⟩ := id KB
                  obtain ⟨KUa, ⟨KUb, KUc, KUd⟩, -⟩ := id KU
                  obtain ⟨KVa, ⟨KVb, KVc, KVd⟩, -⟩ := id KV
                  cases b1
                  case false =>
                    as_aux_lemma =>
                      go_wp2
                      go_ret
                      exact ⟨rfl, hB⟩
                  cases b2
                  case false =>
                    as_aux_lemma =>
                      go_wp2
                      go_ret
                      exact ⟨rfl, hB⟩
                  have hp := hp.out rfl
                  have hq := hq.out rfl
                  have fi := FI.out s1 s2 t1 u1 t2 u2 hlo.out hhi.out g1.out g2.out sp sq tp up tq uq hp hq
                  obtain ⟨c, hc⟩ : ∃ c, c = c3 (pab sp tp up sq tq uq) := ⟨_, rfl⟩
                  rw [← hc] at fi
                  have CM3 := hd (fun a b la lb ca cb c' d lc ld cc cd w x1 x2 x3 x4 => osCmp hp.1 hq.1 hc.symm a b la lb ca cb c' d lc ld cc cd w x1 x2 x3 x4)
                  clear hc hp hq FI hlo hhi g1 g2 a2 a3
                  rcases fi with ⟨rfl, hn⟩ | ⟨rfl, hn⟩ | ⟨rfl, hne, hev⟩ | ⟨rfl, heq, hn⟩
                  · as_aux_lemma =>
                      subst hn
                      skip
                      go_wp2_with fail
                      refine (CM3.out _ _ _ _ _ _ _ _ _ _ _ _ _ M.inI M'.inI N.inI N'.inI).mono ?_
                      rintro e w14 ⟨rfl, hb14⟩
                      clear KFa KFb KFc KFd KAa KAb KAc KAd KBa KBb KBc KBd KUa KUb KUc KUd KVa KVb KVc KVd
                      replace X := X.later hb14
                      replace Y := Y.later hb14
                      replace P := P.later hb14
                      replace P' := P'.later hb14
                      replace Q := Q.later hb14
                      replace Q' := Q'.later hb14
                      replace M := M.later hb14
                      replace M' := M'.later hb14
                      replace N := N.later hb14
                      replace N' := N'.later hb14
                      replace KF := KF.old hb14
                      replace KA := KA.old hb14
                      replace KB := KB.old hb14
                      replace KU := KU.old hb14
                      replace KV := KV.old hb14
                      replace hB := old_trans hB hb14
                      clear hb14
                      obtain ⟨KFa, ⟨KFb, KFc, KFd⟩, -⟩ := id KF
                      obtain ⟨KAa, ⟨KAb, KAc, KAd⟩, -⟩ := id KA
                      obtain ⟨KBa, ⟨KBb, KBc, KBd⟩, -⟩ := id KB
                      obtain ⟨KUa, ⟨KUb, KUc, KUd⟩, -⟩ := id KU
                      obtain ⟨KVa, ⟨KVb, KVc, KVd⟩, -⟩ := id KV
                      clear CM3
                      go_wp2
                      go_ret
                      exact ⟨rfl, hB⟩
                  · as_aux_lemma =>
                      subst hn
                      by_cases e2 : n = lo
                      · as_aux_lemma =>
                          subst e2
                          skip
                          go_wp2_with fail
                          refine (CM3.out _ _ _ _ _ _ _ _ _ _ _ _ _ M.inI M'.inI N.inI N'.inI).mono ?_
                          rintro e w14 ⟨rfl, hb14⟩
                          clear KFa KFb KFc KFd KAa KAb KAc KAd KBa KBb KBc KBd KUa KUb KUc KUd KVa KVb KVc KVd
                          replace X := X.later hb14
                          replace Y := Y.later hb14
                          replace P := P.later hb14
                          replace P' := P'.later hb14
                          replace Q := Q.later hb14
                          replace Q' := Q'.later hb14
                          replace M := M.later hb14
                          replace M' := M'.later hb14
                          replace N := N.later hb14
                          replace N' := N'.later hb14
                          replace KF := KF.old hb14
                          replace KA := KA.old hb14
                          replace KB := KB.old hb14
                          replace KU := KU.old hb14
                          replace KV := KV.old hb14
                          replace hB := old_trans hB hb14
                          clear hb14
                          obtain ⟨KFa, ⟨KFb, KFc, KFd⟩, -⟩ := id KF
                          obtain ⟨KAa, ⟨KAb, KAc, KAd⟩, -⟩ := id KA
                          obtain ⟨KBa, ⟨KBb, KBc, KBd⟩, -⟩ := id KB
                          obtain ⟨KUa, ⟨KUb, KUc, KUd⟩, -⟩ := id KU
                          obtain ⟨KVa, ⟨KVb, KVc, KVd⟩, -⟩ := id KV
                          clear CM3
                          go_wp2
                          go_ret
                          exact ⟨rfl, hB⟩
                      · as_aux_lemma =>
                          have e3 : (n == lo) = false := beq_eq_false_iff_ne.2 e2
                          skip
                          go_wp2_with fail
                          refine (CM3.out _ _ _ _ _ _ _ _ _ _ _ _ _ M.inI M'.inI N.inI N'.inI).mono ?_
                          rintro e w14 ⟨rfl, hb14⟩
                          clear KFa KFb KFc KFd KAa KAb KAc KAd KBa KBb KBc KBd KUa KUb KUc KUd KVa KVb KVc KVd
                          replace X := X.later hb14
                          replace Y := Y.later hb14
                          replace P := P.later hb14
                          replace P' := P'.later hb14
                          replace Q := Q.later hb14
                          replace Q' := Q'.later hb14
                          replace M := M.later hb14
                          replace M' := M'.later hb14
                          replace N := N.later hb14
                          replace N' := N'.later hb14
                          replace KF := KF.old hb14
                          replace KA := KA.old hb14
                          replace KB := KB.old hb14
                          replace KU := KU.old hb14
                          replace KV := KV.old hb14
                          replace hB := old_trans hB hb14
                          clear hb14
                          obtain ⟨KFa, ⟨KFb, KFc, KFd⟩, -⟩ := id KF
                          obtain ⟨KAa, ⟨KAb, KAc, KAd⟩, -⟩ := id KA
                          obtain ⟨KBa, ⟨KBb, KBc, KBd⟩, -⟩ := id KB
                          obtain ⟨KUa, ⟨KUb, KUc, KUd⟩, -⟩ := id KU
                          obtain ⟨KVa, ⟨KVb, KVc, KVd⟩, -⟩ := id KV
                          clear CM3
                          go_wp2
                          go_ret
                          exact ⟨rfl, hB⟩
                  · as_aux_lemma =>
                      have e1 : (lo == hi) = false := beq_eq_false_iff_ne.2 hne
                      have e2 : (Int.tmod n 2 == 0) = true := by rw [hev]; rfl
                      go_wp2_with fail
                      refine (CM3.out _ _ _ _ _ _ _ _ _ _ _ _ _ M.inI M'.inI N.inI N'.inI).mono ?_
                      rintro e w14 ⟨rfl, hb14⟩
                      clear KFa KFb KFc KFd KAa KAb KAc KAd KBa KBb KBc KBd KUa KUb KUc KUd KVa KVb KVc KVd
                      replace X := X.later hb14
                      replace Y := Y.later hb14
                      replace P := P.later hb14
                      replace P' := P'.later hb14
                      replace Q := Q.later hb14
                      replace Q' := Q'.later hb14
                      replace M := M.later hb14
                      replace M' := M'.later hb14
                      replace N := N.later hb14
                      replace N' := N'.later hb14
                      replace KF := KF.old hb14
                      replace KA := KA.old hb14
                      replace KB := KB.old hb14
                      replace KU := KU.old hb14
                      replace KV := KV.old hb14
                      replace hB := old_trans hB hb14
                      clear hb14
                      obtain ⟨KFa, ⟨KFb, KFc, KFd⟩, -⟩ := id KF
                      obtain ⟨KAa, ⟨KAb, KAc, KAd⟩, -⟩ := id KA
                      obtain ⟨KBa, ⟨KBb, KBc, KBd⟩, -⟩ := id KB
                      obtain ⟨KUa, ⟨KUb, KUc, KUd⟩, -⟩ := id KU
                      obtain ⟨KVa, ⟨KVb, KVc, KVd⟩, -⟩ := id KV
                      clear CM3
                      go_wp2
                      go_ret
                      exact ⟨rfl, hB⟩
                  · as_aux_lemma =>
                      subst heq
                      subst hn
                      skip
                      go_wp2_with fail
                      refine (CM3.out _ _ _ _ _ _ _ _ _ _ _ _ _ M.inI M'.inI N.inI N'.inI).mono ?_
                      rintro e w14 ⟨rfl, hb14⟩
                      clear KFa KFb KFc KFd KAa KAb KAc KAd KBa KBb KBc KBd KUa KUb KUc KUd KVa KVb KVc KVd
                      replace X := X.later hb14
                      replace Y := Y.later hb14
                      replace P := P.later hb14
                      replace P' := P'.later hb14
                      replace Q := Q.later hb14
                      replace Q' := Q'.later hb14
                      replace M := M.later hb14
                      replace M' := M'.later hb14
                      replace N := N.later hb14
                      replace N' := N'.later hb14
                      replace KF := KF.old hb14
                      replace KA := KA.old hb14
                      replace KB := KB.old hb14
                      replace KU := KU.old hb14
                      replace KV := KV.old hb14
                      replace hB := old_trans hB hb14
                      clear hb14
                      obtain ⟨KFa, ⟨KFb, KFc, KFd⟩, -⟩ := id KF
                      obtain ⟨KAa, ⟨KAb, KAc, KAd⟩, -⟩ := id KA
                      obtain ⟨KBa, ⟨KBb, KBc, KBd⟩, -⟩ := id KB
                      obtain ⟨KUa, ⟨KUb, KUc, KUd⟩, -⟩ := id KU
                      obtain ⟨KVa, ⟨KVb, KVc, KVd⟩, -⟩ := id KV
                      clear CM3
                      go_wp2
                      go_ret
                      exact ⟨rfl, hB⟩
          case neg =>
            as_aux_lemma =>
              have hhi' : Hid (hi = 9218868437227405312) := by show _ = _; omega
              have q6 : decide (hi < 9218868437227405312) = false := decide_eq_false hhi
              clear KFa KFb KFc KFd
              obtain ⟨KFa, ⟨KFb, KFc, KFd⟩, -⟩ := id KF
              go_upto_region 13 with fail
              go_cut [116] (fun x wx => x = .bool false ∧ w6 = wx)
              case first =>
                as_aux_lemma =>
                  go_wp2
                  go_meet
                  exact ⟨by first | rfl | (simp; done) | (simp; omega), rfl⟩
              case rest =>
                as_aux_lemma =>
                  obtain ⟨rfl, rfl⟩ := hcut
                  obtain ⟨s1, t1, u1, g1, -, I1⟩ := made64 hlo a2
                  replace I1 := hd I1
                  have cl := CL.out s1 t1 u1 hlo g1
                  clear CL
                  go_wp2_with fail
                  refine (I1.out _ (TT.out _ hB)).mono ?_
                  rintro e w7 ⟨⟨avA, cvA, avA', cvA', rfl, P, P'⟩, hb7⟩
                  clear KFa KFb KFc KFd
                  replace X := X.later hb7
                  replace Y := Y.later hb7
                  replace KF := KF.old hb7
                  replace hB := old_trans hB hb7
                  clear hb7
                  obtain ⟨KFa, ⟨KFb, KFc, KFd⟩, -⟩ := id KF
                  clear I1
                  clear KFa KFb KFc KFd
                  have KA_ := Cel3.new w7 (.bool s1) (.slice avA t1.length cvA) (.slice avA' u1.length cvA') 25
                  have halKA : Below w7.heap.size w7 (w7.alloc (.cells #[.bool s1, .slice avA t1.length cvA, .slice avA' u1.length cvA'] 25)) := old_alloc (Below.refl _ _) _
                  replace X := X.later halKA
                  replace Y := Y.later halKA
                  replace P := P.later halKA
                  replace P' := P'.later halKA
                  replace KF := KF.old halKA
                  replace hB := old_trans hB halKA
                  clear halKA
                  have KA := KA_
                  clear KA_
                  obtain ⟨KFa, ⟨KFb, KFc, KFd⟩, -⟩ := id KF
                  obtain ⟨KAa, ⟨KAb, KAc, KAd⟩, -⟩ := id KA
                  have NO := hd (noFF 64 hi (fun q => absurd q.1 (by decide)) (fun q => absurd q.2 (by omega))).2
                  go_wp2_with fail
                  refine (NO.out _ (TT.out _ hB)).mono ?_
                  rintro e w8 ⟨⟨avB, cvB, avB', cvB', rfl⟩, hb8⟩
                  clear KFa KFb KFc KFd KAa KAb KAc KAd
                  replace X := X.later hb8
                  replace Y := Y.later hb8
                  replace P := P.later hb8
                  replace P' := P'.later hb8
                  replace KF := KF.old hb8
                  replace KA := KA.old hb8
                  replace hB := old_trans hB hb8
                  clear hb8
                  obtain ⟨KFa, ⟨KFb, KFc, KFd⟩, -⟩ := id KF
                  obtain ⟨KAa, ⟨KAb, KAc, KAd⟩, -⟩ := id KA
                  clear NO
                  clear KFa KFb KFc KFd KAa KAb KAc KAd
                  have KB_ := Cel3.new w8 (.bool false) (.slice avB 0 cvB) (.slice avB' 0 cvB') 25
                  have halKB : Below w8.heap.size w8 (w8.alloc (.cells #[.bool false, .slice avB 0 cvB, .slice avB' 0 cvB'] 25)) := old_alloc (Below.refl _ _) _
                  replace X := X.later halKB
                  replace Y := Y.later halKB
                  replace P := P.later halKB
                  replace P' := P'.later halKB
                  replace KF := KF.old halKB
                  replace KA := KA.old halKB
                  replace hB := old_trans hB halKB
                  clear halKB
                  have KB := KB_
                  clear KB_
                  obtain ⟨KFa, ⟨KFb, KFc, KFd⟩, -⟩ := id KF
                  obtain ⟨KAa, ⟨KAb, KAc, KAd⟩, -⟩ := id KA
                  obtain ⟨KBa, ⟨KBb, KBc, KBd⟩, -⟩ := id KB
                  obtain ⟨c1, hc1⟩ : ∃ c1, c1 = c3 (pab s1 t1 u1 s xs ys) := ⟨_, rfl⟩
                  rw [← hc1] at cl
                  have r1 : decide (0 < c1) = false := decide_eq_false (by omega)
                  have r2 : (c1 == 0) = (lo == hi) := by
                    rcases cl with ⟨h1, h2⟩ | ⟨h1, h2⟩
                    · rw [h1, show (lo == hi) = false from beq_eq_false_iff_ne.2 h2]; rfl
                    · rw [h1, h2]; simp
                  have CM1 := hd (fun a b la lb ca cb c d lc ld cc cd w x1 x2 x3 x4 => osCmp g1.1 hf.out hc1.symm a b la lb ca cb c d lc ld cc cd w x1 x2 x3 x4)
                  clear hc1 cl
                  clear q1 q2 q3 q4 q5 q6 n1 n2 nw hnl a1 a4 a5 a6 CH FI hlo hhi hhi' a2 a3 g1
                  go_wp2_with fail
                  refine (CM1.out _ _ _ _ _ _ _ _ _ _ _ _ _ P.inI P'.inI X.inI Y.inI).mono ?_
                  rintro e w9 ⟨rfl, hb9⟩
                  clear KFa KFb KFc KFd KAa KAb KAc KAd KBa KBb KBc KBd
                  replace X := X.later hb9
                  replace Y := Y.later hb9
                  replace P := P.later hb9
                  replace P' := P'.later hb9
                  replace KF := KF.old hb9
                  replace KA := KA.old hb9
                  replace KB := KB.old hb9
                  replace hB := old_trans hB hb9
                  clear hb9
                  obtain ⟨KFa, ⟨KFb, KFc, KFd⟩, -⟩ := id KF
                  obtain ⟨KAa, ⟨KAb, KAc, KAd⟩, -⟩ := id KA
                  obtain ⟨KBa, ⟨KBb, KBc, KBd⟩, -⟩ := id KB
                  go_wp2_with fail
                  refine (CM1.out _ _ _ _ _ _ _ _ _ _ _ _ _ P.inI P'.inI X.inI Y.inI).mono ?_
                  rintro e w10 ⟨rfl, hb10⟩
                  clear KFa KFb KFc KFd KAa KAb KAc KAd KBa KBb KBc KBd
                  replace X := X.later hb10
                  replace Y := Y.later hb10
                  replace P := P.later hb10
                  replace P' := P'.later hb10
                  replace KF := KF.old hb10
                  replace KA := KA.old hb10
                  replace KB := KB.old hb10
                  replace hB := old_trans hB hb10
                  clear hb10
                  obtain ⟨KFa, ⟨KFb, KFc, KFd⟩, -⟩ := id KF
                  obtain ⟨KAa, ⟨KAb, KAc, KAd⟩, -⟩ := id KA
                  obtain ⟨KBa, ⟨KBb, KBc, KBd⟩, -⟩ := id KB
                  clear CM1
                  go_wp2
                  go_ret
                  exact ⟨rfl, hB⟩
      case neg =>
        as_aux_lemma =>
          have hlo' : Hid (lo = -9218868437227405312) := by show _ = _; omega
          have hhi : hi < 9218868437227405312 := by omega
          have q5 : decide (-9218868437227405312 < lo) = false := decide_eq_false hlo
          have q6 : decide (hi < 9218868437227405312) = true := decide_eq_true hhi
          clear KFa KFb KFc KFd
          obtain ⟨KFa, ⟨KFb, KFc, KFd⟩, -⟩ := id KF
          go_upto_region 13 with fail
          go_cut [116] (fun x wx => x = .bool false ∧ w6 = wx)
          case first =>
            as_aux_lemma =>
              go_wp2
              go_meet
              exact ⟨by first | rfl | (simp; done) | (simp; omega), rfl⟩
          case rest =>
            as_aux_lemma =>
              obtain ⟨rfl, rfl⟩ := hcut
              have NO := hd (noFF 64 lo (fun q => absurd q.1 (by decide)) (fun q => absurd q.2 (by omega))).2
              go_wp2_with fail
              refine (NO.out _ (TT.out _ hB)).mono ?_
              rintro e w7 ⟨⟨avA, cvA, avA', cvA', rfl⟩, hb7⟩
              clear KFa KFb KFc KFd
              replace X := X.later hb7
              replace Y := Y.later hb7
              replace KF := KF.old hb7
              replace hB := old_trans hB hb7
              clear hb7
              obtain ⟨KFa, ⟨KFb, KFc, KFd⟩, -⟩ := id KF
              clear NO
              clear KFa KFb KFc KFd
              have KA_ := Cel3.new w7 (.bool false) (.slice avA 0 cvA) (.slice avA' 0 cvA') 25
              have halKA : Below w7.heap.size w7 (w7.alloc (.cells #[.bool false, .slice avA 0 cvA, .slice avA' 0 cvA'] 25)) := old_alloc (Below.refl _ _) _
              replace X := X.later halKA
              replace Y := Y.later halKA
              replace KF := KF.old halKA
              replace hB := old_trans hB halKA
              clear halKA
              have KA := KA_
              clear KA_
              obtain ⟨KFa, ⟨KFb, KFc, KFd⟩, -⟩ := id KF
              obtain ⟨KAa, ⟨KAb, KAc, KAd⟩, -⟩ := id KA
              obtain ⟨s2, t2, u2, g2, -, I2⟩ := made64 a3 hhi
              replace I2 := hd I2
              have ch := CH.out s2 t2 u2 hhi g2
              clear CH
              go_wp2_with fail
              refine (I2.out _ (TT.out _ hB)).mono ?_
              rintro e w8 ⟨⟨avB, cvB, avB', cvB', rfl, Q, Q'⟩, hb8⟩
              clear KFa KFb KFc KFd KAa KAb KAc KAd
              replace X := X.later hb8
              replace Y := Y.later hb8
              replace KF := KF.old hb8
              replace KA := KA.old hb8
              replace hB := old_trans hB hb8
              clear hb8
              obtain ⟨KFa, ⟨KFb, KFc, KFd⟩, -⟩ := id KF
              obtain ⟨KAa, ⟨KAb, KAc, KAd⟩, -⟩ := id KA
              clear I2
              clear KFa KFb KFc KFd KAa KAb KAc KAd
              have KB_ := Cel3.new w8 (.bool s2) (.slice avB t2.length cvB) (.slice avB' u2.length cvB') 25
              have halKB : Below w8.heap.size w8 (w8.alloc (.cells #[.bool s2, .slice avB t2.length cvB, .slice avB' u2.length cvB'] 25)) := old_alloc (Below.refl _ _) _
              replace X := X.later halKB
              replace Y := Y.later halKB
              replace Q := Q.later halKB
              replace Q' := Q'.later halKB
              replace KF := KF.old halKB
              replace KA := KA.old halKB
              replace hB := old_trans hB halKB
              clear halKB
              have KB := KB_
              clear KB_
              obtain ⟨KFa, ⟨KFb, KFc, KFd⟩, -⟩ := id KF
              obtain ⟨KAa, ⟨KAb, KAc, KAd⟩, -⟩ := id KA
              obtain ⟨KBa, ⟨KBb, KBc, KBd⟩, -⟩ := id KB
              obtain ⟨c2, hc2⟩ : ∃ c2, c2 = c3 (pab s xs ys s2 t2 u2) := ⟨_, rfl⟩
              rw [← hc2] at ch
              have r3 : decide (0 < c2) = false := decide_eq_false (by omega)
              have CM2 := hd (fun a b la lb ca cb c d lc ld cc cd w x1 x2 x3 x4 => osCmp hf.out g2.1 hc2.symm a b la lb ca cb c d lc ld cc cd w x1 x2 x3 x4)
              clear hc2 ch
              clear q1 q2 q3 q4 q5 q6 n1 n2 nw hnl a1 a4 a5 a6 CL FI hlo hhi hlo' a2 a3 g2
              go_wp2_with fail
              refine (CM2.out _ _ _ _ _ _ _ _ _ _ _ _ _ X.inI Y.inI Q.inI Q'.inI).mono ?_
              rintro e w9 ⟨rfl, hb9⟩
              clear KFa KFb KFc KFd KAa KAb KAc KAd KBa KBb KBc KBd
              replace X := X.later hb9
              replace Y := Y.later hb9
              replace Q := Q.later hb9
              replace Q' := Q'.later hb9
              replace KF := KF.old hb9
              replace KA := KA.old hb9
              replace KB := KB.old hb9
              replace hB := old_trans hB hb9
              clear hb9
              obtain ⟨KFa, ⟨KFb, KFc, KFd⟩, -⟩ := id KF
              obtain ⟨KAa, ⟨KAb, KAc, KAd⟩, -⟩ := id KA
              obtain ⟨KBa, ⟨KBb, KBc, KBd⟩, -⟩ := id KB
              clear CM2
              go_wp2
              go_ret
              exact ⟨rfl, hB⟩
  have hpf : pfOk wd s xs ys = false := by unfold pfOk; rw [decide_eq_false (by omega)]; rfl
  have DN := hd (fun a b la lb ca cb w x y (z : Tab w ∧ ET w) => iFloatDown wd s a b la lb ca cb xs ys w x y z.1 z.2)
  have UP := hd (fun a b la lb ca cb w x y (z : Tab w ∧ ET w) => iFloatUp wd s a b la lb ca cb xs ys w x y z.1 z.2)
  have NR := hd (fun a b la lb ca cb w x y (z : Tab w ∧ ET w) => iFloatNear wd s a b la lb ca cb xs ys w x y z.1 z.2)
  have SD := hd (fun a b la lb ca cb w x y => sFloatDownA wd s a b la lb ca cb xs ys w x y)
  rw [hpf] at DN UP NR SD
  generalize pfL wd s xs ys = lo at *
  generalize pfH wd s xs ys = hi at *
  generalize nrF wd s xs ys = n at *
  clear hpf hf
  have KF_ := Cel3.new w1 (.bool s) (.slice avF xs.length cvF) (.slice avF' ys.length cvF') 25
  have halKF : Below w1.heap.size w1 (w1.alloc (.cells #[.bool s, .slice avF xs.length cvF, .slice avF' ys.length cvF'] 25)) := old_alloc (Below.refl _ _) _
  replace X := X.later halKF
  replace Y := Y.later halKF
  replace hB := old_trans hB halKF
  clear halKF
  have KF := KF_
  clear KF_
  obtain ⟨KFa, ⟨KFb, KFc, KFd⟩, -⟩ := id KF
  go_wp2_with fail
  refine (DN.out _ _ _ _ _ _ _ X.inI Y.inI (TT.out _ hB)).mono ?_
  rintro e w2 ⟨rfl, hb2⟩
  clear KFa KFb KFc KFd
  replace X := X.later hb2
  replace Y := Y.later hb2
  replace KF := KF.old hb2
  replace hB := old_trans hB hb2
  clear hb2
  obtain ⟨KFa, ⟨KFb, KFc, KFd⟩, -⟩ := id KF
  go_wp2_with fail
  refine (UP.out _ _ _ _ _ _ _ X.inI Y.inI (TT.out _ hB)).mono ?_
  rintro e w3 ⟨rfl, hb3⟩
  clear KFa KFb KFc KFd
  replace X := X.later hb3
  replace Y := Y.later hb3
  replace KF := KF.old hb3
  replace hB := old_trans hB hb3
  clear hb3
  obtain ⟨KFa, ⟨KFb, KFc, KFd⟩, -⟩ := id KF
  go_wp2_with fail
  refine (NR.out _ _ _ _ _ _ _ X.inI Y.inI (TT.out _ hB)).mono ?_
  rintro e w4 ⟨rfl, hb4⟩
  clear KFa KFb KFc KFd
  replace X := X.later hb4
  replace Y := Y.later hb4
  replace KF := KF.old hb4
  replace hB := old_trans hB hb4
  clear hb4
  obtain ⟨KFa, ⟨KFb, KFc, KFd⟩, -⟩ := id KF
  go_wp2_with fail
  refine (SD.out _ _ _ _ _ _ _ X.inI Y.inI).mono ?_
  rintro e w5 ⟨rfl, hb5⟩
  clear KFa KFb KFc KFd
  replace X := X.later hb5
  replace Y := Y.later hb5
  replace KF := KF.old hb5
  replace hB := old_trans hB hb5
  clear hb5
  obtain ⟨KFa, ⟨KFb, KFc, KFd⟩, -⟩ := id KF
  clear DN UP NR SD
  go_wp2
  go_ret
  exact ⟨rfl, hB⟩

set_option maxRecDepth 100000 in
theorem FnFloatRound_lifted (os : Os) (started : os.Started) (H : Type) (enc : TypeId × Value → H) :
    ReturnsInHanded {} Tryz.checked os 3 .any (fun w args => (Rows.fnFloatRoundSpec.pre enc Tryz.prog Tryz.f3 [] false w args ∧ laidMetH Tryz.prog LHL w) ∧ sizedMet enc Tryz.prog Tryz.f3 (OpenSpec.ofChange Rows.fnFloatRoundSpec) false w args)
      (Rows.fnFloatRoundSpec.post enc Tryz.prog Tryz.f3 false true false false) := by
  refine returnsInHanded_of_change_and (C := Tryz.checked) (X := fun w _ => laidMetH Tryz.prog LHL w) (fun _ _ _ hh h => h.of_heap hh) LH_own started (by kernel_rfl) Tryz.func3
    (ChangeSpec.witness_shaped (enc := enc) (C := Tryz.checked) (os := os) (X := fun w _ => laidMetH Tryz.prog LHL w) false (World.doorLaid Tryz.prog LH_fuel os) #[.slice none 0 0] 8 rfl (LH_shaped os _) (by kernel_rfl) (by kernel_rfl) (by kernel_rfl) (LH_met os _)) ?_
  intro W base args ds gs before hval0 hW _ _ hL _
  have hval : ∀ (j : Nat) t v, Tryz.f3.params[j]? = some t → args[j]? = some v → Value.okWide Tryz.prog W .any base t v := hval0
  have hW' := hW
  obtain ⟨p, q, hA0, hV, rfl, hfz, hnd⟩ := hW
  have hA : DataW.TrodAll enc Tryz.prog W 0 (fun _ => true) true Tryz.f3.params.toList args.toList ds p := hA0
  rw [Tryz.params3] at hA hval
  obtain ⟨v0, vs0, d0, ds0, p0, q0, hargs, rfl, rfl, h0, r0⟩ := trodAll_cons hA
  obtain ⟨rfl, rfl, rfl⟩ := trodAll_nil r0
  obtain rfl : args = #[v0] := by cases args; simp_all
  obtain ⟨rfl, rfl⟩ := trodVars_none hV
  have k0 := h0
  have lt0 : ∀ x ∈ p0, x.block < W.heap.size := by obtain ⟨m, hm⟩ := k0; exact DataW.trod_lt m _ _ _ hm
  obtain ⟨a0, len0, cap0, rfl, wb0⟩ := open_bytes (hval 0 22 v0 rfl rfl) h0
  clear hA0 hval0
  refine (FnFloatRound_walk a0 len0 cap0 W wb0 (both_of hL)).mono fun e W' ⟨he, bel⟩ => ?_
  subst he
  exact ⟨_, rfl, _, _, _, [], _, [], hW', trodAll_mk1 (shut_bool Tryz.underlying4 _), (trodAll_cons_mk (Below.trod jf1 (by kernel_rfl) (of_decide_eq_true (by kernel_rfl)) k0 bel lt0) trodAll_mk0), rfl, bel.frame _, fun h => by cases h⟩

theorem FnFloatRound_k0 : (Rows.fnFloatRoundRow.wf (OpenSpec.ofChange Rows.fnFloatRoundSpec)) = true := by kernel_rfl
theorem FnFloatRound_k3 : (Tryz.f3.params.all (Tryz.prog.readableRec ·)) = true := by kernel_rfl
theorem FnFloatRound_k4 : (namedTie Tryz.prog Rows.fnFloatRoundRow.named Rows.fnFloatRoundSpec.vars) = true := by kernel_rfl
theorem FnFloatRound_k5 : ((Rows.fnFloatRoundRow.stops == [])) = true := by kernel_rfl
theorem FnFloatRound_k7 : ((Rows.fnFloatRoundRow.knobs == [])) = true := by kernel_rfl
theorem FnFloatRound_k9 : ((Rows.fnFloatRoundRow.inPlace == Tryz.prog.inPlace 3)) = true := by kernel_rfl
theorem FnFloatRound_k10 : ((Rows.fnFloatRoundRow.unfollowed == Tryz.prog.unfollowed 3)) = true := by kernel_rfl
theorem FnFloatRound_k11 : ((Rows.fnFloatRoundRow.recurses == Tryz.prog.recurses 3)) = true := by kernel_rfl
theorem FnFloatRound_k12 : ((Rows.fnFloatRoundRow.named == Tryz.prog.varsNamed 3)) = true := by kernel_rfl
theorem FnFloatRound_k13 : ((Rows.fnFloatRoundRow.maps == (Tryz.f3.params.toList ++ Rows.fnFloatRoundSpec.plain.varTypes Tryz.prog).any (Tryz.prog.mapsRec ·))) = true := by kernel_rfl
theorem FnFloatRound_k14 : ((Rows.fnFloatRoundRow.ifaces == (Tryz.f3.params.toList ++ Rows.fnFloatRoundSpec.plain.varTypes Tryz.prog).any (Tryz.prog.ifacesRec ·))) = true := by kernel_rfl
theorem FnFloatRound_k15 : ((Rows.fnFloatRoundRow.mapsOut == Tryz.prog.mapsAmong Tryz.f3.resultTypes.toList)) = true := by kernel_rfl
theorem FnFloatRound_k16 : ((Rows.fnFloatRoundRow.loops == (Tryz.f3.params.toList ++ Rows.fnFloatRoundSpec.plain.varTypes Tryz.prog).any (Tryz.prog.loopsFrom ·))) = true := by kernel_rfl
theorem FnFloatRound_k17 : ((Rows.fnFloatRoundRow.wideKeys == (Tryz.f3.params.toList ++ Rows.fnFloatRoundSpec.plain.varTypes Tryz.prog ++ Tryz.f3.resultTypes.toList).any (Tryz.prog.wideKeysFrom ·))) = true := by kernel_rfl
theorem FnFloatRound_k18 : (Rows.fnFloatRoundSpec.vars.all (Tryz.prog.varReadable ·)) = true := by kernel_rfl
theorem FnFloatRound_k19 : (Tryz.f3.resultTypes.all (fun t => Tryz.prog.readableRec t && decide (t < Tryz.prog.types.size))) = true := by kernel_rfl
theorem FnFloatRound_k20 : ((Rows.fnFloatRoundRow.ifacesOut == Tryz.f3.resultTypes.toList.any (Tryz.prog.ifacesRec ·))) = true := by kernel_rfl
theorem FnFloatRound_k21 : ((Rows.fnFloatRoundRow.loopsOut == Tryz.f3.resultTypes.toList.any (Tryz.prog.loopsFrom ·))) = true := by kernel_rfl
theorem FnFloatRound_k23 : (Rows.fnFloatRoundRow.shortTexts.isNone) = true := by kernel_rfl
theorem FnFloatRound_k28 : ((Rows.fnFloatRoundRow.kinds == (if Rows.fnFloatRoundRow.domain.isEmpty then [] else Tryz.f3.params.toList.map fun t => match Tryz.prog.underlying t with | some (.int k) => some k | _ => none))) = true := by kernel_rfl
theorem FnFloatRound_k29 : ((Rows.fnFloatRoundRow.pinned == Rows.fnFloatRoundRow.pinnedBy)) = true := by kernel_rfl
theorem FnFloatRound_k30 : ((Rows.fnFloatRoundRow.veiled == (Tryz.f3.params.toList ++ Rows.fnFloatRoundSpec.plain.varTypes Tryz.prog ++ Tryz.f3.resultTypes.toList).any (Tryz.prog.veiledRec ·))) = true := by kernel_rfl
theorem FnFloatRound_k31 : (Rows.fnFloatRoundRow.veiledFits Tryz.prog Tryz.f3.params.toList (Tryz.f3.params.toList ++ Rows.fnFloatRoundSpec.plain.varTypes Tryz.prog ++ Tryz.f3.resultTypes.toList)) = true := by kernel_rfl
set_option maxRecDepth 100000 in
theorem FnFloatRound_closed : joinedFacts Tryz.prog 3 Tryz.f3 Rows.fnFloatRoundSpec Rows.fnFloatRoundRow = true := (and2 (and2 (and2 (and2 (and2 (and2 (and2 (and2 (and2 (and2 (and2 (and2 (and2 (and2 (and2 (and2 (and2 (and2 (and2 (and2 (and2 (and2 (and2 (and2 (and2 (and2 (and2 (and2 (and2 (and2 (and2 FnFloatRound_k0 jf1) jf2) FnFloatRound_k3) FnFloatRound_k4) FnFloatRound_k5) jf6) FnFloatRound_k7) jf8) FnFloatRound_k9) FnFloatRound_k10) FnFloatRound_k11) FnFloatRound_k12) FnFloatRound_k13) FnFloatRound_k14) FnFloatRound_k15) FnFloatRound_k16) FnFloatRound_k17) FnFloatRound_k18) FnFloatRound_k19) FnFloatRound_k20) FnFloatRound_k21) jf22) FnFloatRound_k23) jf24) jf25) jf26) jf27) FnFloatRound_k28) FnFloatRound_k29) FnFloatRound_k30) FnFloatRound_k31)
theorem FnFloatRound_row : Rows.FnFloatRoundSaid :=
  OpenClaim.holds_of_wide 3 Tryz.f3 rfl rfl rfl rfl rfl rfl rfl ⟨rfl, rfl, rfl, rfl, rfl⟩ rfl rfl rfl rfl rfl (by kernel_rfl) Tryz.func3 FnFloatRound_closed
    (of_decide_eq_true (by kernel_rfl)) (by unfold Func.isWrapper; first | (rw [if_pos (by decide +kernel)]; kernel_rfl) | (rw [if_neg (by decide +kernel)]; exact ⟨rfl, rfl⟩))
    (fun os started H enc _ => FnFloatRound_lifted os started H enc)

theorem FnFloatRound_proved : Rows.FnFloatRoundCardSaid :=
  Claim7.holds_tied_plain_at .later [] [.data, .data, .handle] true (true, "8cc086d5f5ca5b7c0961a6cb10c6d3bf5392490c761f54d99153e5a69054ed2d") true
    FnFloatRound_row (fun _ h => by cases h) (by kernel_rfl) (fun _ h => by cases h) fnFloatRound_row_tie rfl ⟨rfl, rfl⟩ (by kernel_rfl) rfl
    (fun f fn hf hfn => by
      obtain rfl : f = 3 := Option.some.inj ((show Tryz.prog.funcNamed "loop.example/pinfold/laws.FnFloatRound" = some 3 by kernel_rfl).symm.trans hf) |>.symm
      obtain rfl : fn = Tryz.f3 := (Option.some.inj (Tryz.func3.symm.trans hfn)).symm
      exact ⟨by kernel_rfl, fun j t ht => by
        rw [Tryz.params3] at ht
        have hm : t ∈ [22] := by simpa using Array.mem_of_getElem? ht
        have hall : ([22].all fun u => !Tryz.prog.wantsStandIn u) = true := by kernel_rfl
        exact (show Tryz.prog.wantsStandIn t = false by simpa using List.all_eq_true.1 hall t hm)⟩)
    (by kernel_rfl)
end Go.Proofs.YtgoffjpfddmhhaaGreatDoor
