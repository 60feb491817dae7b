/- For every code of bytes, of the fraction drawn from it: the program's FracRoot tells as the specification's whether it has a root that is a fraction; the root's square is the fraction, and the root is not below 0; the root of a square is the fraction without its sign; FracFloor is a whole number that is not above the fraction, and the next one is above it. The law answers true; nothing that was there is written. Condition: the library's tables and its handle of errors hold what their texts lay (the card ties them). -/
import Derived.Test.YtbcdeddbkckaeaaGreatDoorRows
import Derived.Test.YtbcdeddbkckaeaaGreatDoorTie
import Derived.Test.YtbcdeddbkckaeaaGreatDoorCards
import Derived.WalkKit
import Derived.ProofKit
import Derived.OpenShut
import Derived.Below
import Derived.Carry
import Derived.Test.YtbcdeddbkckaeaaGreatDoorN0
import Derived.Test.YtbcdeddbkckaeaaGreatDoorBJ
import Derived.Test.YtbcdeddbkckaeaaGreatDoorFL
import Derived.Test.YtbcdeddbkckaeaaGreatDoorBT
namespace Go.Proofs.YtbcdeddbkckaeaaGreatDoor
open Go.ChangeShapes Go.WideShapes Go.ChangeAt Go.RowKit
set_option linter.unusedVariables false
set_option maxRecDepth 100000

set_option maxRecDepth 100000 in
set_option maxHeartbeats 16000000 in
theorem FnFracRoot_walk (a0 : Option Addr) (len0 cap0 : Nat) (w : World) (wb0 : IsCode w a0 len0 cap0) (hT : Tab w ∧ ET w) :
    Calls Tryz.prog 4 #[.slice a0 len0 cap0] w fun e w' => e = .returned (.bool true) ∧ Below w.heap.size w w' := by
  have TT := hd (fun (w' : World) (h : Below w.heap.size w w') => (⟨hT.1.old h, hT.2.old h⟩ : Tab w' ∧ ET w'))
  clear hT
  have hlen0 := wb0.2.1
  have hle0 := wb0.1
  by_cases c0 : (len0 : Int) ≤ 1048576
  case neg =>
    have c0' : (1048576 : Int) < (len0 : Int) := by omega
    go_enter Tryz.func4, Tryz.ntmps4
    go_wp2
    go_ret
    exact ⟨rfl, (by repeat (first | exact Below.refl _ _ | refine Below.drew ?_ | refine old_alloc ?_ _ | refine old_trans ?_ (by assumption)))⟩
  have D0 := hd (dFracRoot w a0 len0 cap0 wb0)
  clear wb0 hlen0 hle0
  go_enter Tryz.func4, Tryz.ntmps4
  go_wp2_with fail
  refine D0.out.mono ?_
  rintro e w0 ⟨⟨bl, avX, cvX, xs, avY, cvY, ys, rfl, X, Y⟩, hB⟩
  clear D0 c0
  obtain ⟨r, hr⟩ := root_is (val xs)
  obtain ⟨s, hs⟩ := root_is (val ys)
  have IR := hd (fun a b la lb ca cb w g1 g2 (g3 : Tab w ∧ ET w) => iFracRoot bl a b la lb ca cb xs ys r s hr hs w g1 g2 g3.1 g3.2)
  have SR := hd (fun a b la lb ca cb w g1 g2 => sFracRoot bl a b la lb ca cb xs ys r s hr hs w g1 g2)
  have MF := hd (fun a b la lb ca cb c d lc ld cc cd w g1 g2 g3 g4 (g5 : Tab w ∧ ET w) => iFracMul bl a b la lb ca cb xs ys bl c d lc ld cc cd xs ys w g1 g2 g3 g4 g5.1 g5.2)
  have FF := hd (fun a b la lb ca cb w g1 g2 (g3 : Tab w ∧ ET w) => iFracFloor bl a b la lb ca cb xs ys w g1 g2 g3.1 g3.2)
  have KF_ := Cel3.new w0 (.bool bl) (.slice avX xs.length cvX) (.slice avY ys.length cvY) 26
  have halKF : Below w0.heap.size w0 (w0.alloc (.cells #[.bool bl, .slice avX xs.length cvX, .slice avY ys.length cvY] 26)) := old_alloc (Below.refl _ _) _
  replace X := X.later halKF
  replace Y := Y.later halKF
  replace hB := old_trans hB halKF
  clear halKF
  have KF := KF_
  clear KF_
  obtain ⟨KFa, ⟨KFb, KFc, KFd⟩, -⟩ := id KF
  cases h1 : fracOk bl xs ys
  · skip
    have OK := hd (fun a b la lb ca cb w g1 g2 => oOk h1 a b la lb ca cb w g1 g2)
    rw [h1] at IR SR MF FF
    simp only [Bool.false_and] at IR SR MF FF
    have IN := hd (fun a b la lb ca cb w g1 g2 g3 => FRes.callsN (IR.out a b la lb ca cb w g1 g2 g3) rfl)
    have SN := hd (fun a b la lb ca cb w g1 g2 => FRes.callsN (SR.out a b la lb ca cb w g1 g2) rfl)
    have MN := hd (fun a b la lb ca cb c d lc ld cc cd w g1 g2 g3 g4 g5 => FRes.callsN (MF.out a b la lb ca cb c d lc ld cc cd w g1 g2 g3 g4 g5) rfl)
    have FN := hd (fun a b la lb ca cb w g1 g2 g3 => FRes.callsN (FF.out a b la lb ca cb w g1 g2 g3) rfl)
    clear IR SR MF FF h1 hr hs
    go_wp2_with fail
    refine (IN.out _ _ _ _ _ _ _ X.inI Y.inI (TT.out _ hB)).mono ?_
    rintro e w1 ⟨⟨avR, cvR, avR', cvR', rfl⟩, hb1⟩
    clear KFa KFb KFc KFd
    replace X := X.later hb1
    replace Y := Y.later hb1
    replace KF := KF.old hb1
    replace hB := old_trans hB hb1
    clear hb1
    obtain ⟨KFa, ⟨KFb, KFc, KFd⟩, -⟩ := id KF
    clear KFa KFb KFc KFd
    have KR_ := Cel3.new w1 (.bool false) (.slice avR 0 cvR) (.slice avR' 0 cvR') 26
    have halKR : Below w1.heap.size w1 (w1.alloc (.cells #[.bool false, .slice avR 0 cvR, .slice avR' 0 cvR'] 26)) := old_alloc (Below.refl _ _) _
    replace X := X.later halKR
    replace Y := Y.later halKR
    replace KF := KF.old halKR
    replace hB := old_trans hB halKR
    clear halKR
    have KR := KR_
    clear KR_
    obtain ⟨KFa, ⟨KFb, KFc, KFd⟩, -⟩ := id KF
    obtain ⟨KRa, ⟨KRb, KRc, KRd⟩, -⟩ := id KR
    go_wp2_with fail
    refine (SN.out _ _ _ _ _ _ _ X.inI Y.inI).mono ?_
    rintro e w2 ⟨⟨avW, cvW, avW', cvW', rfl⟩, hb2⟩
    clear KFa KFb KFc KFd KRa KRb KRc KRd
    replace X := X.later hb2
    replace Y := Y.later hb2
    replace KF := KF.old hb2
    replace KR := KR.old hb2
    replace hB := old_trans hB hb2
    clear hb2
    obtain ⟨KFa, ⟨KFb, KFc, KFd⟩, -⟩ := id KF
    obtain ⟨KRa, ⟨KRb, KRc, KRd⟩, -⟩ := id KR
    clear KFa KFb KFc KFd KRa KRb KRc KRd
    have KW_ := Cel3.new w2 (.bool false) (.slice avW 0 cvW) (.slice avW' 0 cvW') 26
    have halKW : Below w2.heap.size w2 (w2.alloc (.cells #[.bool false, .slice avW 0 cvW, .slice avW' 0 cvW'] 26)) := old_alloc (Below.refl _ _) _
    replace X := X.later halKW
    replace Y := Y.later halKW
    replace KF := KF.old halKW
    replace KR := KR.old halKW
    replace hB := old_trans hB halKW
    clear halKW
    have KW := KW_
    clear KW_
    obtain ⟨KFa, ⟨KFb, KFc, KFd⟩, -⟩ := id KF
    obtain ⟨KRa, ⟨KRb, KRc, KRd⟩, -⟩ := id KR
    obtain ⟨KWa, ⟨KWb, KWc, KWd⟩, -⟩ := id KW
    go_wp2_with fail
    refine (MN.out _ _ _ _ _ _ _ _ _ _ _ _ _ X.inI Y.inI X.inI Y.inI (TT.out _ hB)).mono ?_
    rintro e w3 ⟨⟨avS, cvS, avS', cvS', rfl⟩, hb3⟩
    clear KFa KFb KFc KFd KRa KRb KRc KRd KWa KWb KWc KWd
    replace X := X.later hb3
    replace Y := Y.later hb3
    replace KF := KF.old hb3
    replace KR := KR.old hb3
    replace KW := KW.old hb3
    replace hB := old_trans hB hb3
    clear hb3
    obtain ⟨KFa, ⟨KFb, KFc, KFd⟩, -⟩ := id KF
    obtain ⟨KRa, ⟨KRb, KRc, KRd⟩, -⟩ := id KR
    obtain ⟨KWa, ⟨KWb, KWc, KWd⟩, -⟩ := id KW
    clear KFa KFb KFc KFd KRa KRb KRc KRd KWa KWb KWc KWd
    have KS_ := Cel3.new w3 (.bool false) (.slice avS 0 cvS) (.slice avS' 0 cvS') 26
    have halKS : Below w3.heap.size w3 (w3.alloc (.cells #[.bool false, .slice avS 0 cvS, .slice avS' 0 cvS'] 26)) := old_alloc (Below.refl _ _) _
    replace X := X.later halKS
    replace Y := Y.later halKS
    replace KF := KF.old halKS
    replace KR := KR.old halKS
    replace KW := KW.old halKS
    replace hB := old_trans hB halKS
    clear halKS
    have KS := KS_
    clear KS_
    obtain ⟨KFa, ⟨KFb, KFc, KFd⟩, -⟩ := id KF
    obtain ⟨KRa, ⟨KRb, KRc, KRd⟩, -⟩ := id KR
    obtain ⟨KWa, ⟨KWb, KWc, KWd⟩, -⟩ := id KW
    obtain ⟨KSa, ⟨KSb, KSc, KSd⟩, -⟩ := id KS
    go_wp2_with fail
    refine (FN.out _ _ _ _ _ _ _ X.inI Y.inI (TT.out _ hB)).mono ?_
    rintro e w4 ⟨⟨avN, cvN, avN', cvN', rfl⟩, hb4⟩
    clear KFa KFb KFc KFd KRa KRb KRc KRd KWa KWb KWc KWd KSa KSb KSc KSd
    replace X := X.later hb4
    replace Y := Y.later hb4
    replace KF := KF.old hb4
    replace KR := KR.old hb4
    replace KW := KW.old hb4
    replace KS := KS.old hb4
    replace hB := old_trans hB hb4
    clear hb4
    obtain ⟨KFa, ⟨KFb, KFc, KFd⟩, -⟩ := id KF
    obtain ⟨KRa, ⟨KRb, KRc, KRd⟩, -⟩ := id KR
    obtain ⟨KWa, ⟨KWb, KWc, KWd⟩, -⟩ := id KW
    obtain ⟨KSa, ⟨KSb, KSc, KSd⟩, -⟩ := id KS
    clear KFa KFb KFc KFd KRa KRb KRc KRd KWa KWb KWc KWd KSa KSb KSc KSd
    have KN_ := Cel3.new w4 (.bool false) (.slice avN 0 cvN) (.slice avN' 0 cvN') 26
    have halKN : Below w4.heap.size w4 (w4.alloc (.cells #[.bool false, .slice avN 0 cvN, .slice avN' 0 cvN'] 26)) := old_alloc (Below.refl _ _) _
    replace X := X.later halKN
    replace Y := Y.later halKN
    replace KF := KF.old halKN
    replace KR := KR.old halKN
    replace KW := KW.old halKN
    replace KS := KS.old halKN
    replace hB := old_trans hB halKN
    clear halKN
    have KN := KN_
    clear KN_
    obtain ⟨KFa, ⟨KFb, KFc, KFd⟩, -⟩ := id KF
    obtain ⟨KRa, ⟨KRb, KRc, KRd⟩, -⟩ := id KR
    obtain ⟨KWa, ⟨KWb, KWc, KWd⟩, -⟩ := id KW
    obtain ⟨KSa, ⟨KSb, KSc, KSd⟩, -⟩ := id KS
    obtain ⟨KNa, ⟨KNb, KNc, KNd⟩, -⟩ := id KN
    go_wp2_with fail
    refine (OK.out _ _ _ _ _ _ _ X.inI Y.inI).mono ?_
    rintro e w5 ⟨rfl, hb5⟩
    clear KFa KFb KFc KFd KRa KRb KRc KRd KWa KWb KWc KWd KSa KSb KSc KSd KNa KNb KNc KNd
    replace X := X.later hb5
    replace Y := Y.later hb5
    replace KF := KF.old hb5
    replace KR := KR.old hb5
    replace KW := KW.old hb5
    replace KS := KS.old hb5
    replace KN := KN.old hb5
    replace hB := old_trans hB hb5
    clear hb5
    obtain ⟨KFa, ⟨KFb, KFc, KFd⟩, -⟩ := id KF
    obtain ⟨KRa, ⟨KRb, KRc, KRd⟩, -⟩ := id KR
    obtain ⟨KWa, ⟨KWb, KWc, KWd⟩, -⟩ := id KW
    obtain ⟨KSa, ⟨KSb, KSc, KSd⟩, -⟩ := id KS
    obtain ⟨KNa, ⟨KNb, KNc, KNd⟩, -⟩ := id KN
    go_wp2
    go_ret
    exact ⟨rfl, hB⟩
  have OK := hd (fun a b la lb ca cb w g1 g2 => oOk h1 a b la lb ca cb w g1 g2)
  have lo := fracOk_low h1
  have q := fracOk_in h1
  have hg2 := low_of_cop (sq_cop q.2.2.2.1)
  obtain ⟨fl, hfl⟩ : ∃ fl, flN bl (val xs) (val ys) = fl := ⟨_, rfl⟩
  obtain ⟨bn, hbn⟩ : ∃ bn, (bl && decide (fl ≠ 0)) = bn := ⟨_, rfl⟩
  have lfl : (natL fl).length ≤ 256 := by rw [← hfl]; exact fl_len h1
  have hnok : fracOk bn (natL fl) (natL 1) = true := by
    have h9 := low_frac (s := bl) (low_oneB lfl)
    rw [(low_one fl).1, (low_one fl).2, hbn] at h9
    exact h9
  have FL := hd (fun a b la lb ca cb w g1 g2 g3 => FRes.calls (tl := natL fl) (ul := natL 1) (sg := bn) (FF.out a b la lb ca cb w g1 g2 g3) (by rw [h1, hfl, low_oneB lfl]; rfl) (by rw [hfl, (low_one fl).1]) (by rw [hfl, (low_one fl).2]) (by rw [hfl, hbn]))
  have AB := hd (fun a b la lb ca cb w g1 g2 (g3 : Tab w ∧ ET w) => FRes.calls (iFracAbs bl a b la lb ca cb xs ys w g1 g2 g3.1 g3.2) h1 lo.2.1 lo.2.2 (sg := false) rfl)
  have up := up_cmp h1 hfl hbn
  obtain ⟨c, hc, hc0⟩ : ∃ c, c3 (pab bn (natL fl) (natL 1) bl xs ys) = c ∧ c ≤ 0 := ⟨_, rfl, up.1⟩
  have CN := hd (fun a b la lb ca cb c d lc ld cc cd w g1 g2 g3 g4 g5 => oCmp hnok h1 hc a b la lb ca cb c d lc ld cc cd w g1 g2 g3 g4 g5)
  have AD := hd (fun a b la lb ca cb c d lc ld cc cd w g1 g2 g3 g4 (g5 : Tab w ∧ ET w) => iFracAdd bn a b la lb ca cb (natL fl) (natL 1) false c d lc ld cc cd (natL 1) (natL 1) w g1 g2 g3 g4 g5.1 g5.2)
  rw [hnok, fracOk_one] at AD
  simp only [val_natL, Bool.true_and] at AD
  have I1 := hd iOneF
  have PF := hd (fun bf xs ys a b a' b' la lb ca cb ca' cb' w h1 h2 h3 h4 => lPwFrac bf a b a' b' la lb ca cb ca' cb' xs ys w h1 h2 h3 h4)
  have P1 := hd (fun a b ca cb w g1 g2 => pw_one a b ca cb w g1 g2)
  have hone := hd (fun w => one_in w 3)
  have ADC : Hid (∃ (y sg : Bool) (tl ul : List Int), (y = true → ∀ (a b : Option Addr) (la lb ca cb : Nat) (c d : Option Addr) (lc ld cc cd : Nat) (w : World), InI w a la ca xs → InI w b lb cb ys → InI w c lc cc tl → InI w d ld cd ul → Tab w ∧ ET w → Calls Tryz.prog 21 #[.agg #[.bool bl, .slice a la ca, .slice b lb cb], .agg #[.bool sg, .slice c lc cc, .slice d ld cd]] w fun e w' => e = .returned (.int .i64 (-1)) ∧ Below w.heap.size w w') ∧ ∀ (a b : Option Addr) (la lb ca cb : Nat) (c d : Option Addr) (lc ld cc cd : Nat) (w : World), InI w a la ca (natL fl) → InI w b lb cb (natL 1) → InI w c lc cc (natL 1) → InI w d ld cd (natL 1) → Tab w ∧ ET w → Calls Tryz.prog 19 #[.agg #[.bool bn, .slice a la ca, .slice b lb cb], .agg #[.bool false, .slice c lc cc, .slice d ld cd]] w fun e w' => (∃ av cv av' cv', e = .returned (.tuple #[.agg #[.bool sg, .slice av tl.length cv, .slice av' ul.length cv'], .bool y]) ∧ OI w' w.heap.size av cv tl ∧ OI w' w.heap.size av' cv' ul) ∧ Below w.heap.size w w') := by
    show ∃ _, _
    cases hy : lowB (sumN bn false (fl * 1) (1 * 1)) (1 * 1)
    · refine ⟨false, false, [], [], fun h => (by cases h), fun a b la lb ca cb c d lc ld cc cd w g1 g2 g3 g4 g5 => ?_⟩
      have h9 := AD.out a b la lb ca cb c d lc ld cc cd w g1 g2 g3 g4 g5
      rw [hy] at h9
      refine h9.mono ?_
      rintro e w' ⟨⟨av, cv, av', cv', e1, O1, O2, -⟩, hb⟩
      exact ⟨⟨av, cv, av', cv', e1, O1, O2⟩, hb⟩
    · refine ⟨true, _, _, _, fun _ a b la lb ca cb c d lc ld cc cd w g1 g2 g3 g4 g5 => oCmp h1 (low_frac hy) (up.2 hy) a b la lb ca cb c d lc ld cc cd w g1 g2 g3 g4 g5, fun a b la lb ca cb c d lc ld cc cd w g1 g2 g3 g4 g5 => ?_⟩
      have h9 := AD.out a b la lb ca cb c d lc ld cc cd w g1 g2 g3 g4 g5
      rw [hy] at h9
      exact FRes.calls h9 rfl rfl rfl rfl
  obtain ⟨y, sg, tl, ul, hyc_, AC_⟩ := ADC.out
  have hyc := hd hyc_
  have AC := hd AC_
  clear ADC AD hyc_ AC_ up hc hnok lfl hfl hbn FF
  cases hk : rtOk bl xs ys r s
  · skip
    have RT := hd (fun a b la lb ca cb w g1 g2 g3 => FRes.callsN (IR.out a b la lb ca cb w g1 g2 g3) (by rw [h1, hk]; rfl))
    have ST := hd (fun a b la lb ca cb w g1 g2 => FRes.callsN (SR.out a b la lb ca cb w g1 g2) (by rw [h1, hk]; rfl))
    clear IR SR hk
    cases hq : lowB (val xs * val xs) (val ys * val ys)
    · skip
      have MS := hd (fun a b la lb ca cb c d lc ld cc cd w g1 g2 g3 g4 g5 => FRes.callsN (MF.out a b la lb ca cb c d lc ld cc cd w g1 g2 g3 g4 g5) (by rw [h1, hq]; rfl))
      clear MF hq h1 lo q hg2 hr hs AB
      generalize natL fl = nl at *
      generalize natL 1 = ol at *
      cases y
      · skip
        clear hyc
        go_wp2_with fail
        refine (RT.out _ _ _ _ _ _ _ X.inI Y.inI (TT.out _ hB)).mono ?_
        rintro e w1 ⟨⟨avR, cvR, avR', cvR', rfl⟩, hb1⟩
        clear KFa KFb KFc KFd
        replace X := X.later hb1
        replace Y := Y.later hb1
        replace KF := KF.old hb1
        replace hB := old_trans hB hb1
        clear hb1
        obtain ⟨KFa, ⟨KFb, KFc, KFd⟩, -⟩ := id KF
        clear KFa KFb KFc KFd
        have KR_ := Cel3.new w1 (.bool false) (.slice avR 0 cvR) (.slice avR' 0 cvR') 26
        have halKR : Below w1.heap.size w1 (w1.alloc (.cells #[.bool false, .slice avR 0 cvR, .slice avR' 0 cvR'] 26)) := old_alloc (Below.refl _ _) _
        replace X := X.later halKR
        replace Y := Y.later halKR
        replace KF := KF.old halKR
        replace hB := old_trans hB halKR
        clear halKR
        have KR := KR_
        clear KR_
        obtain ⟨KFa, ⟨KFb, KFc, KFd⟩, -⟩ := id KF
        obtain ⟨KRa, ⟨KRb, KRc, KRd⟩, -⟩ := id KR
        go_wp2_with fail
        refine (ST.out _ _ _ _ _ _ _ X.inI Y.inI).mono ?_
        rintro e w2 ⟨⟨avW, cvW, avW', cvW', rfl⟩, hb2⟩
        clear KFa KFb KFc KFd KRa KRb KRc KRd
        replace X := X.later hb2
        replace Y := Y.later hb2
        replace KF := KF.old hb2
        replace KR := KR.old hb2
        replace hB := old_trans hB hb2
        clear hb2
        obtain ⟨KFa, ⟨KFb, KFc, KFd⟩, -⟩ := id KF
        obtain ⟨KRa, ⟨KRb, KRc, KRd⟩, -⟩ := id KR
        clear KFa KFb KFc KFd KRa KRb KRc KRd
        have KW_ := Cel3.new w2 (.bool false) (.slice avW 0 cvW) (.slice avW' 0 cvW') 26
        have halKW : Below w2.heap.size w2 (w2.alloc (.cells #[.bool false, .slice avW 0 cvW, .slice avW' 0 cvW'] 26)) := old_alloc (Below.refl _ _) _
        replace X := X.later halKW
        replace Y := Y.later halKW
        replace KF := KF.old halKW
        replace KR := KR.old halKW
        replace hB := old_trans hB halKW
        clear halKW
        have KW := KW_
        clear KW_
        obtain ⟨KFa, ⟨KFb, KFc, KFd⟩, -⟩ := id KF
        obtain ⟨KRa, ⟨KRb, KRc, KRd⟩, -⟩ := id KR
        obtain ⟨KWa, ⟨KWb, KWc, KWd⟩, -⟩ := id KW
        clear KFa KFb KFc KFd KRa KRb KRc KRd KWa KWb KWc KWd
        clear KR KW
        obtain ⟨KFa, ⟨KFb, KFc, KFd⟩, -⟩ := id KF
        go_wp2_with fail
        refine (MS.out _ _ _ _ _ _ _ _ _ _ _ _ _ X.inI Y.inI X.inI Y.inI (TT.out _ hB)).mono ?_
        rintro e w3 ⟨⟨avS, cvS, avS', cvS', rfl⟩, hb3⟩
        clear KFa KFb KFc KFd
        replace X := X.later hb3
        replace Y := Y.later hb3
        replace KF := KF.old hb3
        replace hB := old_trans hB hb3
        clear hb3
        obtain ⟨KFa, ⟨KFb, KFc, KFd⟩, -⟩ := id KF
        clear KFa KFb KFc KFd
        have KS_ := Cel3.new w3 (.bool false) (.slice avS 0 cvS) (.slice avS' 0 cvS') 26
        have halKS : Below w3.heap.size w3 (w3.alloc (.cells #[.bool false, .slice avS 0 cvS, .slice avS' 0 cvS'] 26)) := old_alloc (Below.refl _ _) _
        replace X := X.later halKS
        replace Y := Y.later halKS
        replace KF := KF.old halKS
        replace hB := old_trans hB halKS
        clear halKS
        have KS := KS_
        clear KS_
        obtain ⟨KFa, ⟨KFb, KFc, KFd⟩, -⟩ := id KF
        obtain ⟨KSa, ⟨KSb, KSc, KSd⟩, -⟩ := id KS
        clear KFa KFb KFc KFd KSa KSb KSc KSd
        clear KS
        obtain ⟨KFa, ⟨KFb, KFc, KFd⟩, -⟩ := id KF
        go_wp2_with fail
        refine (FL.out _ _ _ _ _ _ _ X.inI Y.inI (TT.out _ hB)).mono ?_
        rintro e w4 ⟨⟨avN, cvN, avN', cvN', rfl, N, N'⟩, hb4⟩
        clear KFa KFb KFc KFd
        replace X := X.later hb4
        replace Y := Y.later hb4
        replace KF := KF.old hb4
        replace hB := old_trans hB hb4
        clear hb4
        obtain ⟨KFa, ⟨KFb, KFc, KFd⟩, -⟩ := id KF
        clear KFa KFb KFc KFd
        have KN_ := Cel3.new w4 (.bool bn) (.slice avN nl.length cvN) (.slice avN' ol.length cvN') 26
        have halKN : Below w4.heap.size w4 (w4.alloc (.cells #[.bool bn, .slice avN nl.length cvN, .slice avN' ol.length cvN'] 26)) := old_alloc (Below.refl _ _) _
        replace X := X.later halKN
        replace Y := Y.later halKN
        replace N := N.later halKN
        replace N' := N'.later halKN
        replace KF := KF.old halKN
        replace hB := old_trans hB halKN
        clear halKN
        have KN := KN_
        clear KN_
        obtain ⟨KFa, ⟨KFb, KFc, KFd⟩, -⟩ := id KF
        obtain ⟨KNa, ⟨KNb, KNc, KNd⟩, -⟩ := id KN
        go_wp2_with fail
        refine (OK.out _ _ _ _ _ _ _ X.inI Y.inI).mono ?_
        rintro e w5 ⟨rfl, hb5⟩
        clear KFa KFb KFc KFd KNa KNb KNc KNd
        replace X := X.later hb5
        replace Y := Y.later hb5
        replace N := N.later hb5
        replace N' := N'.later hb5
        replace KF := KF.old hb5
        replace KN := KN.old hb5
        replace hB := old_trans hB hb5
        clear hb5
        obtain ⟨KFa, ⟨KFb, KFc, KFd⟩, -⟩ := id KF
        obtain ⟨KNa, ⟨KNb, KNc, KNd⟩, -⟩ := id KN
        have hc0 : w5.cell? ⟨w4.heap.size, 0, none⟩ = some (.bool bn) ∧ w5.cell? ⟨w4.heap.size, 1, none⟩ = some (.slice avN nl.length cvN) ∧ w5.cell? ⟨w4.heap.size, 2, none⟩ = some (.slice avN' ol.length cvN') := ⟨KNb, KNc, KNd⟩
        have TI := hd (fun w' (hS : w'.cell? ⟨w4.heap.size, 0, none⟩ = some (.bool bn) ∧ w'.cell? ⟨w4.heap.size, 1, none⟩ = some (.slice avN nl.length cvN) ∧ w'.cell? ⟨w4.heap.size, 2, none⟩ = some (.slice avN' ol.length cvN')) => (I1.out w').mono (fun e w'' (k : _ ∧ _) => (⟨k, three_old hS k.2⟩ : (_ ∧ _) ∧ (w''.cell? ⟨w4.heap.size, 0, none⟩ = some (.bool bn) ∧ w''.cell? ⟨w4.heap.size, 1, none⟩ = some (.slice avN nl.length cvN) ∧ w''.cell? ⟨w4.heap.size, 2, none⟩ = some (.slice avN' ol.length cvN')))))
        have CT := hd (fun c d cc cd w' (hS : w'.cell? ⟨w4.heap.size, 0, none⟩ = some (.bool bn) ∧ w'.cell? ⟨w4.heap.size, 1, none⟩ = some (.slice avN nl.length cvN) ∧ w'.cell? ⟨w4.heap.size, 2, none⟩ = some (.slice avN' ol.length cvN')) (h : Below w5.heap.size w5 w') (h3 : InI w' c ol.length cc ol) (h4 : InI w' d ol.length cd ol) => (AC.out _ _ _ _ _ _ _ _ _ _ _ _ _ (N.later h).inI (N'.later h).inI h3 h4 (TT.out _ (old_trans hB h))).mono (fun e w'' (k : _ ∧ _) => (⟨k, three_old hS k.2, h.size⟩ : (_ ∧ _) ∧ (w''.cell? ⟨w4.heap.size, 0, none⟩ = some (.bool bn) ∧ w''.cell? ⟨w4.heap.size, 1, none⟩ = some (.slice avN nl.length cvN) ∧ w''.cell? ⟨w4.heap.size, 2, none⟩ = some (.slice avN' ol.length cvN')) ∧ w5.heap.size ≤ w'.heap.size)))
        have nwB : w4.heap.size < w5.heap.size := cell_lt hc0.1
        have nw0 := World.new_ne w5 ⟨w4.heap.size, 0, none⟩ KNb
        have nw1 := World.new_ne w5 ⟨w4.heap.size, 1, none⟩ KNc
        have nw2 := World.new_ne w5 ⟨w4.heap.size, 2, none⟩ KNd
        go_upto_region 23 with fail
        go_cut [18, 19] (fun p q wx => ∃ pb av cv av' cv', p = .pointer (some ⟨pb, 0, none⟩) ∧ q = .bool false ∧ Cel3 wx pb (.bool sg) (.slice av tl.length cv) (.slice av' ul.length cv') ∧ OI wx w5.heap.size av cv tl ∧ OI wx w5.heap.size av' cv' ul ∧ Below w5.heap.size w5 wx)
        case first =>
          go_wp2_with fail
          go_region_held3 (fun w' => w'.cell? ⟨w4.heap.size, 0, none⟩ = some (.bool bn) ∧ w'.cell? ⟨w4.heap.size, 1, none⟩ = some (.slice avN nl.length cvN) ∧ w'.cell? ⟨w4.heap.size, 2, none⟩ = some (.slice avN' ol.length cvN')) (go_keep) (first | (go_at_call 20; refine (TI.out _ (by assumption)).mono ?_; rintro e wx0 ⟨⟨⟨a1, d1, a2, d2, rfl, Q, Q', -⟩, hbx⟩, hcx⟩; have hbx0 := hbx; (with_reducible first | (have lN := NN.lts; have NN := NN.old hbx) | (have lN := NN.drew.lts; have NN := NN.drew.old hbx) | (have pN := newN (R := w5) (by repeat (first | exact Below.refl _ _ | assumption | refine Below.drew ?_ | refine old_alloc ?_ _ | refine old_trans ?_ (by assumption))) hbx; have lN := And.right (And.right pN); have hpN := And.left (And.right pN); have NN := And.left pN) | (have pN := newN' (R := w5) (by repeat (first | exact Below.refl _ _ | assumption | refine Below.drew ?_ | refine old_alloc ?_ _ | refine old_trans ?_ (by assumption))) hbx; have lN := And.right (And.right pN); have hpN := And.left (And.right pN); have NN := And.left pN) | skip); (first | (have NN0 := NN.c0; have NN1 := NN.c1; have NN2 := NN.c2; have NN3 := NN.f0; have NN4 := NN.f1; have NN5 := NN.f2; have q1 := Nat.ne_of_gt (Nat.lt_of_lt_of_le nwB hpN)) | skip)) | (go_at_call 19; refine (CT.out _ _ _ _ _ (by assumption) (by repeat (first | exact Below.refl _ _ | assumption | refine Below.drew ?_ | refine old_alloc ?_ _ | refine old_trans ?_ (by assumption))) (by with_reducible first | exact Q.inI | exact (Q.alloc _).inI) (by with_reducible first | exact Q'.inI | exact (Q'.alloc _).inI)).mono ?_; rintro e wx2 ⟨⟨⟨av, cv, av', cv', rfl, hO, hO'⟩, hbx⟩, hcx, hbs⟩; have hbx2 := hbx; (with_reducible first | (have lN := NN.lts; have NN := NN.old hbx) | (have lN := NN.drew.lts; have NN := NN.drew.old hbx) | (have pN := newN (R := w5) (by repeat (first | exact Below.refl _ _ | assumption | refine Below.drew ?_ | refine old_alloc ?_ _ | refine old_trans ?_ (by assumption))) hbx; have lN := And.right (And.right pN); have hpN := And.left (And.right pN); have NN := And.left pN) | (have pN := newN' (R := w5) (by repeat (first | exact Below.refl _ _ | assumption | refine Below.drew ?_ | refine old_alloc ?_ _ | refine old_trans ?_ (by assumption))) hbx; have lN := And.right (And.right pN); have hpN := And.left (And.right pN); have NN := And.left pN) | skip); (first | (have NN0 := NN.c0; have NN1 := NN.c1; have NN2 := NN.c2; have NN3 := NN.f0; have NN4 := NN.f1; have NN5 := NN.f2; have q1 := Nat.ne_of_gt (Nat.lt_of_lt_of_le nwB hpN)) | skip)))
          all_goals
            go_wp2_with fail
            go_meet
            first | exact ⟨_, av, cv, av', cv', rfl, rfl, NN.setAll _ _ _, (oi_set3 hO lN).mono hbs, (oi_set3 hO' lN).mono hbs, below_set (below_set (below_set (by repeat (first | exact Below.refl _ _ | assumption | refine Below.drew ?_ | refine old_alloc ?_ _ | refine old_trans ?_ (by assumption))) hpN _) hpN _) hpN _⟩ | exact ⟨_, av, cv, av', cv', rfl, rfl, Cel3.new _ _ _ _ _, (hO.alloc _).mono hbs, (hO'.alloc _).mono hbs, (by repeat (first | exact Below.refl _ _ | assumption | refine Below.drew ?_ | refine old_alloc ?_ _ | refine old_trans ?_ (by assumption)))⟩
        case rest =>
          clear KFa KFb KFc KFd KNa KNb KNc KNd
          obtain ⟨wd, hwd⟩ : ∃ x, x = wc := ⟨_, rfl⟩
          subst hwd
          obtain ⟨pb, au, cu, au', cu', rfl, rfl, KP, V, V', hbV⟩ := hcut
          clear hc0 TI CT nwB nw0 nw1 nw2
          replace X := X.later hbV
          replace Y := Y.later hbV
          replace N := N.later hbV
          replace N' := N'.later hbV
          replace KF := KF.old hbV
          replace KN := KN.old hbV
          replace hB := old_trans hB hbV
          clear hbV
          obtain ⟨KFa, ⟨KFb, KFc, KFd⟩, -⟩ := id KF
          obtain ⟨KNa, ⟨KNb, KNc, KNd⟩, -⟩ := id KN
          obtain ⟨KPa, ⟨KPb, KPc, KPd⟩, -⟩ := id KP
          go_wp2_with fail
          refine (CN.out _ _ _ _ _ _ _ _ _ _ _ _ _ N.inI N'.inI X.inI Y.inI (TT.out _ hB)).mono ?_
          rintro e w6 ⟨rfl, hb6⟩
          clear KFa KFb KFc KFd KNa KNb KNc KNd KPa KPb KPc KPd
          replace X := X.later hb6
          replace Y := Y.later hb6
          replace N := N.later hb6
          replace N' := N'.later hb6
          replace V := V.later hb6
          replace V' := V'.later hb6
          replace KF := KF.old hb6
          replace KN := KN.old hb6
          replace KP := KP.old hb6
          replace hB := old_trans hB hb6
          clear hb6
          obtain ⟨KFa, ⟨KFb, KFc, KFd⟩, -⟩ := id KF
          obtain ⟨KNa, ⟨KNb, KNc, KNd⟩, -⟩ := id KN
          obtain ⟨KPa, ⟨KPb, KPc, KPd⟩, -⟩ := id KP
          have al : Below w6.heap.size w6 (w6.alloc (.cells #[.int .i64 1] 3)) := old_alloc (Below.refl _ _) _
          have ON := hone.out w6
          replace N' := N'.later al
          replace hB := old_trans hB al
          clear al
          go_wp2_with fail
          refine (P1.out _ _ _ _ _ N'.inI ON).mono ?_
          rintro e wl ⟨rfl, hbl⟩
          replace hB := old_trans hB hbl
          clear KFa KFb KFc KFd KNa KNb KNc KNd KPa KPb KPc KPd
          clear X Y N V V' KF KP KN
          go_wp2
          go_ret
          exact ⟨rfl, hB⟩
      · skip
        have CU := hd (hyc.out rfl)
        clear hyc
        go_wp2_with fail
        refine (RT.out _ _ _ _ _ _ _ X.inI Y.inI (TT.out _ hB)).mono ?_
        rintro e w1 ⟨⟨avR, cvR, avR', cvR', rfl⟩, hb1⟩
        clear KFa KFb KFc KFd
        replace X := X.later hb1
        replace Y := Y.later hb1
        replace KF := KF.old hb1
        replace hB := old_trans hB hb1
        clear hb1
        obtain ⟨KFa, ⟨KFb, KFc, KFd⟩, -⟩ := id KF
        clear KFa KFb KFc KFd
        have KR_ := Cel3.new w1 (.bool false) (.slice avR 0 cvR) (.slice avR' 0 cvR') 26
        have halKR : Below w1.heap.size w1 (w1.alloc (.cells #[.bool false, .slice avR 0 cvR, .slice avR' 0 cvR'] 26)) := old_alloc (Below.refl _ _) _
        replace X := X.later halKR
        replace Y := Y.later halKR
        replace KF := KF.old halKR
        replace hB := old_trans hB halKR
        clear halKR
        have KR := KR_
        clear KR_
        obtain ⟨KFa, ⟨KFb, KFc, KFd⟩, -⟩ := id KF
        obtain ⟨KRa, ⟨KRb, KRc, KRd⟩, -⟩ := id KR
        go_wp2_with fail
        refine (ST.out _ _ _ _ _ _ _ X.inI Y.inI).mono ?_
        rintro e w2 ⟨⟨avW, cvW, avW', cvW', rfl⟩, hb2⟩
        clear KFa KFb KFc KFd KRa KRb KRc KRd
        replace X := X.later hb2
        replace Y := Y.later hb2
        replace KF := KF.old hb2
        replace KR := KR.old hb2
        replace hB := old_trans hB hb2
        clear hb2
        obtain ⟨KFa, ⟨KFb, KFc, KFd⟩, -⟩ := id KF
        obtain ⟨KRa, ⟨KRb, KRc, KRd⟩, -⟩ := id KR
        clear KFa KFb KFc KFd KRa KRb KRc KRd
        have KW_ := Cel3.new w2 (.bool false) (.slice avW 0 cvW) (.slice avW' 0 cvW') 26
        have halKW : Below w2.heap.size w2 (w2.alloc (.cells #[.bool false, .slice avW 0 cvW, .slice avW' 0 cvW'] 26)) := old_alloc (Below.refl _ _) _
        replace X := X.later halKW
        replace Y := Y.later halKW
        replace KF := KF.old halKW
        replace KR := KR.old halKW
        replace hB := old_trans hB halKW
        clear halKW
        have KW := KW_
        clear KW_
        obtain ⟨KFa, ⟨KFb, KFc, KFd⟩, -⟩ := id KF
        obtain ⟨KRa, ⟨KRb, KRc, KRd⟩, -⟩ := id KR
        obtain ⟨KWa, ⟨KWb, KWc, KWd⟩, -⟩ := id KW
        clear KFa KFb KFc KFd KRa KRb KRc KRd KWa KWb KWc KWd
        clear KR KW
        obtain ⟨KFa, ⟨KFb, KFc, KFd⟩, -⟩ := id KF
        go_wp2_with fail
        refine (MS.out _ _ _ _ _ _ _ _ _ _ _ _ _ X.inI Y.inI X.inI Y.inI (TT.out _ hB)).mono ?_
        rintro e w3 ⟨⟨avS, cvS, avS', cvS', rfl⟩, hb3⟩
        clear KFa KFb KFc KFd
        replace X := X.later hb3
        replace Y := Y.later hb3
        replace KF := KF.old hb3
        replace hB := old_trans hB hb3
        clear hb3
        obtain ⟨KFa, ⟨KFb, KFc, KFd⟩, -⟩ := id KF
        clear KFa KFb KFc KFd
        have KS_ := Cel3.new w3 (.bool false) (.slice avS 0 cvS) (.slice avS' 0 cvS') 26
        have halKS : Below w3.heap.size w3 (w3.alloc (.cells #[.bool false, .slice avS 0 cvS, .slice avS' 0 cvS'] 26)) := old_alloc (Below.refl _ _) _
        replace X := X.later halKS
        replace Y := Y.later halKS
        replace KF := KF.old halKS
        replace hB := old_trans hB halKS
        clear halKS
        have KS := KS_
        clear KS_
        obtain ⟨KFa, ⟨KFb, KFc, KFd⟩, -⟩ := id KF
        obtain ⟨KSa, ⟨KSb, KSc, KSd⟩, -⟩ := id KS
        clear KFa KFb KFc KFd KSa KSb KSc KSd
        clear KS
        obtain ⟨KFa, ⟨KFb, KFc, KFd⟩, -⟩ := id KF
        go_wp2_with fail
        refine (FL.out _ _ _ _ _ _ _ X.inI Y.inI (TT.out _ hB)).mono ?_
        rintro e w4 ⟨⟨avN, cvN, avN', cvN', rfl, N, N'⟩, hb4⟩
        clear KFa KFb KFc KFd
        replace X := X.later hb4
        replace Y := Y.later hb4
        replace KF := KF.old hb4
        replace hB := old_trans hB hb4
        clear hb4
        obtain ⟨KFa, ⟨KFb, KFc, KFd⟩, -⟩ := id KF
        clear KFa KFb KFc KFd
        have KN_ := Cel3.new w4 (.bool bn) (.slice avN nl.length cvN) (.slice avN' ol.length cvN') 26
        have halKN : Below w4.heap.size w4 (w4.alloc (.cells #[.bool bn, .slice avN nl.length cvN, .slice avN' ol.length cvN'] 26)) := old_alloc (Below.refl _ _) _
        replace X := X.later halKN
        replace Y := Y.later halKN
        replace N := N.later halKN
        replace N' := N'.later halKN
        replace KF := KF.old halKN
        replace hB := old_trans hB halKN
        clear halKN
        have KN := KN_
        clear KN_
        obtain ⟨KFa, ⟨KFb, KFc, KFd⟩, -⟩ := id KF
        obtain ⟨KNa, ⟨KNb, KNc, KNd⟩, -⟩ := id KN
        go_wp2_with fail
        refine (OK.out _ _ _ _ _ _ _ X.inI Y.inI).mono ?_
        rintro e w5 ⟨rfl, hb5⟩
        clear KFa KFb KFc KFd KNa KNb KNc KNd
        replace X := X.later hb5
        replace Y := Y.later hb5
        replace N := N.later hb5
        replace N' := N'.later hb5
        replace KF := KF.old hb5
        replace KN := KN.old hb5
        replace hB := old_trans hB hb5
        clear hb5
        obtain ⟨KFa, ⟨KFb, KFc, KFd⟩, -⟩ := id KF
        obtain ⟨KNa, ⟨KNb, KNc, KNd⟩, -⟩ := id KN
        have hc0 : w5.cell? ⟨w4.heap.size, 0, none⟩ = some (.bool bn) ∧ w5.cell? ⟨w4.heap.size, 1, none⟩ = some (.slice avN nl.length cvN) ∧ w5.cell? ⟨w4.heap.size, 2, none⟩ = some (.slice avN' ol.length cvN') := ⟨KNb, KNc, KNd⟩
        have TI := hd (fun w' (hS : w'.cell? ⟨w4.heap.size, 0, none⟩ = some (.bool bn) ∧ w'.cell? ⟨w4.heap.size, 1, none⟩ = some (.slice avN nl.length cvN) ∧ w'.cell? ⟨w4.heap.size, 2, none⟩ = some (.slice avN' ol.length cvN')) => (I1.out w').mono (fun e w'' (k : _ ∧ _) => (⟨k, three_old hS k.2⟩ : (_ ∧ _) ∧ (w''.cell? ⟨w4.heap.size, 0, none⟩ = some (.bool bn) ∧ w''.cell? ⟨w4.heap.size, 1, none⟩ = some (.slice avN nl.length cvN) ∧ w''.cell? ⟨w4.heap.size, 2, none⟩ = some (.slice avN' ol.length cvN')))))
        have CT := hd (fun c d cc cd w' (hS : w'.cell? ⟨w4.heap.size, 0, none⟩ = some (.bool bn) ∧ w'.cell? ⟨w4.heap.size, 1, none⟩ = some (.slice avN nl.length cvN) ∧ w'.cell? ⟨w4.heap.size, 2, none⟩ = some (.slice avN' ol.length cvN')) (h : Below w5.heap.size w5 w') (h3 : InI w' c ol.length cc ol) (h4 : InI w' d ol.length cd ol) => (AC.out _ _ _ _ _ _ _ _ _ _ _ _ _ (N.later h).inI (N'.later h).inI h3 h4 (TT.out _ (old_trans hB h))).mono (fun e w'' (k : _ ∧ _) => (⟨k, three_old hS k.2, h.size⟩ : (_ ∧ _) ∧ (w''.cell? ⟨w4.heap.size, 0, none⟩ = some (.bool bn) ∧ w''.cell? ⟨w4.heap.size, 1, none⟩ = some (.slice avN nl.length cvN) ∧ w''.cell? ⟨w4.heap.size, 2, none⟩ = some (.slice avN' ol.length cvN')) ∧ w5.heap.size ≤ w'.heap.size)))
        have nwB : w4.heap.size < w5.heap.size := cell_lt hc0.1
        have nw0 := World.new_ne w5 ⟨w4.heap.size, 0, none⟩ KNb
        have nw1 := World.new_ne w5 ⟨w4.heap.size, 1, none⟩ KNc
        have nw2 := World.new_ne w5 ⟨w4.heap.size, 2, none⟩ KNd
        go_upto_region 23 with fail
        go_cut [18, 19] (fun p q wx => ∃ pb av cv av' cv', p = .pointer (some ⟨pb, 0, none⟩) ∧ q = .bool true ∧ Cel3 wx pb (.bool sg) (.slice av tl.length cv) (.slice av' ul.length cv') ∧ OI wx w5.heap.size av cv tl ∧ OI wx w5.heap.size av' cv' ul ∧ Below w5.heap.size w5 wx)
        case first =>
          go_wp2_with fail
          go_region_held3 (fun w' => w'.cell? ⟨w4.heap.size, 0, none⟩ = some (.bool bn) ∧ w'.cell? ⟨w4.heap.size, 1, none⟩ = some (.slice avN nl.length cvN) ∧ w'.cell? ⟨w4.heap.size, 2, none⟩ = some (.slice avN' ol.length cvN')) (go_keep) (first | (go_at_call 20; refine (TI.out _ (by assumption)).mono ?_; rintro e wx0 ⟨⟨⟨a1, d1, a2, d2, rfl, Q, Q', -⟩, hbx⟩, hcx⟩; have hbx0 := hbx; (with_reducible first | (have lN := NN.lts; have NN := NN.old hbx) | (have lN := NN.drew.lts; have NN := NN.drew.old hbx) | (have pN := newN (R := w5) (by repeat (first | exact Below.refl _ _ | assumption | refine Below.drew ?_ | refine old_alloc ?_ _ | refine old_trans ?_ (by assumption))) hbx; have lN := And.right (And.right pN); have hpN := And.left (And.right pN); have NN := And.left pN) | (have pN := newN' (R := w5) (by repeat (first | exact Below.refl _ _ | assumption | refine Below.drew ?_ | refine old_alloc ?_ _ | refine old_trans ?_ (by assumption))) hbx; have lN := And.right (And.right pN); have hpN := And.left (And.right pN); have NN := And.left pN) | skip); (first | (have NN0 := NN.c0; have NN1 := NN.c1; have NN2 := NN.c2; have NN3 := NN.f0; have NN4 := NN.f1; have NN5 := NN.f2; have q1 := Nat.ne_of_gt (Nat.lt_of_lt_of_le nwB hpN)) | skip)) | (go_at_call 19; refine (CT.out _ _ _ _ _ (by assumption) (by repeat (first | exact Below.refl _ _ | assumption | refine Below.drew ?_ | refine old_alloc ?_ _ | refine old_trans ?_ (by assumption))) (by with_reducible first | exact Q.inI | exact (Q.alloc _).inI) (by with_reducible first | exact Q'.inI | exact (Q'.alloc _).inI)).mono ?_; rintro e wx2 ⟨⟨⟨av, cv, av', cv', rfl, hO, hO'⟩, hbx⟩, hcx, hbs⟩; have hbx2 := hbx; (with_reducible first | (have lN := NN.lts; have NN := NN.old hbx) | (have lN := NN.drew.lts; have NN := NN.drew.old hbx) | (have pN := newN (R := w5) (by repeat (first | exact Below.refl _ _ | assumption | refine Below.drew ?_ | refine old_alloc ?_ _ | refine old_trans ?_ (by assumption))) hbx; have lN := And.right (And.right pN); have hpN := And.left (And.right pN); have NN := And.left pN) | (have pN := newN' (R := w5) (by repeat (first | exact Below.refl _ _ | assumption | refine Below.drew ?_ | refine old_alloc ?_ _ | refine old_trans ?_ (by assumption))) hbx; have lN := And.right (And.right pN); have hpN := And.left (And.right pN); have NN := And.left pN) | skip); (first | (have NN0 := NN.c0; have NN1 := NN.c1; have NN2 := NN.c2; have NN3 := NN.f0; have NN4 := NN.f1; have NN5 := NN.f2; have q1 := Nat.ne_of_gt (Nat.lt_of_lt_of_le nwB hpN)) | skip)))
          all_goals
            go_wp2_with fail
            go_meet
            first | exact ⟨_, av, cv, av', cv', rfl, rfl, NN.setAll _ _ _, (oi_set3 hO lN).mono hbs, (oi_set3 hO' lN).mono hbs, below_set (below_set (below_set (by repeat (first | exact Below.refl _ _ | assumption | refine Below.drew ?_ | refine old_alloc ?_ _ | refine old_trans ?_ (by assumption))) hpN _) hpN _) hpN _⟩ | exact ⟨_, av, cv, av', cv', rfl, rfl, Cel3.new _ _ _ _ _, (hO.alloc _).mono hbs, (hO'.alloc _).mono hbs, (by repeat (first | exact Below.refl _ _ | assumption | refine Below.drew ?_ | refine old_alloc ?_ _ | refine old_trans ?_ (by assumption)))⟩
        case rest =>
          clear KFa KFb KFc KFd KNa KNb KNc KNd
          obtain ⟨wd, hwd⟩ : ∃ x, x = wc := ⟨_, rfl⟩
          subst hwd
          obtain ⟨pb, au, cu, au', cu', rfl, rfl, KP, V, V', hbV⟩ := hcut
          clear hc0 TI CT nwB nw0 nw1 nw2
          replace X := X.later hbV
          replace Y := Y.later hbV
          replace N := N.later hbV
          replace N' := N'.later hbV
          replace KF := KF.old hbV
          replace KN := KN.old hbV
          replace hB := old_trans hB hbV
          clear hbV
          obtain ⟨KFa, ⟨KFb, KFc, KFd⟩, -⟩ := id KF
          obtain ⟨KNa, ⟨KNb, KNc, KNd⟩, -⟩ := id KN
          obtain ⟨KPa, ⟨KPb, KPc, KPd⟩, -⟩ := id KP
          go_wp2_with fail
          refine (CN.out _ _ _ _ _ _ _ _ _ _ _ _ _ N.inI N'.inI X.inI Y.inI (TT.out _ hB)).mono ?_
          rintro e w6 ⟨rfl, hb6⟩
          clear KFa KFb KFc KFd KNa KNb KNc KNd KPa KPb KPc KPd
          replace X := X.later hb6
          replace Y := Y.later hb6
          replace N := N.later hb6
          replace N' := N'.later hb6
          replace V := V.later hb6
          replace V' := V'.later hb6
          replace KF := KF.old hb6
          replace KN := KN.old hb6
          replace KP := KP.old hb6
          replace hB := old_trans hB hb6
          clear hb6
          obtain ⟨KFa, ⟨KFb, KFc, KFd⟩, -⟩ := id KF
          obtain ⟨KNa, ⟨KNb, KNc, KNd⟩, -⟩ := id KN
          obtain ⟨KPa, ⟨KPb, KPc, KPd⟩, -⟩ := id KP
          go_wp2_with fail
          refine (CU.out _ _ _ _ _ _ _ _ _ _ _ _ _ X.inI Y.inI V.inI V'.inI (TT.out _ hB)).mono ?_
          rintro e w7 ⟨rfl, hb7⟩
          clear KFa KFb KFc KFd KNa KNb KNc KNd KPa KPb KPc KPd
          replace X := X.later hb7
          replace Y := Y.later hb7
          replace N := N.later hb7
          replace N' := N'.later hb7
          replace V := V.later hb7
          replace V' := V'.later hb7
          replace KF := KF.old hb7
          replace KN := KN.old hb7
          replace KP := KP.old hb7
          replace hB := old_trans hB hb7
          clear hb7
          obtain ⟨KFa, ⟨KFb, KFc, KFd⟩, -⟩ := id KF
          obtain ⟨KNa, ⟨KNb, KNc, KNd⟩, -⟩ := id KN
          obtain ⟨KPa, ⟨KPb, KPc, KPd⟩, -⟩ := id KP
          have al : Below w7.heap.size w7 (w7.alloc (.cells #[.int .i64 1] 3)) := old_alloc (Below.refl _ _) _
          have ON := hone.out w7
          replace N' := N'.later al
          replace hB := old_trans hB al
          clear al
          go_wp2_with fail
          refine (P1.out _ _ _ _ _ N'.inI ON).mono ?_
          rintro e wl ⟨rfl, hbl⟩
          replace hB := old_trans hB hbl
          clear KFa KFb KFc KFd KNa KNb KNc KNd KPa KPb KPc KPd
          clear X Y N V V' KF KP KN
          go_wp2
          go_ret
          exact ⟨rfl, hB⟩
    · skip
      have MS := hd (fun a b la lb ca cb c d lc ld cc cd w g1 g2 g3 g4 g5 => FRes.calls (MF.out a b la lb ca cb c d lc ld cc cd w g1 g2 g3 g4 g5) (by rw [h1, hq]; rfl) hg2.1 hg2.2 (sg := false) (by cases bl <;> rfl))
      have l2 := lowB_in hq
      rw [hg2.1, hg2.2] at l2
      have hso : fracOk false (natL (val xs * val xs)) (natL (val ys * val ys)) = true := by
        have h9 := low_frac (s := false) hq
        rw [hg2.1, hg2.2] at h9
        exact h9
      have hrt : rtOk false (natL (val xs * val xs)) (natL (val ys * val ys)) (val xs) (val ys) = true := by
        unfold rtOk rootX
        rw [natOk_natL (natL_len.1 l2.2.1), natOk_natL (natL_len.1 l2.2.2), val_natL, val_natL, decide_eq_true rfl, decide_eq_true rfl]
        rfl
      have RS := hd (fun a b la lb ca cb w g1 g2 (g3 : Tab w ∧ ET w) => FRes.calls (iFracRoot false a b la lb ca cb (natL (val xs * val xs)) (natL (val ys * val ys)) (val xs) (val ys) (by rw [val_natL]; exact isRoot_sq _) (by rw [val_natL]; exact isRoot_sq _) w g1 g2 g3.1 g3.2) (by rw [hso, hrt, lo.1]; rfl) lo.2.1 lo.2.2 (sg := false) rfl)
      clear MF hq h1 lo q hg2 hr hs l2 hso hrt
      generalize natL (val xs * val xs) = x2 at *
      generalize natL (val ys * val ys) = y2 at *
      generalize natL fl = nl at *
      generalize natL 1 = ol at *
      cases y
      · skip
        clear hyc
        go_wp2_with fail
        refine (RT.out _ _ _ _ _ _ _ X.inI Y.inI (TT.out _ hB)).mono ?_
        rintro e w1 ⟨⟨avR, cvR, avR', cvR', rfl⟩, hb1⟩
        clear KFa KFb KFc KFd
        replace X := X.later hb1
        replace Y := Y.later hb1
        replace KF := KF.old hb1
        replace hB := old_trans hB hb1
        clear hb1
        obtain ⟨KFa, ⟨KFb, KFc, KFd⟩, -⟩ := id KF
        clear KFa KFb KFc KFd
        have KR_ := Cel3.new w1 (.bool false) (.slice avR 0 cvR) (.slice avR' 0 cvR') 26
        have halKR : Below w1.heap.size w1 (w1.alloc (.cells #[.bool false, .slice avR 0 cvR, .slice avR' 0 cvR'] 26)) := old_alloc (Below.refl _ _) _
        replace X := X.later halKR
        replace Y := Y.later halKR
        replace KF := KF.old halKR
        replace hB := old_trans hB halKR
        clear halKR
        have KR := KR_
        clear KR_
        obtain ⟨KFa, ⟨KFb, KFc, KFd⟩, -⟩ := id KF
        obtain ⟨KRa, ⟨KRb, KRc, KRd⟩, -⟩ := id KR
        go_wp2_with fail
        refine (ST.out _ _ _ _ _ _ _ X.inI Y.inI).mono ?_
        rintro e w2 ⟨⟨avW, cvW, avW', cvW', rfl⟩, hb2⟩
        clear KFa KFb KFc KFd KRa KRb KRc KRd
        replace X := X.later hb2
        replace Y := Y.later hb2
        replace KF := KF.old hb2
        replace KR := KR.old hb2
        replace hB := old_trans hB hb2
        clear hb2
        obtain ⟨KFa, ⟨KFb, KFc, KFd⟩, -⟩ := id KF
        obtain ⟨KRa, ⟨KRb, KRc, KRd⟩, -⟩ := id KR
        clear KFa KFb KFc KFd KRa KRb KRc KRd
        have KW_ := Cel3.new w2 (.bool false) (.slice avW 0 cvW) (.slice avW' 0 cvW') 26
        have halKW : Below w2.heap.size w2 (w2.alloc (.cells #[.bool false, .slice avW 0 cvW, .slice avW' 0 cvW'] 26)) := old_alloc (Below.refl _ _) _
        replace X := X.later halKW
        replace Y := Y.later halKW
        replace KF := KF.old halKW
        replace KR := KR.old halKW
        replace hB := old_trans hB halKW
        clear halKW
        have KW := KW_
        clear KW_
        obtain ⟨KFa, ⟨KFb, KFc, KFd⟩, -⟩ := id KF
        obtain ⟨KRa, ⟨KRb, KRc, KRd⟩, -⟩ := id KR
        obtain ⟨KWa, ⟨KWb, KWc, KWd⟩, -⟩ := id KW
        clear KFa KFb KFc KFd KRa KRb KRc KRd KWa KWb KWc KWd
        clear KR KW
        obtain ⟨KFa, ⟨KFb, KFc, KFd⟩, -⟩ := id KF
        go_wp2_with fail
        refine (MS.out _ _ _ _ _ _ _ _ _ _ _ _ _ X.inI Y.inI X.inI Y.inI (TT.out _ hB)).mono ?_
        rintro e w3 ⟨⟨avS, cvS, avS', cvS', rfl, S, S'⟩, hb3⟩
        clear KFa KFb KFc KFd
        replace X := X.later hb3
        replace Y := Y.later hb3
        replace KF := KF.old hb3
        replace hB := old_trans hB hb3
        clear hb3
        obtain ⟨KFa, ⟨KFb, KFc, KFd⟩, -⟩ := id KF
        clear KFa KFb KFc KFd
        have KS_ := Cel3.new w3 (.bool false) (.slice avS x2.length cvS) (.slice avS' y2.length cvS') 26
        have halKS : Below w3.heap.size w3 (w3.alloc (.cells #[.bool false, .slice avS x2.length cvS, .slice avS' y2.length cvS'] 26)) := old_alloc (Below.refl _ _) _
        replace X := X.later halKS
        replace Y := Y.later halKS
        replace S := S.later halKS
        replace S' := S'.later halKS
        replace KF := KF.old halKS
        replace hB := old_trans hB halKS
        clear halKS
        have KS := KS_
        clear KS_
        obtain ⟨KFa, ⟨KFb, KFc, KFd⟩, -⟩ := id KF
        obtain ⟨KSa, ⟨KSb, KSc, KSd⟩, -⟩ := id KS
        go_wp2_with fail
        refine (RS.out _ _ _ _ _ _ _ S.inI S'.inI (TT.out _ hB)).mono ?_
        rintro e w4 ⟨⟨avT, cvT, avT', cvT', rfl, T, T'⟩, hb4⟩
        clear KFa KFb KFc KFd KSa KSb KSc KSd
        replace X := X.later hb4
        replace Y := Y.later hb4
        replace S := S.later hb4
        replace S' := S'.later hb4
        replace KF := KF.old hb4
        replace KS := KS.old hb4
        replace hB := old_trans hB hb4
        clear hb4
        obtain ⟨KFa, ⟨KFb, KFc, KFd⟩, -⟩ := id KF
        obtain ⟨KSa, ⟨KSb, KSc, KSd⟩, -⟩ := id KS
        clear KFa KFb KFc KFd KSa KSb KSc KSd
        have KT_ := Cel3.new w4 (.bool false) (.slice avT xs.length cvT) (.slice avT' ys.length cvT') 26
        have halKT : Below w4.heap.size w4 (w4.alloc (.cells #[.bool false, .slice avT xs.length cvT, .slice avT' ys.length cvT'] 26)) := old_alloc (Below.refl _ _) _
        replace X := X.later halKT
        replace Y := Y.later halKT
        replace S := S.later halKT
        replace S' := S'.later halKT
        replace T := T.later halKT
        replace T' := T'.later halKT
        replace KF := KF.old halKT
        replace KS := KS.old halKT
        replace hB := old_trans hB halKT
        clear halKT
        have KT := KT_
        clear KT_
        obtain ⟨KFa, ⟨KFb, KFc, KFd⟩, -⟩ := id KF
        obtain ⟨KSa, ⟨KSb, KSc, KSd⟩, -⟩ := id KS
        obtain ⟨KTa, ⟨KTb, KTc, KTd⟩, -⟩ := id KT
        go_wp2_with fail
        refine (AB.out _ _ _ _ _ _ _ X.inI Y.inI (TT.out _ hB)).mono ?_
        rintro e w5 ⟨⟨avU, cvU, avU', cvU', rfl, U, U'⟩, hb5⟩
        clear KFa KFb KFc KFd KSa KSb KSc KSd KTa KTb KTc KTd
        replace X := X.later hb5
        replace Y := Y.later hb5
        replace S := S.later hb5
        replace S' := S'.later hb5
        replace T := T.later hb5
        replace T' := T'.later hb5
        replace KF := KF.old hb5
        replace KS := KS.old hb5
        replace KT := KT.old hb5
        replace hB := old_trans hB hb5
        clear hb5
        obtain ⟨KFa, ⟨KFb, KFc, KFd⟩, -⟩ := id KF
        obtain ⟨KSa, ⟨KSb, KSc, KSd⟩, -⟩ := id KS
        obtain ⟨KTa, ⟨KTb, KTc, KTd⟩, -⟩ := id KT
        clear KFa KFb KFc KFd KSa KSb KSc KSd KTa KTb KTc KTd
        have KU_ := Cel3.new w5 (.bool false) (.slice avU xs.length cvU) (.slice avU' ys.length cvU') 26
        have halKU : Below w5.heap.size w5 (w5.alloc (.cells #[.bool false, .slice avU xs.length cvU, .slice avU' ys.length cvU'] 26)) := old_alloc (Below.refl _ _) _
        replace X := X.later halKU
        replace Y := Y.later halKU
        replace S := S.later halKU
        replace S' := S'.later halKU
        replace T := T.later halKU
        replace T' := T'.later halKU
        replace U := U.later halKU
        replace U' := U'.later halKU
        replace KF := KF.old halKU
        replace KS := KS.old halKU
        replace KT := KT.old halKU
        replace hB := old_trans hB halKU
        clear halKU
        have KU := KU_
        clear KU_
        obtain ⟨KFa, ⟨KFb, KFc, KFd⟩, -⟩ := id KF
        obtain ⟨KSa, ⟨KSb, KSc, KSd⟩, -⟩ := id KS
        obtain ⟨KTa, ⟨KTb, KTc, KTd⟩, -⟩ := id KT
        obtain ⟨KUa, ⟨KUb, KUc, KUd⟩, -⟩ := id KU
        go_wp2_with fail
        refine (PF.out _ _ _ _ _ _ _ _ _ _ _ _ _ _ T.inI T'.inI U.inI U'.inI).mono ?_
        rintro e w6 ⟨rfl, hb6⟩
        clear KFa KFb KFc KFd KSa KSb KSc KSd KTa KTb KTc KTd KUa KUb KUc KUd
        replace X := X.later hb6
        replace Y := Y.later hb6
        replace S := S.later hb6
        replace S' := S'.later hb6
        replace T := T.later hb6
        replace T' := T'.later hb6
        replace U := U.later hb6
        replace U' := U'.later hb6
        replace KF := KF.old hb6
        replace KS := KS.old hb6
        replace KT := KT.old hb6
        replace KU := KU.old hb6
        replace hB := old_trans hB hb6
        clear hb6
        obtain ⟨KFa, ⟨KFb, KFc, KFd⟩, -⟩ := id KF
        obtain ⟨KSa, ⟨KSb, KSc, KSd⟩, -⟩ := id KS
        obtain ⟨KTa, ⟨KTb, KTc, KTd⟩, -⟩ := id KT
        obtain ⟨KUa, ⟨KUb, KUc, KUd⟩, -⟩ := id KU
        clear KFa KFb KFc KFd KSa KSb KSc KSd KTa KTb KTc KTd KUa KUb KUc KUd
        clear S S' T T' U U' KS KT KU
        obtain ⟨KFa, ⟨KFb, KFc, KFd⟩, -⟩ := id KF
        go_wp2_with fail
        refine (FL.out _ _ _ _ _ _ _ X.inI Y.inI (TT.out _ hB)).mono ?_
        rintro e w7 ⟨⟨avN, cvN, avN', cvN', rfl, N, N'⟩, hb7⟩
        clear KFa KFb KFc KFd
        replace X := X.later hb7
        replace Y := Y.later hb7
        replace KF := KF.old hb7
        replace hB := old_trans hB hb7
        clear hb7
        obtain ⟨KFa, ⟨KFb, KFc, KFd⟩, -⟩ := id KF
        clear KFa KFb KFc KFd
        have KN_ := Cel3.new w7 (.bool bn) (.slice avN nl.length cvN) (.slice avN' ol.length cvN') 26
        have halKN : Below w7.heap.size w7 (w7.alloc (.cells #[.bool bn, .slice avN nl.length cvN, .slice avN' ol.length cvN'] 26)) := old_alloc (Below.refl _ _) _
        replace X := X.later halKN
        replace Y := Y.later halKN
        replace N := N.later halKN
        replace N' := N'.later halKN
        replace KF := KF.old halKN
        replace hB := old_trans hB halKN
        clear halKN
        have KN := KN_
        clear KN_
        obtain ⟨KFa, ⟨KFb, KFc, KFd⟩, -⟩ := id KF
        obtain ⟨KNa, ⟨KNb, KNc, KNd⟩, -⟩ := id KN
        go_wp2_with fail
        refine (OK.out _ _ _ _ _ _ _ X.inI Y.inI).mono ?_
        rintro e w8 ⟨rfl, hb8⟩
        clear KFa KFb KFc KFd KNa KNb KNc KNd
        replace X := X.later hb8
        replace Y := Y.later hb8
        replace N := N.later hb8
        replace N' := N'.later hb8
        replace KF := KF.old hb8
        replace KN := KN.old hb8
        replace hB := old_trans hB hb8
        clear hb8
        obtain ⟨KFa, ⟨KFb, KFc, KFd⟩, -⟩ := id KF
        obtain ⟨KNa, ⟨KNb, KNc, KNd⟩, -⟩ := id KN
        have hc0 : w8.cell? ⟨w7.heap.size, 0, none⟩ = some (.bool bn) ∧ w8.cell? ⟨w7.heap.size, 1, none⟩ = some (.slice avN nl.length cvN) ∧ w8.cell? ⟨w7.heap.size, 2, none⟩ = some (.slice avN' ol.length cvN') := ⟨KNb, KNc, KNd⟩
        have TI := hd (fun w' (hS : w'.cell? ⟨w7.heap.size, 0, none⟩ = some (.bool bn) ∧ w'.cell? ⟨w7.heap.size, 1, none⟩ = some (.slice avN nl.length cvN) ∧ w'.cell? ⟨w7.heap.size, 2, none⟩ = some (.slice avN' ol.length cvN')) => (I1.out w').mono (fun e w'' (k : _ ∧ _) => (⟨k, three_old hS k.2⟩ : (_ ∧ _) ∧ (w''.cell? ⟨w7.heap.size, 0, none⟩ = some (.bool bn) ∧ w''.cell? ⟨w7.heap.size, 1, none⟩ = some (.slice avN nl.length cvN) ∧ w''.cell? ⟨w7.heap.size, 2, none⟩ = some (.slice avN' ol.length cvN')))))
        have CT := hd (fun c d cc cd w' (hS : w'.cell? ⟨w7.heap.size, 0, none⟩ = some (.bool bn) ∧ w'.cell? ⟨w7.heap.size, 1, none⟩ = some (.slice avN nl.length cvN) ∧ w'.cell? ⟨w7.heap.size, 2, none⟩ = some (.slice avN' ol.length cvN')) (h : Below w8.heap.size w8 w') (h3 : InI w' c ol.length cc ol) (h4 : InI w' d ol.length cd ol) => (AC.out _ _ _ _ _ _ _ _ _ _ _ _ _ (N.later h).inI (N'.later h).inI h3 h4 (TT.out _ (old_trans hB h))).mono (fun e w'' (k : _ ∧ _) => (⟨k, three_old hS k.2, h.size⟩ : (_ ∧ _) ∧ (w''.cell? ⟨w7.heap.size, 0, none⟩ = some (.bool bn) ∧ w''.cell? ⟨w7.heap.size, 1, none⟩ = some (.slice avN nl.length cvN) ∧ w''.cell? ⟨w7.heap.size, 2, none⟩ = some (.slice avN' ol.length cvN')) ∧ w8.heap.size ≤ w'.heap.size)))
        have nwB : w7.heap.size < w8.heap.size := cell_lt hc0.1
        have nw0 := World.new_ne w8 ⟨w7.heap.size, 0, none⟩ KNb
        have nw1 := World.new_ne w8 ⟨w7.heap.size, 1, none⟩ KNc
        have nw2 := World.new_ne w8 ⟨w7.heap.size, 2, none⟩ KNd
        go_upto_region 23 with fail
        go_cut [18, 19] (fun p q wx => ∃ pb av cv av' cv', p = .pointer (some ⟨pb, 0, none⟩) ∧ q = .bool false ∧ Cel3 wx pb (.bool sg) (.slice av tl.length cv) (.slice av' ul.length cv') ∧ OI wx w8.heap.size av cv tl ∧ OI wx w8.heap.size av' cv' ul ∧ Below w8.heap.size w8 wx)
        case first =>
          go_wp2_with fail
          go_region_held3 (fun w' => w'.cell? ⟨w7.heap.size, 0, none⟩ = some (.bool bn) ∧ w'.cell? ⟨w7.heap.size, 1, none⟩ = some (.slice avN nl.length cvN) ∧ w'.cell? ⟨w7.heap.size, 2, none⟩ = some (.slice avN' ol.length cvN')) (go_keep) (first | (go_at_call 20; refine (TI.out _ (by assumption)).mono ?_; rintro e wx0 ⟨⟨⟨a1, d1, a2, d2, rfl, Q, Q', -⟩, hbx⟩, hcx⟩; have hbx0 := hbx; (with_reducible first | (have lN := NN.lts; have NN := NN.old hbx) | (have lN := NN.drew.lts; have NN := NN.drew.old hbx) | (have pN := newN (R := w8) (by repeat (first | exact Below.refl _ _ | assumption | refine Below.drew ?_ | refine old_alloc ?_ _ | refine old_trans ?_ (by assumption))) hbx; have lN := And.right (And.right pN); have hpN := And.left (And.right pN); have NN := And.left pN) | (have pN := newN' (R := w8) (by repeat (first | exact Below.refl _ _ | assumption | refine Below.drew ?_ | refine old_alloc ?_ _ | refine old_trans ?_ (by assumption))) hbx; have lN := And.right (And.right pN); have hpN := And.left (And.right pN); have NN := And.left pN) | skip); (first | (have NN0 := NN.c0; have NN1 := NN.c1; have NN2 := NN.c2; have NN3 := NN.f0; have NN4 := NN.f1; have NN5 := NN.f2; have q1 := Nat.ne_of_gt (Nat.lt_of_lt_of_le nwB hpN)) | skip)) | (go_at_call 19; refine (CT.out _ _ _ _ _ (by assumption) (by repeat (first | exact Below.refl _ _ | assumption | refine Below.drew ?_ | refine old_alloc ?_ _ | refine old_trans ?_ (by assumption))) (by with_reducible first | exact Q.inI | exact (Q.alloc _).inI) (by with_reducible first | exact Q'.inI | exact (Q'.alloc _).inI)).mono ?_; rintro e wx2 ⟨⟨⟨av, cv, av', cv', rfl, hO, hO'⟩, hbx⟩, hcx, hbs⟩; have hbx2 := hbx; (with_reducible first | (have lN := NN.lts; have NN := NN.old hbx) | (have lN := NN.drew.lts; have NN := NN.drew.old hbx) | (have pN := newN (R := w8) (by repeat (first | exact Below.refl _ _ | assumption | refine Below.drew ?_ | refine old_alloc ?_ _ | refine old_trans ?_ (by assumption))) hbx; have lN := And.right (And.right pN); have hpN := And.left (And.right pN); have NN := And.left pN) | (have pN := newN' (R := w8) (by repeat (first | exact Below.refl _ _ | assumption | refine Below.drew ?_ | refine old_alloc ?_ _ | refine old_trans ?_ (by assumption))) hbx; have lN := And.right (And.right pN); have hpN := And.left (And.right pN); have NN := And.left pN) | skip); (first | (have NN0 := NN.c0; have NN1 := NN.c1; have NN2 := NN.c2; have NN3 := NN.f0; have NN4 := NN.f1; have NN5 := NN.f2; have q1 := Nat.ne_of_gt (Nat.lt_of_lt_of_le nwB hpN)) | skip)))
          all_goals
            go_wp2_with fail
            go_meet
            first | exact ⟨_, av, cv, av', cv', rfl, rfl, NN.setAll _ _ _, (oi_set3 hO lN).mono hbs, (oi_set3 hO' lN).mono hbs, below_set (below_set (below_set (by repeat (first | exact Below.refl _ _ | assumption | refine Below.drew ?_ | refine old_alloc ?_ _ | refine old_trans ?_ (by assumption))) hpN _) hpN _) hpN _⟩ | exact ⟨_, av, cv, av', cv', rfl, rfl, Cel3.new _ _ _ _ _, (hO.alloc _).mono hbs, (hO'.alloc _).mono hbs, (by repeat (first | exact Below.refl _ _ | assumption | refine Below.drew ?_ | refine old_alloc ?_ _ | refine old_trans ?_ (by assumption)))⟩
        case rest =>
          clear KFa KFb KFc KFd KNa KNb KNc KNd
          obtain ⟨wd, hwd⟩ : ∃ x, x = wc := ⟨_, rfl⟩
          subst hwd
          obtain ⟨pb, au, cu, au', cu', rfl, rfl, KP, V, V', hbV⟩ := hcut
          clear hc0 TI CT nwB nw0 nw1 nw2
          replace X := X.later hbV
          replace Y := Y.later hbV
          replace N := N.later hbV
          replace N' := N'.later hbV
          replace KF := KF.old hbV
          replace KN := KN.old hbV
          replace hB := old_trans hB hbV
          clear hbV
          obtain ⟨KFa, ⟨KFb, KFc, KFd⟩, -⟩ := id KF
          obtain ⟨KNa, ⟨KNb, KNc, KNd⟩, -⟩ := id KN
          obtain ⟨KPa, ⟨KPb, KPc, KPd⟩, -⟩ := id KP
          go_wp2_with fail
          refine (CN.out _ _ _ _ _ _ _ _ _ _ _ _ _ N.inI N'.inI X.inI Y.inI (TT.out _ hB)).mono ?_
          rintro e w9 ⟨rfl, hb9⟩
          clear KFa KFb KFc KFd KNa KNb KNc KNd KPa KPb KPc KPd
          replace X := X.later hb9
          replace Y := Y.later hb9
          replace N := N.later hb9
          replace N' := N'.later hb9
          replace V := V.later hb9
          replace V' := V'.later hb9
          replace KF := KF.old hb9
          replace KN := KN.old hb9
          replace KP := KP.old hb9
          replace hB := old_trans hB hb9
          clear hb9
          obtain ⟨KFa, ⟨KFb, KFc, KFd⟩, -⟩ := id KF
          obtain ⟨KNa, ⟨KNb, KNc, KNd⟩, -⟩ := id KN
          obtain ⟨KPa, ⟨KPb, KPc, KPd⟩, -⟩ := id KP
          have al : Below w9.heap.size w9 (w9.alloc (.cells #[.int .i64 1] 3)) := old_alloc (Below.refl _ _) _
          have ON := hone.out w9
          replace N' := N'.later al
          replace hB := old_trans hB al
          clear al
          go_wp2_with fail
          refine (P1.out _ _ _ _ _ N'.inI ON).mono ?_
          rintro e wl ⟨rfl, hbl⟩
          replace hB := old_trans hB hbl
          clear KFa KFb KFc KFd KNa KNb KNc KNd KPa KPb KPc KPd
          clear X Y N V V' KF KP KN
          go_wp2
          go_ret
          exact ⟨rfl, hB⟩
      · skip
        have CU := hd (hyc.out rfl)
        clear hyc
        go_wp2_with fail
        refine (RT.out _ _ _ _ _ _ _ X.inI Y.inI (TT.out _ hB)).mono ?_
        rintro e w1 ⟨⟨avR, cvR, avR', cvR', rfl⟩, hb1⟩
        clear KFa KFb KFc KFd
        replace X := X.later hb1
        replace Y := Y.later hb1
        replace KF := KF.old hb1
        replace hB := old_trans hB hb1
        clear hb1
        obtain ⟨KFa, ⟨KFb, KFc, KFd⟩, -⟩ := id KF
        clear KFa KFb KFc KFd
        have KR_ := Cel3.new w1 (.bool false) (.slice avR 0 cvR) (.slice avR' 0 cvR') 26
        have halKR : Below w1.heap.size w1 (w1.alloc (.cells #[.bool false, .slice avR 0 cvR, .slice avR' 0 cvR'] 26)) := old_alloc (Below.refl _ _) _
        replace X := X.later halKR
        replace Y := Y.later halKR
        replace KF := KF.old halKR
        replace hB := old_trans hB halKR
        clear halKR
        have KR := KR_
        clear KR_
        obtain ⟨KFa, ⟨KFb, KFc, KFd⟩, -⟩ := id KF
        obtain ⟨KRa, ⟨KRb, KRc, KRd⟩, -⟩ := id KR
        go_wp2_with fail
        refine (ST.out _ _ _ _ _ _ _ X.inI Y.inI).mono ?_
        rintro e w2 ⟨⟨avW, cvW, avW', cvW', rfl⟩, hb2⟩
        clear KFa KFb KFc KFd KRa KRb KRc KRd
        replace X := X.later hb2
        replace Y := Y.later hb2
        replace KF := KF.old hb2
        replace KR := KR.old hb2
        replace hB := old_trans hB hb2
        clear hb2
        obtain ⟨KFa, ⟨KFb, KFc, KFd⟩, -⟩ := id KF
        obtain ⟨KRa, ⟨KRb, KRc, KRd⟩, -⟩ := id KR
        clear KFa KFb KFc KFd KRa KRb KRc KRd
        have KW_ := Cel3.new w2 (.bool false) (.slice avW 0 cvW) (.slice avW' 0 cvW') 26
        have halKW : Below w2.heap.size w2 (w2.alloc (.cells #[.bool false, .slice avW 0 cvW, .slice avW' 0 cvW'] 26)) := old_alloc (Below.refl _ _) _
        replace X := X.later halKW
        replace Y := Y.later halKW
        replace KF := KF.old halKW
        replace KR := KR.old halKW
        replace hB := old_trans hB halKW
        clear halKW
        have KW := KW_
        clear KW_
        obtain ⟨KFa, ⟨KFb, KFc, KFd⟩, -⟩ := id KF
        obtain ⟨KRa, ⟨KRb, KRc, KRd⟩, -⟩ := id KR
        obtain ⟨KWa, ⟨KWb, KWc, KWd⟩, -⟩ := id KW
        clear KFa KFb KFc KFd KRa KRb KRc KRd KWa KWb KWc KWd
        clear KR KW
        obtain ⟨KFa, ⟨KFb, KFc, KFd⟩, -⟩ := id KF
        go_wp2_with fail
        refine (MS.out _ _ _ _ _ _ _ _ _ _ _ _ _ X.inI Y.inI X.inI Y.inI (TT.out _ hB)).mono ?_
        rintro e w3 ⟨⟨avS, cvS, avS', cvS', rfl, S, S'⟩, hb3⟩
        clear KFa KFb KFc KFd
        replace X := X.later hb3
        replace Y := Y.later hb3
        replace KF := KF.old hb3
        replace hB := old_trans hB hb3
        clear hb3
        obtain ⟨KFa, ⟨KFb, KFc, KFd⟩, -⟩ := id KF
        clear KFa KFb KFc KFd
        have KS_ := Cel3.new w3 (.bool false) (.slice avS x2.length cvS) (.slice avS' y2.length cvS') 26
        have halKS : Below w3.heap.size w3 (w3.alloc (.cells #[.bool false, .slice avS x2.length cvS, .slice avS' y2.length cvS'] 26)) := old_alloc (Below.refl _ _) _
        replace X := X.later halKS
        replace Y := Y.later halKS
        replace S := S.later halKS
        replace S' := S'.later halKS
        replace KF := KF.old halKS
        replace hB := old_trans hB halKS
        clear halKS
        have KS := KS_
        clear KS_
        obtain ⟨KFa, ⟨KFb, KFc, KFd⟩, -⟩ := id KF
        obtain ⟨KSa, ⟨KSb, KSc, KSd⟩, -⟩ := id KS
        go_wp2_with fail
        refine (RS.out _ _ _ _ _ _ _ S.inI S'.inI (TT.out _ hB)).mono ?_
        rintro e w4 ⟨⟨avT, cvT, avT', cvT', rfl, T, T'⟩, hb4⟩
        clear KFa KFb KFc KFd KSa KSb KSc KSd
        replace X := X.later hb4
        replace Y := Y.later hb4
        replace S := S.later hb4
        replace S' := S'.later hb4
        replace KF := KF.old hb4
        replace KS := KS.old hb4
        replace hB := old_trans hB hb4
        clear hb4
        obtain ⟨KFa, ⟨KFb, KFc, KFd⟩, -⟩ := id KF
        obtain ⟨KSa, ⟨KSb, KSc, KSd⟩, -⟩ := id KS
        clear KFa KFb KFc KFd KSa KSb KSc KSd
        have KT_ := Cel3.new w4 (.bool false) (.slice avT xs.length cvT) (.slice avT' ys.length cvT') 26
        have halKT : Below w4.heap.size w4 (w4.alloc (.cells #[.bool false, .slice avT xs.length cvT, .slice avT' ys.length cvT'] 26)) := old_alloc (Below.refl _ _) _
        replace X := X.later halKT
        replace Y := Y.later halKT
        replace S := S.later halKT
        replace S' := S'.later halKT
        replace T := T.later halKT
        replace T' := T'.later halKT
        replace KF := KF.old halKT
        replace KS := KS.old halKT
        replace hB := old_trans hB halKT
        clear halKT
        have KT := KT_
        clear KT_
        obtain ⟨KFa, ⟨KFb, KFc, KFd⟩, -⟩ := id KF
        obtain ⟨KSa, ⟨KSb, KSc, KSd⟩, -⟩ := id KS
        obtain ⟨KTa, ⟨KTb, KTc, KTd⟩, -⟩ := id KT
        go_wp2_with fail
        refine (AB.out _ _ _ _ _ _ _ X.inI Y.inI (TT.out _ hB)).mono ?_
        rintro e w5 ⟨⟨avU, cvU, avU', cvU', rfl, U, U'⟩, hb5⟩
        clear KFa KFb KFc KFd KSa KSb KSc KSd KTa KTb KTc KTd
        replace X := X.later hb5
        replace Y := Y.later hb5
        replace S := S.later hb5
        replace S' := S'.later hb5
        replace T := T.later hb5
        replace T' := T'.later hb5
        replace KF := KF.old hb5
        replace KS := KS.old hb5
        replace KT := KT.old hb5
        replace hB := old_trans hB hb5
        clear hb5
        obtain ⟨KFa, ⟨KFb, KFc, KFd⟩, -⟩ := id KF
        obtain ⟨KSa, ⟨KSb, KSc, KSd⟩, -⟩ := id KS
        obtain ⟨KTa, ⟨KTb, KTc, KTd⟩, -⟩ := id KT
        clear KFa KFb KFc KFd KSa KSb KSc KSd KTa KTb KTc KTd
        have KU_ := Cel3.new w5 (.bool false) (.slice avU xs.length cvU) (.slice avU' ys.length cvU') 26
        have halKU : Below w5.heap.size w5 (w5.alloc (.cells #[.bool false, .slice avU xs.length cvU, .slice avU' ys.length cvU'] 26)) := old_alloc (Below.refl _ _) _
        replace X := X.later halKU
        replace Y := Y.later halKU
        replace S := S.later halKU
        replace S' := S'.later halKU
        replace T := T.later halKU
        replace T' := T'.later halKU
        replace U := U.later halKU
        replace U' := U'.later halKU
        replace KF := KF.old halKU
        replace KS := KS.old halKU
        replace KT := KT.old halKU
        replace hB := old_trans hB halKU
        clear halKU
        have KU := KU_
        clear KU_
        obtain ⟨KFa, ⟨KFb, KFc, KFd⟩, -⟩ := id KF
        obtain ⟨KSa, ⟨KSb, KSc, KSd⟩, -⟩ := id KS
        obtain ⟨KTa, ⟨KTb, KTc, KTd⟩, -⟩ := id KT
        obtain ⟨KUa, ⟨KUb, KUc, KUd⟩, -⟩ := id KU
        go_wp2_with fail
        refine (PF.out _ _ _ _ _ _ _ _ _ _ _ _ _ _ T.inI T'.inI U.inI U'.inI).mono ?_
        rintro e w6 ⟨rfl, hb6⟩
        clear KFa KFb KFc KFd KSa KSb KSc KSd KTa KTb KTc KTd KUa KUb KUc KUd
        replace X := X.later hb6
        replace Y := Y.later hb6
        replace S := S.later hb6
        replace S' := S'.later hb6
        replace T := T.later hb6
        replace T' := T'.later hb6
        replace U := U.later hb6
        replace U' := U'.later hb6
        replace KF := KF.old hb6
        replace KS := KS.old hb6
        replace KT := KT.old hb6
        replace KU := KU.old hb6
        replace hB := old_trans hB hb6
        clear hb6
        obtain ⟨KFa, ⟨KFb, KFc, KFd⟩, -⟩ := id KF
        obtain ⟨KSa, ⟨KSb, KSc, KSd⟩, -⟩ := id KS
        obtain ⟨KTa, ⟨KTb, KTc, KTd⟩, -⟩ := id KT
        obtain ⟨KUa, ⟨KUb, KUc, KUd⟩, -⟩ := id KU
        clear KFa KFb KFc KFd KSa KSb KSc KSd KTa KTb KTc KTd KUa KUb KUc KUd
        clear S S' T T' U U' KS KT KU
        obtain ⟨KFa, ⟨KFb, KFc, KFd⟩, -⟩ := id KF
        go_wp2_with fail
        refine (FL.out _ _ _ _ _ _ _ X.inI Y.inI (TT.out _ hB)).mono ?_
        rintro e w7 ⟨⟨avN, cvN, avN', cvN', rfl, N, N'⟩, hb7⟩
        clear KFa KFb KFc KFd
        replace X := X.later hb7
        replace Y := Y.later hb7
        replace KF := KF.old hb7
        replace hB := old_trans hB hb7
        clear hb7
        obtain ⟨KFa, ⟨KFb, KFc, KFd⟩, -⟩ := id KF
        clear KFa KFb KFc KFd
        have KN_ := Cel3.new w7 (.bool bn) (.slice avN nl.length cvN) (.slice avN' ol.length cvN') 26
        have halKN : Below w7.heap.size w7 (w7.alloc (.cells #[.bool bn, .slice avN nl.length cvN, .slice avN' ol.length cvN'] 26)) := old_alloc (Below.refl _ _) _
        replace X := X.later halKN
        replace Y := Y.later halKN
        replace N := N.later halKN
        replace N' := N'.later halKN
        replace KF := KF.old halKN
        replace hB := old_trans hB halKN
        clear halKN
        have KN := KN_
        clear KN_
        obtain ⟨KFa, ⟨KFb, KFc, KFd⟩, -⟩ := id KF
        obtain ⟨KNa, ⟨KNb, KNc, KNd⟩, -⟩ := id KN
        go_wp2_with fail
        refine (OK.out _ _ _ _ _ _ _ X.inI Y.inI).mono ?_
        rintro e w8 ⟨rfl, hb8⟩
        clear KFa KFb KFc KFd KNa KNb KNc KNd
        replace X := X.later hb8
        replace Y := Y.later hb8
        replace N := N.later hb8
        replace N' := N'.later hb8
        replace KF := KF.old hb8
        replace KN := KN.old hb8
        replace hB := old_trans hB hb8
        clear hb8
        obtain ⟨KFa, ⟨KFb, KFc, KFd⟩, -⟩ := id KF
        obtain ⟨KNa, ⟨KNb, KNc, KNd⟩, -⟩ := id KN
        have hc0 : w8.cell? ⟨w7.heap.size, 0, none⟩ = some (.bool bn) ∧ w8.cell? ⟨w7.heap.size, 1, none⟩ = some (.slice avN nl.length cvN) ∧ w8.cell? ⟨w7.heap.size, 2, none⟩ = some (.slice avN' ol.length cvN') := ⟨KNb, KNc, KNd⟩
        have TI := hd (fun w' (hS : w'.cell? ⟨w7.heap.size, 0, none⟩ = some (.bool bn) ∧ w'.cell? ⟨w7.heap.size, 1, none⟩ = some (.slice avN nl.length cvN) ∧ w'.cell? ⟨w7.heap.size, 2, none⟩ = some (.slice avN' ol.length cvN')) => (I1.out w').mono (fun e w'' (k : _ ∧ _) => (⟨k, three_old hS k.2⟩ : (_ ∧ _) ∧ (w''.cell? ⟨w7.heap.size, 0, none⟩ = some (.bool bn) ∧ w''.cell? ⟨w7.heap.size, 1, none⟩ = some (.slice avN nl.length cvN) ∧ w''.cell? ⟨w7.heap.size, 2, none⟩ = some (.slice avN' ol.length cvN')))))
        have CT := hd (fun c d cc cd w' (hS : w'.cell? ⟨w7.heap.size, 0, none⟩ = some (.bool bn) ∧ w'.cell? ⟨w7.heap.size, 1, none⟩ = some (.slice avN nl.length cvN) ∧ w'.cell? ⟨w7.heap.size, 2, none⟩ = some (.slice avN' ol.length cvN')) (h : Below w8.heap.size w8 w') (h3 : InI w' c ol.length cc ol) (h4 : InI w' d ol.length cd ol) => (AC.out _ _ _ _ _ _ _ _ _ _ _ _ _ (N.later h).inI (N'.later h).inI h3 h4 (TT.out _ (old_trans hB h))).mono (fun e w'' (k : _ ∧ _) => (⟨k, three_old hS k.2, h.size⟩ : (_ ∧ _) ∧ (w''.cell? ⟨w7.heap.size, 0, none⟩ = some (.bool bn) ∧ w''.cell? ⟨w7.heap.size, 1, none⟩ = some (.slice avN nl.length cvN) ∧ w''.cell? ⟨w7.heap.size, 2, none⟩ = some (.slice avN' ol.length cvN')) ∧ w8.heap.size ≤ w'.heap.size)))
        have nwB : w7.heap.size < w8.heap.size := cell_lt hc0.1
        have nw0 := World.new_ne w8 ⟨w7.heap.size, 0, none⟩ KNb
        have nw1 := World.new_ne w8 ⟨w7.heap.size, 1, none⟩ KNc
        have nw2 := World.new_ne w8 ⟨w7.heap.size, 2, none⟩ KNd
        go_upto_region 23 with fail
        go_cut [18, 19] (fun p q wx => ∃ pb av cv av' cv', p = .pointer (some ⟨pb, 0, none⟩) ∧ q = .bool true ∧ Cel3 wx pb (.bool sg) (.slice av tl.length cv) (.slice av' ul.length cv') ∧ OI wx w8.heap.size av cv tl ∧ OI wx w8.heap.size av' cv' ul ∧ Below w8.heap.size w8 wx)
        case first =>
          go_wp2_with fail
          go_region_held3 (fun w' => w'.cell? ⟨w7.heap.size, 0, none⟩ = some (.bool bn) ∧ w'.cell? ⟨w7.heap.size, 1, none⟩ = some (.slice avN nl.length cvN) ∧ w'.cell? ⟨w7.heap.size, 2, none⟩ = some (.slice avN' ol.length cvN')) (go_keep) (first | (go_at_call 20; refine (TI.out _ (by assumption)).mono ?_; rintro e wx0 ⟨⟨⟨a1, d1, a2, d2, rfl, Q, Q', -⟩, hbx⟩, hcx⟩; have hbx0 := hbx; (with_reducible first | (have lN := NN.lts; have NN := NN.old hbx) | (have lN := NN.drew.lts; have NN := NN.drew.old hbx) | (have pN := newN (R := w8) (by repeat (first | exact Below.refl _ _ | assumption | refine Below.drew ?_ | refine old_alloc ?_ _ | refine old_trans ?_ (by assumption))) hbx; have lN := And.right (And.right pN); have hpN := And.left (And.right pN); have NN := And.left pN) | (have pN := newN' (R := w8) (by repeat (first | exact Below.refl _ _ | assumption | refine Below.drew ?_ | refine old_alloc ?_ _ | refine old_trans ?_ (by assumption))) hbx; have lN := And.right (And.right pN); have hpN := And.left (And.right pN); have NN := And.left pN) | skip); (first | (have NN0 := NN.c0; have NN1 := NN.c1; have NN2 := NN.c2; have NN3 := NN.f0; have NN4 := NN.f1; have NN5 := NN.f2; have q1 := Nat.ne_of_gt (Nat.lt_of_lt_of_le nwB hpN)) | skip)) | (go_at_call 19; refine (CT.out _ _ _ _ _ (by assumption) (by repeat (first | exact Below.refl _ _ | assumption | refine Below.drew ?_ | refine old_alloc ?_ _ | refine old_trans ?_ (by assumption))) (by with_reducible first | exact Q.inI | exact (Q.alloc _).inI) (by with_reducible first | exact Q'.inI | exact (Q'.alloc _).inI)).mono ?_; rintro e wx2 ⟨⟨⟨av, cv, av', cv', rfl, hO, hO'⟩, hbx⟩, hcx, hbs⟩; have hbx2 := hbx; (with_reducible first | (have lN := NN.lts; have NN := NN.old hbx) | (have lN := NN.drew.lts; have NN := NN.drew.old hbx) | (have pN := newN (R := w8) (by repeat (first | exact Below.refl _ _ | assumption | refine Below.drew ?_ | refine old_alloc ?_ _ | refine old_trans ?_ (by assumption))) hbx; have lN := And.right (And.right pN); have hpN := And.left (And.right pN); have NN := And.left pN) | (have pN := newN' (R := w8) (by repeat (first | exact Below.refl _ _ | assumption | refine Below.drew ?_ | refine old_alloc ?_ _ | refine old_trans ?_ (by assumption))) hbx; have lN := And.right (And.right pN); have hpN := And.left (And.right pN); have NN := And.left pN) | skip); (first | (have NN0 := NN.c0; have NN1 := NN.c1; have NN2 := NN.c2; have NN3 := NN.f0; have NN4 := NN.f1; have NN5 := NN.f2; have q1 := Nat.ne_of_gt (Nat.lt_of_lt_of_le nwB hpN)) | skip)))
          all_goals
            go_wp2_with fail
            go_meet
            first | exact ⟨_, av, cv, av', cv', rfl, rfl, NN.setAll _ _ _, (oi_set3 hO lN).mono hbs, (oi_set3 hO' lN).mono hbs, below_set (below_set (below_set (by repeat (first | exact Below.refl _ _ | assumption | refine Below.drew ?_ | refine old_alloc ?_ _ | refine old_trans ?_ (by assumption))) hpN _) hpN _) hpN _⟩ | exact ⟨_, av, cv, av', cv', rfl, rfl, Cel3.new _ _ _ _ _, (hO.alloc _).mono hbs, (hO'.alloc _).mono hbs, (by repeat (first | exact Below.refl _ _ | assumption | refine Below.drew ?_ | refine old_alloc ?_ _ | refine old_trans ?_ (by assumption)))⟩
        case rest =>
          clear KFa KFb KFc KFd KNa KNb KNc KNd
          obtain ⟨wd, hwd⟩ : ∃ x, x = wc := ⟨_, rfl⟩
          subst hwd
          obtain ⟨pb, au, cu, au', cu', rfl, rfl, KP, V, V', hbV⟩ := hcut
          clear hc0 TI CT nwB nw0 nw1 nw2
          replace X := X.later hbV
          replace Y := Y.later hbV
          replace N := N.later hbV
          replace N' := N'.later hbV
          replace KF := KF.old hbV
          replace KN := KN.old hbV
          replace hB := old_trans hB hbV
          clear hbV
          obtain ⟨KFa, ⟨KFb, KFc, KFd⟩, -⟩ := id KF
          obtain ⟨KNa, ⟨KNb, KNc, KNd⟩, -⟩ := id KN
          obtain ⟨KPa, ⟨KPb, KPc, KPd⟩, -⟩ := id KP
          go_wp2_with fail
          refine (CN.out _ _ _ _ _ _ _ _ _ _ _ _ _ N.inI N'.inI X.inI Y.inI (TT.out _ hB)).mono ?_
          rintro e w9 ⟨rfl, hb9⟩
          clear KFa KFb KFc KFd KNa KNb KNc KNd KPa KPb KPc KPd
          replace X := X.later hb9
          replace Y := Y.later hb9
          replace N := N.later hb9
          replace N' := N'.later hb9
          replace V := V.later hb9
          replace V' := V'.later hb9
          replace KF := KF.old hb9
          replace KN := KN.old hb9
          replace KP := KP.old hb9
          replace hB := old_trans hB hb9
          clear hb9
          obtain ⟨KFa, ⟨KFb, KFc, KFd⟩, -⟩ := id KF
          obtain ⟨KNa, ⟨KNb, KNc, KNd⟩, -⟩ := id KN
          obtain ⟨KPa, ⟨KPb, KPc, KPd⟩, -⟩ := id KP
          go_wp2_with fail
          refine (CU.out _ _ _ _ _ _ _ _ _ _ _ _ _ X.inI Y.inI V.inI V'.inI (TT.out _ hB)).mono ?_
          rintro e w10 ⟨rfl, hb10⟩
          clear KFa KFb KFc KFd KNa KNb KNc KNd KPa KPb KPc KPd
          replace X := X.later hb10
          replace Y := Y.later hb10
          replace N := N.later hb10
          replace N' := N'.later hb10
          replace V := V.later hb10
          replace V' := V'.later hb10
          replace KF := KF.old hb10
          replace KN := KN.old hb10
          replace KP := KP.old hb10
          replace hB := old_trans hB hb10
          clear hb10
          obtain ⟨KFa, ⟨KFb, KFc, KFd⟩, -⟩ := id KF
          obtain ⟨KNa, ⟨KNb, KNc, KNd⟩, -⟩ := id KN
          obtain ⟨KPa, ⟨KPb, KPc, KPd⟩, -⟩ := id KP
          have al : Below w10.heap.size w10 (w10.alloc (.cells #[.int .i64 1] 3)) := old_alloc (Below.refl _ _) _
          have ON := hone.out w10
          replace N' := N'.later al
          replace hB := old_trans hB al
          clear al
          go_wp2_with fail
          refine (P1.out _ _ _ _ _ N'.inI ON).mono ?_
          rintro e wl ⟨rfl, hbl⟩
          replace hB := old_trans hB hbl
          clear KFa KFb KFc KFd KNa KNb KNc KNd KPa KPb KPc KPd
          clear X Y N V V' KF KP KN
          go_wp2
          go_ret
          exact ⟨rfl, hB⟩
  · skip
    obtain rfl : bl = false := by
      unfold rtOk at hk
      simp only [Bool.and_eq_true] at hk
      simpa using hk.1
    have hk2 := rtOk_in hk
    have rl0 := rt_low h1 hk2.1 hk2.2
    have hx2 : r * r = val xs := by have h9 := hk2.1; unfold rootX at h9; simp only [Bool.and_eq_true, decide_eq_true_eq] at h9; exact h9.2
    have hy2 : s * s = val ys := by have h9 := hk2.2; unfold rootX at h9; simp only [Bool.and_eq_true, decide_eq_true_eq] at h9; exact h9.2
    have hro : fracOk false (natL r) (natL s) = true := by
      have h9 := low_frac (s := false) rl0.1.1
      rw [rl0.1.2.1, rl0.1.2.2] at h9
      exact h9
    have RT := hd (fun a b la lb ca cb w g1 g2 g3 => FRes.calls (IR.out a b la lb ca cb w g1 g2 g3) (by rw [h1, hk, rl0.1.1]; rfl) rl0.1.2.1 rl0.1.2.2 (sg := false) rfl)
    have ST := hd (fun a b la lb ca cb w g1 g2 => FRes.calls (SR.out a b la lb ca cb w g1 g2) (by rw [h1, hk, rl0.1.1]; rfl) rl0.1.2.1 rl0.1.2.2 (sg := false) rfl)
    have MR_ := hd (fun a b la lb ca cb c d lc ld cc cd w g1 g2 g3 g4 (g5 : Tab w ∧ ET w) => iFracMul false a b la lb ca cb (natL r) (natL s) false c d lc ld cc cd (natL r) (natL s) w g1 g2 g3 g4 g5.1 g5.2)
    rw [hro] at MR_
    simp only [val_natL, Bool.true_and, hx2, hy2] at MR_
    have MR := hd (fun a b la lb ca cb c d lc ld cc cd w g1 g2 g3 g4 g5 => FRes.calls (MR_.out a b la lb ca cb c d lc ld cc cd w g1 g2 g3 g4 g5) lo.1 lo.2.1 lo.2.2 (sg := false) rfl)
    obtain ⟨cs, hcs, hcs0⟩ : ∃ cs, signI (fracOk false (natL r) (natL s)) false (natL r).length = cs ∧ ¬ (cs < 0) := ⟨_, rfl, by unfold signI; split <;> simp⟩
    have SG := hd (fun a b ca cb w g1 g2 g3 => oSign hcs a b ca cb w g1 g2 g3)
    clear MR_ hro hx2 hy2 rl0 hk2 hcs
    clear IR SR hk
    cases hq : lowB (val xs * val xs) (val ys * val ys)
    · skip
      have MS := hd (fun a b la lb ca cb c d lc ld cc cd w g1 g2 g3 g4 g5 => FRes.callsN (MF.out a b la lb ca cb c d lc ld cc cd w g1 g2 g3 g4 g5) (by rw [h1, hq]; rfl))
      clear MF hq h1 lo q hg2 hr hs AB
      generalize natL fl = nl at *
      generalize natL 1 = ol at *
      generalize natL r = rl at *
      generalize natL s = sl at *
      cases y
      · skip
        clear hyc
        go_wp2_with fail
        refine (RT.out _ _ _ _ _ _ _ X.inI Y.inI (TT.out _ hB)).mono ?_
        rintro e w1 ⟨⟨avR, cvR, avR', cvR', rfl, R, R'⟩, hb1⟩
        clear KFa KFb KFc KFd
        replace X := X.later hb1
        replace Y := Y.later hb1
        replace KF := KF.old hb1
        replace hB := old_trans hB hb1
        clear hb1
        obtain ⟨KFa, ⟨KFb, KFc, KFd⟩, -⟩ := id KF
        clear KFa KFb KFc KFd
        have KR_ := Cel3.new w1 (.bool false) (.slice avR rl.length cvR) (.slice avR' sl.length cvR') 26
        have halKR : Below w1.heap.size w1 (w1.alloc (.cells #[.bool false, .slice avR rl.length cvR, .slice avR' sl.length cvR'] 26)) := old_alloc (Below.refl _ _) _
        replace X := X.later halKR
        replace Y := Y.later halKR
        replace R := R.later halKR
        replace R' := R'.later halKR
        replace KF := KF.old halKR
        replace hB := old_trans hB halKR
        clear halKR
        have KR := KR_
        clear KR_
        obtain ⟨KFa, ⟨KFb, KFc, KFd⟩, -⟩ := id KF
        obtain ⟨KRa, ⟨KRb, KRc, KRd⟩, -⟩ := id KR
        go_wp2_with fail
        refine (ST.out _ _ _ _ _ _ _ X.inI Y.inI).mono ?_
        rintro e w2 ⟨⟨avW, cvW, avW', cvW', rfl, W, W'⟩, hb2⟩
        clear KFa KFb KFc KFd KRa KRb KRc KRd
        replace X := X.later hb2
        replace Y := Y.later hb2
        replace R := R.later hb2
        replace R' := R'.later hb2
        replace KF := KF.old hb2
        replace KR := KR.old hb2
        replace hB := old_trans hB hb2
        clear hb2
        obtain ⟨KFa, ⟨KFb, KFc, KFd⟩, -⟩ := id KF
        obtain ⟨KRa, ⟨KRb, KRc, KRd⟩, -⟩ := id KR
        clear KFa KFb KFc KFd KRa KRb KRc KRd
        have KW_ := Cel3.new w2 (.bool false) (.slice avW rl.length cvW) (.slice avW' sl.length cvW') 26
        have halKW : Below w2.heap.size w2 (w2.alloc (.cells #[.bool false, .slice avW rl.length cvW, .slice avW' sl.length cvW'] 26)) := old_alloc (Below.refl _ _) _
        replace X := X.later halKW
        replace Y := Y.later halKW
        replace R := R.later halKW
        replace R' := R'.later halKW
        replace W := W.later halKW
        replace W' := W'.later halKW
        replace KF := KF.old halKW
        replace KR := KR.old halKW
        replace hB := old_trans hB halKW
        clear halKW
        have KW := KW_
        clear KW_
        obtain ⟨KFa, ⟨KFb, KFc, KFd⟩, -⟩ := id KF
        obtain ⟨KRa, ⟨KRb, KRc, KRd⟩, -⟩ := id KR
        obtain ⟨KWa, ⟨KWb, KWc, KWd⟩, -⟩ := id KW
        go_wp2_with fail
        refine (MR.out _ _ _ _ _ _ _ _ _ _ _ _ _ R.inI R'.inI R.inI R'.inI (TT.out _ hB)).mono ?_
        rintro e w3 ⟨⟨avM, cvM, avM', cvM', rfl, M, M'⟩, hb3⟩
        clear KFa KFb KFc KFd KRa KRb KRc KRd KWa KWb KWc KWd
        replace X := X.later hb3
        replace Y := Y.later hb3
        replace R := R.later hb3
        replace R' := R'.later hb3
        replace W := W.later hb3
        replace W' := W'.later hb3
        replace KF := KF.old hb3
        replace KR := KR.old hb3
        replace KW := KW.old hb3
        replace hB := old_trans hB hb3
        clear hb3
        obtain ⟨KFa, ⟨KFb, KFc, KFd⟩, -⟩ := id KF
        obtain ⟨KRa, ⟨KRb, KRc, KRd⟩, -⟩ := id KR
        obtain ⟨KWa, ⟨KWb, KWc, KWd⟩, -⟩ := id KW
        clear KFa KFb KFc KFd KRa KRb KRc KRd KWa KWb KWc KWd
        have KM_ := Cel3.new w3 (.bool false) (.slice avM xs.length cvM) (.slice avM' ys.length cvM') 26
        have halKM : Below w3.heap.size w3 (w3.alloc (.cells #[.bool false, .slice avM xs.length cvM, .slice avM' ys.length cvM'] 26)) := old_alloc (Below.refl _ _) _
        replace X := X.later halKM
        replace Y := Y.later halKM
        replace R := R.later halKM
        replace R' := R'.later halKM
        replace W := W.later halKM
        replace W' := W'.later halKM
        replace M := M.later halKM
        replace M' := M'.later halKM
        replace KF := KF.old halKM
        replace KR := KR.old halKM
        replace KW := KW.old halKM
        replace hB := old_trans hB halKM
        clear halKM
        have KM := KM_
        clear KM_
        obtain ⟨KFa, ⟨KFb, KFc, KFd⟩, -⟩ := id KF
        obtain ⟨KRa, ⟨KRb, KRc, KRd⟩, -⟩ := id KR
        obtain ⟨KWa, ⟨KWb, KWc, KWd⟩, -⟩ := id KW
        obtain ⟨KMa, ⟨KMb, KMc, KMd⟩, -⟩ := id KM
        go_wp2_with fail
        refine (PF.out _ _ _ _ _ _ _ _ _ _ _ _ _ _ M.inI M'.inI X.inI Y.inI).mono ?_
        rintro e w4 ⟨rfl, hb4⟩
        clear KFa KFb KFc KFd KRa KRb KRc KRd KWa KWb KWc KWd KMa KMb KMc KMd
        replace X := X.later hb4
        replace Y := Y.later hb4
        replace R := R.later hb4
        replace R' := R'.later hb4
        replace W := W.later hb4
        replace W' := W'.later hb4
        replace M := M.later hb4
        replace M' := M'.later hb4
        replace KF := KF.old hb4
        replace KR := KR.old hb4
        replace KW := KW.old hb4
        replace KM := KM.old hb4
        replace hB := old_trans hB hb4
        clear hb4
        obtain ⟨KFa, ⟨KFb, KFc, KFd⟩, -⟩ := id KF
        obtain ⟨KRa, ⟨KRb, KRc, KRd⟩, -⟩ := id KR
        obtain ⟨KWa, ⟨KWb, KWc, KWd⟩, -⟩ := id KW
        obtain ⟨KMa, ⟨KMb, KMc, KMd⟩, -⟩ := id KM
        go_wp2_with fail
        refine (SG.out _ _ _ _ _ R.inI R'.inI (TT.out _ hB)).mono ?_
        rintro e w5 ⟨rfl, hb5⟩
        clear KFa KFb KFc KFd KRa KRb KRc KRd KWa KWb KWc KWd KMa KMb KMc KMd
        replace X := X.later hb5
        replace Y := Y.later hb5
        replace R := R.later hb5
        replace R' := R'.later hb5
        replace W := W.later hb5
        replace W' := W'.later hb5
        replace M := M.later hb5
        replace M' := M'.later hb5
        replace KF := KF.old hb5
        replace KR := KR.old hb5
        replace KW := KW.old hb5
        replace KM := KM.old hb5
        replace hB := old_trans hB hb5
        clear hb5
        obtain ⟨KFa, ⟨KFb, KFc, KFd⟩, -⟩ := id KF
        obtain ⟨KRa, ⟨KRb, KRc, KRd⟩, -⟩ := id KR
        obtain ⟨KWa, ⟨KWb, KWc, KWd⟩, -⟩ := id KW
        obtain ⟨KMa, ⟨KMb, KMc, KMd⟩, -⟩ := id KM
        clear KFa KFb KFc KFd KRa KRb KRc KRd KWa KWb KWc KWd KMa KMb KMc KMd
        clear R R' W W' M M' KR KW KM
        obtain ⟨KFa, ⟨KFb, KFc, KFd⟩, -⟩ := id KF
        go_wp2_with fail
        refine (MS.out _ _ _ _ _ _ _ _ _ _ _ _ _ X.inI Y.inI X.inI Y.inI (TT.out _ hB)).mono ?_
        rintro e w6 ⟨⟨avS, cvS, avS', cvS', rfl⟩, hb6⟩
        clear KFa KFb KFc KFd
        replace X := X.later hb6
        replace Y := Y.later hb6
        replace KF := KF.old hb6
        replace hB := old_trans hB hb6
        clear hb6
        obtain ⟨KFa, ⟨KFb, KFc, KFd⟩, -⟩ := id KF
        clear KFa KFb KFc KFd
        have KS_ := Cel3.new w6 (.bool false) (.slice avS 0 cvS) (.slice avS' 0 cvS') 26
        have halKS : Below w6.heap.size w6 (w6.alloc (.cells #[.bool false, .slice avS 0 cvS, .slice avS' 0 cvS'] 26)) := old_alloc (Below.refl _ _) _
        replace X := X.later halKS
        replace Y := Y.later halKS
        replace KF := KF.old halKS
        replace hB := old_trans hB halKS
        clear halKS
        have KS := KS_
        clear KS_
        obtain ⟨KFa, ⟨KFb, KFc, KFd⟩, -⟩ := id KF
        obtain ⟨KSa, ⟨KSb, KSc, KSd⟩, -⟩ := id KS
        clear KFa KFb KFc KFd KSa KSb KSc KSd
        clear KS
        obtain ⟨KFa, ⟨KFb, KFc, KFd⟩, -⟩ := id KF
        go_wp2_with fail
        refine (FL.out _ _ _ _ _ _ _ X.inI Y.inI (TT.out _ hB)).mono ?_
        rintro e w7 ⟨⟨avN, cvN, avN', cvN', rfl, N, N'⟩, hb7⟩
        clear KFa KFb KFc KFd
        replace X := X.later hb7
        replace Y := Y.later hb7
        replace KF := KF.old hb7
        replace hB := old_trans hB hb7
        clear hb7
        obtain ⟨KFa, ⟨KFb, KFc, KFd⟩, -⟩ := id KF
        clear KFa KFb KFc KFd
        have KN_ := Cel3.new w7 (.bool bn) (.slice avN nl.length cvN) (.slice avN' ol.length cvN') 26
        have halKN : Below w7.heap.size w7 (w7.alloc (.cells #[.bool bn, .slice avN nl.length cvN, .slice avN' ol.length cvN'] 26)) := old_alloc (Below.refl _ _) _
        replace X := X.later halKN
        replace Y := Y.later halKN
        replace N := N.later halKN
        replace N' := N'.later halKN
        replace KF := KF.old halKN
        replace hB := old_trans hB halKN
        clear halKN
        have KN := KN_
        clear KN_
        obtain ⟨KFa, ⟨KFb, KFc, KFd⟩, -⟩ := id KF
        obtain ⟨KNa, ⟨KNb, KNc, KNd⟩, -⟩ := id KN
        go_wp2_with fail
        refine (OK.out _ _ _ _ _ _ _ X.inI Y.inI).mono ?_
        rintro e w8 ⟨rfl, hb8⟩
        clear KFa KFb KFc KFd KNa KNb KNc KNd
        replace X := X.later hb8
        replace Y := Y.later hb8
        replace N := N.later hb8
        replace N' := N'.later hb8
        replace KF := KF.old hb8
        replace KN := KN.old hb8
        replace hB := old_trans hB hb8
        clear hb8
        obtain ⟨KFa, ⟨KFb, KFc, KFd⟩, -⟩ := id KF
        obtain ⟨KNa, ⟨KNb, KNc, KNd⟩, -⟩ := id KN
        have hc0 : w8.cell? ⟨w7.heap.size, 0, none⟩ = some (.bool bn) ∧ w8.cell? ⟨w7.heap.size, 1, none⟩ = some (.slice avN nl.length cvN) ∧ w8.cell? ⟨w7.heap.size, 2, none⟩ = some (.slice avN' ol.length cvN') := ⟨KNb, KNc, KNd⟩
        have TI := hd (fun w' (hS : w'.cell? ⟨w7.heap.size, 0, none⟩ = some (.bool bn) ∧ w'.cell? ⟨w7.heap.size, 1, none⟩ = some (.slice avN nl.length cvN) ∧ w'.cell? ⟨w7.heap.size, 2, none⟩ = some (.slice avN' ol.length cvN')) => (I1.out w').mono (fun e w'' (k : _ ∧ _) => (⟨k, three_old hS k.2⟩ : (_ ∧ _) ∧ (w''.cell? ⟨w7.heap.size, 0, none⟩ = some (.bool bn) ∧ w''.cell? ⟨w7.heap.size, 1, none⟩ = some (.slice avN nl.length cvN) ∧ w''.cell? ⟨w7.heap.size, 2, none⟩ = some (.slice avN' ol.length cvN')))))
        have CT := hd (fun c d cc cd w' (hS : w'.cell? ⟨w7.heap.size, 0, none⟩ = some (.bool bn) ∧ w'.cell? ⟨w7.heap.size, 1, none⟩ = some (.slice avN nl.length cvN) ∧ w'.cell? ⟨w7.heap.size, 2, none⟩ = some (.slice avN' ol.length cvN')) (h : Below w8.heap.size w8 w') (h3 : InI w' c ol.length cc ol) (h4 : InI w' d ol.length cd ol) => (AC.out _ _ _ _ _ _ _ _ _ _ _ _ _ (N.later h).inI (N'.later h).inI h3 h4 (TT.out _ (old_trans hB h))).mono (fun e w'' (k : _ ∧ _) => (⟨k, three_old hS k.2, h.size⟩ : (_ ∧ _) ∧ (w''.cell? ⟨w7.heap.size, 0, none⟩ = some (.bool bn) ∧ w''.cell? ⟨w7.heap.size, 1, none⟩ = some (.slice avN nl.length cvN) ∧ w''.cell? ⟨w7.heap.size, 2, none⟩ = some (.slice avN' ol.length cvN')) ∧ w8.heap.size ≤ w'.heap.size)))
        have nwB : w7.heap.size < w8.heap.size := cell_lt hc0.1
        have nw0 := World.new_ne w8 ⟨w7.heap.size, 0, none⟩ KNb
        have nw1 := World.new_ne w8 ⟨w7.heap.size, 1, none⟩ KNc
        have nw2 := World.new_ne w8 ⟨w7.heap.size, 2, none⟩ KNd
        go_upto_region 23 with fail
        go_cut [18, 19] (fun p q wx => ∃ pb av cv av' cv', p = .pointer (some ⟨pb, 0, none⟩) ∧ q = .bool false ∧ Cel3 wx pb (.bool sg) (.slice av tl.length cv) (.slice av' ul.length cv') ∧ OI wx w8.heap.size av cv tl ∧ OI wx w8.heap.size av' cv' ul ∧ Below w8.heap.size w8 wx)
        case first =>
          go_wp2_with fail
          go_region_held3 (fun w' => w'.cell? ⟨w7.heap.size, 0, none⟩ = some (.bool bn) ∧ w'.cell? ⟨w7.heap.size, 1, none⟩ = some (.slice avN nl.length cvN) ∧ w'.cell? ⟨w7.heap.size, 2, none⟩ = some (.slice avN' ol.length cvN')) (go_keep) (first | (go_at_call 20; refine (TI.out _ (by assumption)).mono ?_; rintro e wx0 ⟨⟨⟨a1, d1, a2, d2, rfl, Q, Q', -⟩, hbx⟩, hcx⟩; have hbx0 := hbx; (with_reducible first | (have lN := NN.lts; have NN := NN.old hbx) | (have lN := NN.drew.lts; have NN := NN.drew.old hbx) | (have pN := newN (R := w8) (by repeat (first | exact Below.refl _ _ | assumption | refine Below.drew ?_ | refine old_alloc ?_ _ | refine old_trans ?_ (by assumption))) hbx; have lN := And.right (And.right pN); have hpN := And.left (And.right pN); have NN := And.left pN) | (have pN := newN' (R := w8) (by repeat (first | exact Below.refl _ _ | assumption | refine Below.drew ?_ | refine old_alloc ?_ _ | refine old_trans ?_ (by assumption))) hbx; have lN := And.right (And.right pN); have hpN := And.left (And.right pN); have NN := And.left pN) | skip); (first | (have NN0 := NN.c0; have NN1 := NN.c1; have NN2 := NN.c2; have NN3 := NN.f0; have NN4 := NN.f1; have NN5 := NN.f2; have q1 := Nat.ne_of_gt (Nat.lt_of_lt_of_le nwB hpN)) | skip)) | (go_at_call 19; refine (CT.out _ _ _ _ _ (by assumption) (by repeat (first | exact Below.refl _ _ | assumption | refine Below.drew ?_ | refine old_alloc ?_ _ | refine old_trans ?_ (by assumption))) (by with_reducible first | exact Q.inI | exact (Q.alloc _).inI) (by with_reducible first | exact Q'.inI | exact (Q'.alloc _).inI)).mono ?_; rintro e wx2 ⟨⟨⟨av, cv, av', cv', rfl, hO, hO'⟩, hbx⟩, hcx, hbs⟩; have hbx2 := hbx; (with_reducible first | (have lN := NN.lts; have NN := NN.old hbx) | (have lN := NN.drew.lts; have NN := NN.drew.old hbx) | (have pN := newN (R := w8) (by repeat (first | exact Below.refl _ _ | assumption | refine Below.drew ?_ | refine old_alloc ?_ _ | refine old_trans ?_ (by assumption))) hbx; have lN := And.right (And.right pN); have hpN := And.left (And.right pN); have NN := And.left pN) | (have pN := newN' (R := w8) (by repeat (first | exact Below.refl _ _ | assumption | refine Below.drew ?_ | refine old_alloc ?_ _ | refine old_trans ?_ (by assumption))) hbx; have lN := And.right (And.right pN); have hpN := And.left (And.right pN); have NN := And.left pN) | skip); (first | (have NN0 := NN.c0; have NN1 := NN.c1; have NN2 := NN.c2; have NN3 := NN.f0; have NN4 := NN.f1; have NN5 := NN.f2; have q1 := Nat.ne_of_gt (Nat.lt_of_lt_of_le nwB hpN)) | skip)))
          all_goals
            go_wp2_with fail
            go_meet
            first | exact ⟨_, av, cv, av', cv', rfl, rfl, NN.setAll _ _ _, (oi_set3 hO lN).mono hbs, (oi_set3 hO' lN).mono hbs, below_set (below_set (below_set (by repeat (first | exact Below.refl _ _ | assumption | refine Below.drew ?_ | refine old_alloc ?_ _ | refine old_trans ?_ (by assumption))) hpN _) hpN _) hpN _⟩ | exact ⟨_, av, cv, av', cv', rfl, rfl, Cel3.new _ _ _ _ _, (hO.alloc _).mono hbs, (hO'.alloc _).mono hbs, (by repeat (first | exact Below.refl _ _ | assumption | refine Below.drew ?_ | refine old_alloc ?_ _ | refine old_trans ?_ (by assumption)))⟩
        case rest =>
          clear KFa KFb KFc KFd KNa KNb KNc KNd
          obtain ⟨wd, hwd⟩ : ∃ x, x = wc := ⟨_, rfl⟩
          subst hwd
          obtain ⟨pb, au, cu, au', cu', rfl, rfl, KP, V, V', hbV⟩ := hcut
          clear hc0 TI CT nwB nw0 nw1 nw2
          replace X := X.later hbV
          replace Y := Y.later hbV
          replace N := N.later hbV
          replace N' := N'.later hbV
          replace KF := KF.old hbV
          replace KN := KN.old hbV
          replace hB := old_trans hB hbV
          clear hbV
          obtain ⟨KFa, ⟨KFb, KFc, KFd⟩, -⟩ := id KF
          obtain ⟨KNa, ⟨KNb, KNc, KNd⟩, -⟩ := id KN
          obtain ⟨KPa, ⟨KPb, KPc, KPd⟩, -⟩ := id KP
          go_wp2_with fail
          refine (CN.out _ _ _ _ _ _ _ _ _ _ _ _ _ N.inI N'.inI X.inI Y.inI (TT.out _ hB)).mono ?_
          rintro e w9 ⟨rfl, hb9⟩
          clear KFa KFb KFc KFd KNa KNb KNc KNd KPa KPb KPc KPd
          replace X := X.later hb9
          replace Y := Y.later hb9
          replace N := N.later hb9
          replace N' := N'.later hb9
          replace V := V.later hb9
          replace V' := V'.later hb9
          replace KF := KF.old hb9
          replace KN := KN.old hb9
          replace KP := KP.old hb9
          replace hB := old_trans hB hb9
          clear hb9
          obtain ⟨KFa, ⟨KFb, KFc, KFd⟩, -⟩ := id KF
          obtain ⟨KNa, ⟨KNb, KNc, KNd⟩, -⟩ := id KN
          obtain ⟨KPa, ⟨KPb, KPc, KPd⟩, -⟩ := id KP
          have al : Below w9.heap.size w9 (w9.alloc (.cells #[.int .i64 1] 3)) := old_alloc (Below.refl _ _) _
          have ON := hone.out w9
          replace N' := N'.later al
          replace hB := old_trans hB al
          clear al
          go_wp2_with fail
          refine (P1.out _ _ _ _ _ N'.inI ON).mono ?_
          rintro e wl ⟨rfl, hbl⟩
          replace hB := old_trans hB hbl
          clear KFa KFb KFc KFd KNa KNb KNc KNd KPa KPb KPc KPd
          clear X Y N V V' KF KP KN
          go_wp2
          go_ret
          exact ⟨rfl, hB⟩
      · skip
        have CU := hd (hyc.out rfl)
        clear hyc
        go_wp2_with fail
        refine (RT.out _ _ _ _ _ _ _ X.inI Y.inI (TT.out _ hB)).mono ?_
        rintro e w1 ⟨⟨avR, cvR, avR', cvR', rfl, R, R'⟩, hb1⟩
        clear KFa KFb KFc KFd
        replace X := X.later hb1
        replace Y := Y.later hb1
        replace KF := KF.old hb1
        replace hB := old_trans hB hb1
        clear hb1
        obtain ⟨KFa, ⟨KFb, KFc, KFd⟩, -⟩ := id KF
        clear KFa KFb KFc KFd
        have KR_ := Cel3.new w1 (.bool false) (.slice avR rl.length cvR) (.slice avR' sl.length cvR') 26
        have halKR : Below w1.heap.size w1 (w1.alloc (.cells #[.bool false, .slice avR rl.length cvR, .slice avR' sl.length cvR'] 26)) := old_alloc (Below.refl _ _) _
        replace X := X.later halKR
        replace Y := Y.later halKR
        replace R := R.later halKR
        replace R' := R'.later halKR
        replace KF := KF.old halKR
        replace hB := old_trans hB halKR
        clear halKR
        have KR := KR_
        clear KR_
        obtain ⟨KFa, ⟨KFb, KFc, KFd⟩, -⟩ := id KF
        obtain ⟨KRa, ⟨KRb, KRc, KRd⟩, -⟩ := id KR
        go_wp2_with fail
        refine (ST.out _ _ _ _ _ _ _ X.inI Y.inI).mono ?_
        rintro e w2 ⟨⟨avW, cvW, avW', cvW', rfl, W, W'⟩, hb2⟩
        clear KFa KFb KFc KFd KRa KRb KRc KRd
        replace X := X.later hb2
        replace Y := Y.later hb2
        replace R := R.later hb2
        replace R' := R'.later hb2
        replace KF := KF.old hb2
        replace KR := KR.old hb2
        replace hB := old_trans hB hb2
        clear hb2
        obtain ⟨KFa, ⟨KFb, KFc, KFd⟩, -⟩ := id KF
        obtain ⟨KRa, ⟨KRb, KRc, KRd⟩, -⟩ := id KR
        clear KFa KFb KFc KFd KRa KRb KRc KRd
        have KW_ := Cel3.new w2 (.bool false) (.slice avW rl.length cvW) (.slice avW' sl.length cvW') 26
        have halKW : Below w2.heap.size w2 (w2.alloc (.cells #[.bool false, .slice avW rl.length cvW, .slice avW' sl.length cvW'] 26)) := old_alloc (Below.refl _ _) _
        replace X := X.later halKW
        replace Y := Y.later halKW
        replace R := R.later halKW
        replace R' := R'.later halKW
        replace W := W.later halKW
        replace W' := W'.later halKW
        replace KF := KF.old halKW
        replace KR := KR.old halKW
        replace hB := old_trans hB halKW
        clear halKW
        have KW := KW_
        clear KW_
        obtain ⟨KFa, ⟨KFb, KFc, KFd⟩, -⟩ := id KF
        obtain ⟨KRa, ⟨KRb, KRc, KRd⟩, -⟩ := id KR
        obtain ⟨KWa, ⟨KWb, KWc, KWd⟩, -⟩ := id KW
        go_wp2_with fail
        refine (MR.out _ _ _ _ _ _ _ _ _ _ _ _ _ R.inI R'.inI R.inI R'.inI (TT.out _ hB)).mono ?_
        rintro e w3 ⟨⟨avM, cvM, avM', cvM', rfl, M, M'⟩, hb3⟩
        clear KFa KFb KFc KFd KRa KRb KRc KRd KWa KWb KWc KWd
        replace X := X.later hb3
        replace Y := Y.later hb3
        replace R := R.later hb3
        replace R' := R'.later hb3
        replace W := W.later hb3
        replace W' := W'.later hb3
        replace KF := KF.old hb3
        replace KR := KR.old hb3
        replace KW := KW.old hb3
        replace hB := old_trans hB hb3
        clear hb3
        obtain ⟨KFa, ⟨KFb, KFc, KFd⟩, -⟩ := id KF
        obtain ⟨KRa, ⟨KRb, KRc, KRd⟩, -⟩ := id KR
        obtain ⟨KWa, ⟨KWb, KWc, KWd⟩, -⟩ := id KW
        clear KFa KFb KFc KFd KRa KRb KRc KRd KWa KWb KWc KWd
        have KM_ := Cel3.new w3 (.bool false) (.slice avM xs.length cvM) (.slice avM' ys.length cvM') 26
        have halKM : Below w3.heap.size w3 (w3.alloc (.cells #[.bool false, .slice avM xs.length cvM, .slice avM' ys.length cvM'] 26)) := old_alloc (Below.refl _ _) _
        replace X := X.later halKM
        replace Y := Y.later halKM
        replace R := R.later halKM
        replace R' := R'.later halKM
        replace W := W.later halKM
        replace W' := W'.later halKM
        replace M := M.later halKM
        replace M' := M'.later halKM
        replace KF := KF.old halKM
        replace KR := KR.old halKM
        replace KW := KW.old halKM
        replace hB := old_trans hB halKM
        clear halKM
        have KM := KM_
        clear KM_
        obtain ⟨KFa, ⟨KFb, KFc, KFd⟩, -⟩ := id KF
        obtain ⟨KRa, ⟨KRb, KRc, KRd⟩, -⟩ := id KR
        obtain ⟨KWa, ⟨KWb, KWc, KWd⟩, -⟩ := id KW
        obtain ⟨KMa, ⟨KMb, KMc, KMd⟩, -⟩ := id KM
        go_wp2_with fail
        refine (PF.out _ _ _ _ _ _ _ _ _ _ _ _ _ _ M.inI M'.inI X.inI Y.inI).mono ?_
        rintro e w4 ⟨rfl, hb4⟩
        clear KFa KFb KFc KFd KRa KRb KRc KRd KWa KWb KWc KWd KMa KMb KMc KMd
        replace X := X.later hb4
        replace Y := Y.later hb4
        replace R := R.later hb4
        replace R' := R'.later hb4
        replace W := W.later hb4
        replace W' := W'.later hb4
        replace M := M.later hb4
        replace M' := M'.later hb4
        replace KF := KF.old hb4
        replace KR := KR.old hb4
        replace KW := KW.old hb4
        replace KM := KM.old hb4
        replace hB := old_trans hB hb4
        clear hb4
        obtain ⟨KFa, ⟨KFb, KFc, KFd⟩, -⟩ := id KF
        obtain ⟨KRa, ⟨KRb, KRc, KRd⟩, -⟩ := id KR
        obtain ⟨KWa, ⟨KWb, KWc, KWd⟩, -⟩ := id KW
        obtain ⟨KMa, ⟨KMb, KMc, KMd⟩, -⟩ := id KM
        go_wp2_with fail
        refine (SG.out _ _ _ _ _ R.inI R'.inI (TT.out _ hB)).mono ?_
        rintro e w5 ⟨rfl, hb5⟩
        clear KFa KFb KFc KFd KRa KRb KRc KRd KWa KWb KWc KWd KMa KMb KMc KMd
        replace X := X.later hb5
        replace Y := Y.later hb5
        replace R := R.later hb5
        replace R' := R'.later hb5
        replace W := W.later hb5
        replace W' := W'.later hb5
        replace M := M.later hb5
        replace M' := M'.later hb5
        replace KF := KF.old hb5
        replace KR := KR.old hb5
        replace KW := KW.old hb5
        replace KM := KM.old hb5
        replace hB := old_trans hB hb5
        clear hb5
        obtain ⟨KFa, ⟨KFb, KFc, KFd⟩, -⟩ := id KF
        obtain ⟨KRa, ⟨KRb, KRc, KRd⟩, -⟩ := id KR
        obtain ⟨KWa, ⟨KWb, KWc, KWd⟩, -⟩ := id KW
        obtain ⟨KMa, ⟨KMb, KMc, KMd⟩, -⟩ := id KM
        clear KFa KFb KFc KFd KRa KRb KRc KRd KWa KWb KWc KWd KMa KMb KMc KMd
        clear R R' W W' M M' KR KW KM
        obtain ⟨KFa, ⟨KFb, KFc, KFd⟩, -⟩ := id KF
        go_wp2_with fail
        refine (MS.out _ _ _ _ _ _ _ _ _ _ _ _ _ X.inI Y.inI X.inI Y.inI (TT.out _ hB)).mono ?_
        rintro e w6 ⟨⟨avS, cvS, avS', cvS', rfl⟩, hb6⟩
        clear KFa KFb KFc KFd
        replace X := X.later hb6
        replace Y := Y.later hb6
        replace KF := KF.old hb6
        replace hB := old_trans hB hb6
        clear hb6
        obtain ⟨KFa, ⟨KFb, KFc, KFd⟩, -⟩ := id KF
        clear KFa KFb KFc KFd
        have KS_ := Cel3.new w6 (.bool false) (.slice avS 0 cvS) (.slice avS' 0 cvS') 26
        have halKS : Below w6.heap.size w6 (w6.alloc (.cells #[.bool false, .slice avS 0 cvS, .slice avS' 0 cvS'] 26)) := old_alloc (Below.refl _ _) _
        replace X := X.later halKS
        replace Y := Y.later halKS
        replace KF := KF.old halKS
        replace hB := old_trans hB halKS
        clear halKS
        have KS := KS_
        clear KS_
        obtain ⟨KFa, ⟨KFb, KFc, KFd⟩, -⟩ := id KF
        obtain ⟨KSa, ⟨KSb, KSc, KSd⟩, -⟩ := id KS
        clear KFa KFb KFc KFd KSa KSb KSc KSd
        clear KS
        obtain ⟨KFa, ⟨KFb, KFc, KFd⟩, -⟩ := id KF
        go_wp2_with fail
        refine (FL.out _ _ _ _ _ _ _ X.inI Y.inI (TT.out _ hB)).mono ?_
        rintro e w7 ⟨⟨avN, cvN, avN', cvN', rfl, N, N'⟩, hb7⟩
        clear KFa KFb KFc KFd
        replace X := X.later hb7
        replace Y := Y.later hb7
        replace KF := KF.old hb7
        replace hB := old_trans hB hb7
        clear hb7
        obtain ⟨KFa, ⟨KFb, KFc, KFd⟩, -⟩ := id KF
        clear KFa KFb KFc KFd
        have KN_ := Cel3.new w7 (.bool bn) (.slice avN nl.length cvN) (.slice avN' ol.length cvN') 26
        have halKN : Below w7.heap.size w7 (w7.alloc (.cells #[.bool bn, .slice avN nl.length cvN, .slice avN' ol.length cvN'] 26)) := old_alloc (Below.refl _ _) _
        replace X := X.later halKN
        replace Y := Y.later halKN
        replace N := N.later halKN
        replace N' := N'.later halKN
        replace KF := KF.old halKN
        replace hB := old_trans hB halKN
        clear halKN
        have KN := KN_
        clear KN_
        obtain ⟨KFa, ⟨KFb, KFc, KFd⟩, -⟩ := id KF
        obtain ⟨KNa, ⟨KNb, KNc, KNd⟩, -⟩ := id KN
        go_wp2_with fail
        refine (OK.out _ _ _ _ _ _ _ X.inI Y.inI).mono ?_
        rintro e w8 ⟨rfl, hb8⟩
        clear KFa KFb KFc KFd KNa KNb KNc KNd
        replace X := X.later hb8
        replace Y := Y.later hb8
        replace N := N.later hb8
        replace N' := N'.later hb8
        replace KF := KF.old hb8
        replace KN := KN.old hb8
        replace hB := old_trans hB hb8
        clear hb8
        obtain ⟨KFa, ⟨KFb, KFc, KFd⟩, -⟩ := id KF
        obtain ⟨KNa, ⟨KNb, KNc, KNd⟩, -⟩ := id KN
        have hc0 : w8.cell? ⟨w7.heap.size, 0, none⟩ = some (.bool bn) ∧ w8.cell? ⟨w7.heap.size, 1, none⟩ = some (.slice avN nl.length cvN) ∧ w8.cell? ⟨w7.heap.size, 2, none⟩ = some (.slice avN' ol.length cvN') := ⟨KNb, KNc, KNd⟩
        have TI := hd (fun w' (hS : w'.cell? ⟨w7.heap.size, 0, none⟩ = some (.bool bn) ∧ w'.cell? ⟨w7.heap.size, 1, none⟩ = some (.slice avN nl.length cvN) ∧ w'.cell? ⟨w7.heap.size, 2, none⟩ = some (.slice avN' ol.length cvN')) => (I1.out w').mono (fun e w'' (k : _ ∧ _) => (⟨k, three_old hS k.2⟩ : (_ ∧ _) ∧ (w''.cell? ⟨w7.heap.size, 0, none⟩ = some (.bool bn) ∧ w''.cell? ⟨w7.heap.size, 1, none⟩ = some (.slice avN nl.length cvN) ∧ w''.cell? ⟨w7.heap.size, 2, none⟩ = some (.slice avN' ol.length cvN')))))
        have CT := hd (fun c d cc cd w' (hS : w'.cell? ⟨w7.heap.size, 0, none⟩ = some (.bool bn) ∧ w'.cell? ⟨w7.heap.size, 1, none⟩ = some (.slice avN nl.length cvN) ∧ w'.cell? ⟨w7.heap.size, 2, none⟩ = some (.slice avN' ol.length cvN')) (h : Below w8.heap.size w8 w') (h3 : InI w' c ol.length cc ol) (h4 : InI w' d ol.length cd ol) => (AC.out _ _ _ _ _ _ _ _ _ _ _ _ _ (N.later h).inI (N'.later h).inI h3 h4 (TT.out _ (old_trans hB h))).mono (fun e w'' (k : _ ∧ _) => (⟨k, three_old hS k.2, h.size⟩ : (_ ∧ _) ∧ (w''.cell? ⟨w7.heap.size, 0, none⟩ = some (.bool bn) ∧ w''.cell? ⟨w7.heap.size, 1, none⟩ = some (.slice avN nl.length cvN) ∧ w''.cell? ⟨w7.heap.size, 2, none⟩ = some (.slice avN' ol.length cvN')) ∧ w8.heap.size ≤ w'.heap.size)))
        have nwB : w7.heap.size < w8.heap.size := cell_lt hc0.1
        have nw0 := World.new_ne w8 ⟨w7.heap.size, 0, none⟩ KNb
        have nw1 := World.new_ne w8 ⟨w7.heap.size, 1, none⟩ KNc
        have nw2 := World.new_ne w8 ⟨w7.heap.size, 2, none⟩ KNd
        go_upto_region 23 with fail
        go_cut [18, 19] (fun p q wx => ∃ pb av cv av' cv', p = .pointer (some ⟨pb, 0, none⟩) ∧ q = .bool true ∧ Cel3 wx pb (.bool sg) (.slice av tl.length cv) (.slice av' ul.length cv') ∧ OI wx w8.heap.size av cv tl ∧ OI wx w8.heap.size av' cv' ul ∧ Below w8.heap.size w8 wx)
        case first =>
          go_wp2_with fail
          go_region_held3 (fun w' => w'.cell? ⟨w7.heap.size, 0, none⟩ = some (.bool bn) ∧ w'.cell? ⟨w7.heap.size, 1, none⟩ = some (.slice avN nl.length cvN) ∧ w'.cell? ⟨w7.heap.size, 2, none⟩ = some (.slice avN' ol.length cvN')) (go_keep) (first | (go_at_call 20; refine (TI.out _ (by assumption)).mono ?_; rintro e wx0 ⟨⟨⟨a1, d1, a2, d2, rfl, Q, Q', -⟩, hbx⟩, hcx⟩; have hbx0 := hbx; (with_reducible first | (have lN := NN.lts; have NN := NN.old hbx) | (have lN := NN.drew.lts; have NN := NN.drew.old hbx) | (have pN := newN (R := w8) (by repeat (first | exact Below.refl _ _ | assumption | refine Below.drew ?_ | refine old_alloc ?_ _ | refine old_trans ?_ (by assumption))) hbx; have lN := And.right (And.right pN); have hpN := And.left (And.right pN); have NN := And.left pN) | (have pN := newN' (R := w8) (by repeat (first | exact Below.refl _ _ | assumption | refine Below.drew ?_ | refine old_alloc ?_ _ | refine old_trans ?_ (by assumption))) hbx; have lN := And.right (And.right pN); have hpN := And.left (And.right pN); have NN := And.left pN) | skip); (first | (have NN0 := NN.c0; have NN1 := NN.c1; have NN2 := NN.c2; have NN3 := NN.f0; have NN4 := NN.f1; have NN5 := NN.f2; have q1 := Nat.ne_of_gt (Nat.lt_of_lt_of_le nwB hpN)) | skip)) | (go_at_call 19; refine (CT.out _ _ _ _ _ (by assumption) (by repeat (first | exact Below.refl _ _ | assumption | refine Below.drew ?_ | refine old_alloc ?_ _ | refine old_trans ?_ (by assumption))) (by with_reducible first | exact Q.inI | exact (Q.alloc _).inI) (by with_reducible first | exact Q'.inI | exact (Q'.alloc _).inI)).mono ?_; rintro e wx2 ⟨⟨⟨av, cv, av', cv', rfl, hO, hO'⟩, hbx⟩, hcx, hbs⟩; have hbx2 := hbx; (with_reducible first | (have lN := NN.lts; have NN := NN.old hbx) | (have lN := NN.drew.lts; have NN := NN.drew.old hbx) | (have pN := newN (R := w8) (by repeat (first | exact Below.refl _ _ | assumption | refine Below.drew ?_ | refine old_alloc ?_ _ | refine old_trans ?_ (by assumption))) hbx; have lN := And.right (And.right pN); have hpN := And.left (And.right pN); have NN := And.left pN) | (have pN := newN' (R := w8) (by repeat (first | exact Below.refl _ _ | assumption | refine Below.drew ?_ | refine old_alloc ?_ _ | refine old_trans ?_ (by assumption))) hbx; have lN := And.right (And.right pN); have hpN := And.left (And.right pN); have NN := And.left pN) | skip); (first | (have NN0 := NN.c0; have NN1 := NN.c1; have NN2 := NN.c2; have NN3 := NN.f0; have NN4 := NN.f1; have NN5 := NN.f2; have q1 := Nat.ne_of_gt (Nat.lt_of_lt_of_le nwB hpN)) | skip)))
          all_goals
            go_wp2_with fail
            go_meet
            first | exact ⟨_, av, cv, av', cv', rfl, rfl, NN.setAll _ _ _, (oi_set3 hO lN).mono hbs, (oi_set3 hO' lN).mono hbs, below_set (below_set (below_set (by repeat (first | exact Below.refl _ _ | assumption | refine Below.drew ?_ | refine old_alloc ?_ _ | refine old_trans ?_ (by assumption))) hpN _) hpN _) hpN _⟩ | exact ⟨_, av, cv, av', cv', rfl, rfl, Cel3.new _ _ _ _ _, (hO.alloc _).mono hbs, (hO'.alloc _).mono hbs, (by repeat (first | exact Below.refl _ _ | assumption | refine Below.drew ?_ | refine old_alloc ?_ _ | refine old_trans ?_ (by assumption)))⟩
        case rest =>
          clear KFa KFb KFc KFd KNa KNb KNc KNd
          obtain ⟨wd, hwd⟩ : ∃ x, x = wc := ⟨_, rfl⟩
          subst hwd
          obtain ⟨pb, au, cu, au', cu', rfl, rfl, KP, V, V', hbV⟩ := hcut
          clear hc0 TI CT nwB nw0 nw1 nw2
          replace X := X.later hbV
          replace Y := Y.later hbV
          replace N := N.later hbV
          replace N' := N'.later hbV
          replace KF := KF.old hbV
          replace KN := KN.old hbV
          replace hB := old_trans hB hbV
          clear hbV
          obtain ⟨KFa, ⟨KFb, KFc, KFd⟩, -⟩ := id KF
          obtain ⟨KNa, ⟨KNb, KNc, KNd⟩, -⟩ := id KN
          obtain ⟨KPa, ⟨KPb, KPc, KPd⟩, -⟩ := id KP
          go_wp2_with fail
          refine (CN.out _ _ _ _ _ _ _ _ _ _ _ _ _ N.inI N'.inI X.inI Y.inI (TT.out _ hB)).mono ?_
          rintro e w9 ⟨rfl, hb9⟩
          clear KFa KFb KFc KFd KNa KNb KNc KNd KPa KPb KPc KPd
          replace X := X.later hb9
          replace Y := Y.later hb9
          replace N := N.later hb9
          replace N' := N'.later hb9
          replace V := V.later hb9
          replace V' := V'.later hb9
          replace KF := KF.old hb9
          replace KN := KN.old hb9
          replace KP := KP.old hb9
          replace hB := old_trans hB hb9
          clear hb9
          obtain ⟨KFa, ⟨KFb, KFc, KFd⟩, -⟩ := id KF
          obtain ⟨KNa, ⟨KNb, KNc, KNd⟩, -⟩ := id KN
          obtain ⟨KPa, ⟨KPb, KPc, KPd⟩, -⟩ := id KP
          go_wp2_with fail
          refine (CU.out _ _ _ _ _ _ _ _ _ _ _ _ _ X.inI Y.inI V.inI V'.inI (TT.out _ hB)).mono ?_
          rintro e w10 ⟨rfl, hb10⟩
          clear KFa KFb KFc KFd KNa KNb KNc KNd KPa KPb KPc KPd
          replace X := X.later hb10
          replace Y := Y.later hb10
          replace N := N.later hb10
          replace N' := N'.later hb10
          replace V := V.later hb10
          replace V' := V'.later hb10
          replace KF := KF.old hb10
          replace KN := KN.old hb10
          replace KP := KP.old hb10
          replace hB := old_trans hB hb10
          clear hb10
          obtain ⟨KFa, ⟨KFb, KFc, KFd⟩, -⟩ := id KF
          obtain ⟨KNa, ⟨KNb, KNc, KNd⟩, -⟩ := id KN
          obtain ⟨KPa, ⟨KPb, KPc, KPd⟩, -⟩ := id KP
          have al : Below w10.heap.size w10 (w10.alloc (.cells #[.int .i64 1] 3)) := old_alloc (Below.refl _ _) _
          have ON := hone.out w10
          replace N' := N'.later al
          replace hB := old_trans hB al
          clear al
          go_wp2_with fail
          refine (P1.out _ _ _ _ _ N'.inI ON).mono ?_
          rintro e wl ⟨rfl, hbl⟩
          replace hB := old_trans hB hbl
          clear KFa KFb KFc KFd KNa KNb KNc KNd KPa KPb KPc KPd
          clear X Y N V V' KF KP KN
          go_wp2
          go_ret
          exact ⟨rfl, hB⟩
    · skip
      have MS := hd (fun a b la lb ca cb c d lc ld cc cd w g1 g2 g3 g4 g5 => FRes.calls (MF.out a b la lb ca cb c d lc ld cc cd w g1 g2 g3 g4 g5) (by rw [h1, hq]; rfl) hg2.1 hg2.2 (sg := false) (rfl))
      have l2 := lowB_in hq
      rw [hg2.1, hg2.2] at l2
      have hso : fracOk false (natL (val xs * val xs)) (natL (val ys * val ys)) = true := by
        have h9 := low_frac (s := false) hq
        rw [hg2.1, hg2.2] at h9
        exact h9
      have hrt : rtOk false (natL (val xs * val xs)) (natL (val ys * val ys)) (val xs) (val ys) = true := by
        unfold rtOk rootX
        rw [natOk_natL (natL_len.1 l2.2.1), natOk_natL (natL_len.1 l2.2.2), val_natL, val_natL, decide_eq_true rfl, decide_eq_true rfl]
        rfl
      have RS := hd (fun a b la lb ca cb w g1 g2 (g3 : Tab w ∧ ET w) => FRes.calls (iFracRoot false a b la lb ca cb (natL (val xs * val xs)) (natL (val ys * val ys)) (val xs) (val ys) (by rw [val_natL]; exact isRoot_sq _) (by rw [val_natL]; exact isRoot_sq _) w g1 g2 g3.1 g3.2) (by rw [hso, hrt, lo.1]; rfl) lo.2.1 lo.2.2 (sg := false) rfl)
      clear MF hq h1 lo q hg2 hr hs l2 hso hrt
      generalize natL (val xs * val xs) = x2 at *
      generalize natL (val ys * val ys) = y2 at *
      generalize natL fl = nl at *
      generalize natL 1 = ol at *
      generalize natL r = rl at *
      generalize natL s = sl at *
      cases y
      · skip
        clear hyc
        go_wp2_with fail
        refine (RT.out _ _ _ _ _ _ _ X.inI Y.inI (TT.out _ hB)).mono ?_
        rintro e w1 ⟨⟨avR, cvR, avR', cvR', rfl, R, R'⟩, hb1⟩
        clear KFa KFb KFc KFd
        replace X := X.later hb1
        replace Y := Y.later hb1
        replace KF := KF.old hb1
        replace hB := old_trans hB hb1
        clear hb1
        obtain ⟨KFa, ⟨KFb, KFc, KFd⟩, -⟩ := id KF
        clear KFa KFb KFc KFd
        have KR_ := Cel3.new w1 (.bool false) (.slice avR rl.length cvR) (.slice avR' sl.length cvR') 26
        have halKR : Below w1.heap.size w1 (w1.alloc (.cells #[.bool false, .slice avR rl.length cvR, .slice avR' sl.length cvR'] 26)) := old_alloc (Below.refl _ _) _
        replace X := X.later halKR
        replace Y := Y.later halKR
        replace R := R.later halKR
        replace R' := R'.later halKR
        replace KF := KF.old halKR
        replace hB := old_trans hB halKR
        clear halKR
        have KR := KR_
        clear KR_
        obtain ⟨KFa, ⟨KFb, KFc, KFd⟩, -⟩ := id KF
        obtain ⟨KRa, ⟨KRb, KRc, KRd⟩, -⟩ := id KR
        go_wp2_with fail
        refine (ST.out _ _ _ _ _ _ _ X.inI Y.inI).mono ?_
        rintro e w2 ⟨⟨avW, cvW, avW', cvW', rfl, W, W'⟩, hb2⟩
        clear KFa KFb KFc KFd KRa KRb KRc KRd
        replace X := X.later hb2
        replace Y := Y.later hb2
        replace R := R.later hb2
        replace R' := R'.later hb2
        replace KF := KF.old hb2
        replace KR := KR.old hb2
        replace hB := old_trans hB hb2
        clear hb2
        obtain ⟨KFa, ⟨KFb, KFc, KFd⟩, -⟩ := id KF
        obtain ⟨KRa, ⟨KRb, KRc, KRd⟩, -⟩ := id KR
        clear KFa KFb KFc KFd KRa KRb KRc KRd
        have KW_ := Cel3.new w2 (.bool false) (.slice avW rl.length cvW) (.slice avW' sl.length cvW') 26
        have halKW : Below w2.heap.size w2 (w2.alloc (.cells #[.bool false, .slice avW rl.length cvW, .slice avW' sl.length cvW'] 26)) := old_alloc (Below.refl _ _) _
        replace X := X.later halKW
        replace Y := Y.later halKW
        replace R := R.later halKW
        replace R' := R'.later halKW
        replace W := W.later halKW
        replace W' := W'.later halKW
        replace KF := KF.old halKW
        replace KR := KR.old halKW
        replace hB := old_trans hB halKW
        clear halKW
        have KW := KW_
        clear KW_
        obtain ⟨KFa, ⟨KFb, KFc, KFd⟩, -⟩ := id KF
        obtain ⟨KRa, ⟨KRb, KRc, KRd⟩, -⟩ := id KR
        obtain ⟨KWa, ⟨KWb, KWc, KWd⟩, -⟩ := id KW
        go_wp2_with fail
        refine (MR.out _ _ _ _ _ _ _ _ _ _ _ _ _ R.inI R'.inI R.inI R'.inI (TT.out _ hB)).mono ?_
        rintro e w3 ⟨⟨avM, cvM, avM', cvM', rfl, M, M'⟩, hb3⟩
        clear KFa KFb KFc KFd KRa KRb KRc KRd KWa KWb KWc KWd
        replace X := X.later hb3
        replace Y := Y.later hb3
        replace R := R.later hb3
        replace R' := R'.later hb3
        replace W := W.later hb3
        replace W' := W'.later hb3
        replace KF := KF.old hb3
        replace KR := KR.old hb3
        replace KW := KW.old hb3
        replace hB := old_trans hB hb3
        clear hb3
        obtain ⟨KFa, ⟨KFb, KFc, KFd⟩, -⟩ := id KF
        obtain ⟨KRa, ⟨KRb, KRc, KRd⟩, -⟩ := id KR
        obtain ⟨KWa, ⟨KWb, KWc, KWd⟩, -⟩ := id KW
        clear KFa KFb KFc KFd KRa KRb KRc KRd KWa KWb KWc KWd
        have KM_ := Cel3.new w3 (.bool false) (.slice avM xs.length cvM) (.slice avM' ys.length cvM') 26
        have halKM : Below w3.heap.size w3 (w3.alloc (.cells #[.bool false, .slice avM xs.length cvM, .slice avM' ys.length cvM'] 26)) := old_alloc (Below.refl _ _) _
        replace X := X.later halKM
        replace Y := Y.later halKM
        replace R := R.later halKM
        replace R' := R'.later halKM
        replace W := W.later halKM
        replace W' := W'.later halKM
        replace M := M.later halKM
        replace M' := M'.later halKM
        replace KF := KF.old halKM
        replace KR := KR.old halKM
        replace KW := KW.old halKM
        replace hB := old_trans hB halKM
        clear halKM
        have KM := KM_
        clear KM_
        obtain ⟨KFa, ⟨KFb, KFc, KFd⟩, -⟩ := id KF
        obtain ⟨KRa, ⟨KRb, KRc, KRd⟩, -⟩ := id KR
        obtain ⟨KWa, ⟨KWb, KWc, KWd⟩, -⟩ := id KW
        obtain ⟨KMa, ⟨KMb, KMc, KMd⟩, -⟩ := id KM
        go_wp2_with fail
        refine (PF.out _ _ _ _ _ _ _ _ _ _ _ _ _ _ M.inI M'.inI X.inI Y.inI).mono ?_
        rintro e w4 ⟨rfl, hb4⟩
        clear KFa KFb KFc KFd KRa KRb KRc KRd KWa KWb KWc KWd KMa KMb KMc KMd
        replace X := X.later hb4
        replace Y := Y.later hb4
        replace R := R.later hb4
        replace R' := R'.later hb4
        replace W := W.later hb4
        replace W' := W'.later hb4
        replace M := M.later hb4
        replace M' := M'.later hb4
        replace KF := KF.old hb4
        replace KR := KR.old hb4
        replace KW := KW.old hb4
        replace KM := KM.old hb4
        replace hB := old_trans hB hb4
        clear hb4
        obtain ⟨KFa, ⟨KFb, KFc, KFd⟩, -⟩ := id KF
        obtain ⟨KRa, ⟨KRb, KRc, KRd⟩, -⟩ := id KR
        obtain ⟨KWa, ⟨KWb, KWc, KWd⟩, -⟩ := id KW
        obtain ⟨KMa, ⟨KMb, KMc, KMd⟩, -⟩ := id KM
        go_wp2_with fail
        refine (SG.out _ _ _ _ _ R.inI R'.inI (TT.out _ hB)).mono ?_
        rintro e w5 ⟨rfl, hb5⟩
        clear KFa KFb KFc KFd KRa KRb KRc KRd KWa KWb KWc KWd KMa KMb KMc KMd
        replace X := X.later hb5
        replace Y := Y.later hb5
        replace R := R.later hb5
        replace R' := R'.later hb5
        replace W := W.later hb5
        replace W' := W'.later hb5
        replace M := M.later hb5
        replace M' := M'.later hb5
        replace KF := KF.old hb5
        replace KR := KR.old hb5
        replace KW := KW.old hb5
        replace KM := KM.old hb5
        replace hB := old_trans hB hb5
        clear hb5
        obtain ⟨KFa, ⟨KFb, KFc, KFd⟩, -⟩ := id KF
        obtain ⟨KRa, ⟨KRb, KRc, KRd⟩, -⟩ := id KR
        obtain ⟨KWa, ⟨KWb, KWc, KWd⟩, -⟩ := id KW
        obtain ⟨KMa, ⟨KMb, KMc, KMd⟩, -⟩ := id KM
        clear KFa KFb KFc KFd KRa KRb KRc KRd KWa KWb KWc KWd KMa KMb KMc KMd
        clear R R' W W' M M' KR KW KM
        obtain ⟨KFa, ⟨KFb, KFc, KFd⟩, -⟩ := id KF
        go_wp2_with fail
        refine (MS.out _ _ _ _ _ _ _ _ _ _ _ _ _ X.inI Y.inI X.inI Y.inI (TT.out _ hB)).mono ?_
        rintro e w6 ⟨⟨avS, cvS, avS', cvS', rfl, S, S'⟩, hb6⟩
        clear KFa KFb KFc KFd
        replace X := X.later hb6
        replace Y := Y.later hb6
        replace KF := KF.old hb6
        replace hB := old_trans hB hb6
        clear hb6
        obtain ⟨KFa, ⟨KFb, KFc, KFd⟩, -⟩ := id KF
        clear KFa KFb KFc KFd
        have KS_ := Cel3.new w6 (.bool false) (.slice avS x2.length cvS) (.slice avS' y2.length cvS') 26
        have halKS : Below w6.heap.size w6 (w6.alloc (.cells #[.bool false, .slice avS x2.length cvS, .slice avS' y2.length cvS'] 26)) := old_alloc (Below.refl _ _) _
        replace X := X.later halKS
        replace Y := Y.later halKS
        replace S := S.later halKS
        replace S' := S'.later halKS
        replace KF := KF.old halKS
        replace hB := old_trans hB halKS
        clear halKS
        have KS := KS_
        clear KS_
        obtain ⟨KFa, ⟨KFb, KFc, KFd⟩, -⟩ := id KF
        obtain ⟨KSa, ⟨KSb, KSc, KSd⟩, -⟩ := id KS
        go_wp2_with fail
        refine (RS.out _ _ _ _ _ _ _ S.inI S'.inI (TT.out _ hB)).mono ?_
        rintro e w7 ⟨⟨avT, cvT, avT', cvT', rfl, T, T'⟩, hb7⟩
        clear KFa KFb KFc KFd KSa KSb KSc KSd
        replace X := X.later hb7
        replace Y := Y.later hb7
        replace S := S.later hb7
        replace S' := S'.later hb7
        replace KF := KF.old hb7
        replace KS := KS.old hb7
        replace hB := old_trans hB hb7
        clear hb7
        obtain ⟨KFa, ⟨KFb, KFc, KFd⟩, -⟩ := id KF
        obtain ⟨KSa, ⟨KSb, KSc, KSd⟩, -⟩ := id KS
        clear KFa KFb KFc KFd KSa KSb KSc KSd
        have KT_ := Cel3.new w7 (.bool false) (.slice avT xs.length cvT) (.slice avT' ys.length cvT') 26
        have halKT : Below w7.heap.size w7 (w7.alloc (.cells #[.bool false, .slice avT xs.length cvT, .slice avT' ys.length cvT'] 26)) := old_alloc (Below.refl _ _) _
        replace X := X.later halKT
        replace Y := Y.later halKT
        replace S := S.later halKT
        replace S' := S'.later halKT
        replace T := T.later halKT
        replace T' := T'.later halKT
        replace KF := KF.old halKT
        replace KS := KS.old halKT
        replace hB := old_trans hB halKT
        clear halKT
        have KT := KT_
        clear KT_
        obtain ⟨KFa, ⟨KFb, KFc, KFd⟩, -⟩ := id KF
        obtain ⟨KSa, ⟨KSb, KSc, KSd⟩, -⟩ := id KS
        obtain ⟨KTa, ⟨KTb, KTc, KTd⟩, -⟩ := id KT
        go_wp2_with fail
        refine (AB.out _ _ _ _ _ _ _ X.inI Y.inI (TT.out _ hB)).mono ?_
        rintro e w8 ⟨⟨avU, cvU, avU', cvU', rfl, U, U'⟩, hb8⟩
        clear KFa KFb KFc KFd KSa KSb KSc KSd KTa KTb KTc KTd
        replace X := X.later hb8
        replace Y := Y.later hb8
        replace S := S.later hb8
        replace S' := S'.later hb8
        replace T := T.later hb8
        replace T' := T'.later hb8
        replace KF := KF.old hb8
        replace KS := KS.old hb8
        replace KT := KT.old hb8
        replace hB := old_trans hB hb8
        clear hb8
        obtain ⟨KFa, ⟨KFb, KFc, KFd⟩, -⟩ := id KF
        obtain ⟨KSa, ⟨KSb, KSc, KSd⟩, -⟩ := id KS
        obtain ⟨KTa, ⟨KTb, KTc, KTd⟩, -⟩ := id KT
        clear KFa KFb KFc KFd KSa KSb KSc KSd KTa KTb KTc KTd
        have KU_ := Cel3.new w8 (.bool false) (.slice avU xs.length cvU) (.slice avU' ys.length cvU') 26
        have halKU : Below w8.heap.size w8 (w8.alloc (.cells #[.bool false, .slice avU xs.length cvU, .slice avU' ys.length cvU'] 26)) := old_alloc (Below.refl _ _) _
        replace X := X.later halKU
        replace Y := Y.later halKU
        replace S := S.later halKU
        replace S' := S'.later halKU
        replace T := T.later halKU
        replace T' := T'.later halKU
        replace U := U.later halKU
        replace U' := U'.later halKU
        replace KF := KF.old halKU
        replace KS := KS.old halKU
        replace KT := KT.old halKU
        replace hB := old_trans hB halKU
        clear halKU
        have KU := KU_
        clear KU_
        obtain ⟨KFa, ⟨KFb, KFc, KFd⟩, -⟩ := id KF
        obtain ⟨KSa, ⟨KSb, KSc, KSd⟩, -⟩ := id KS
        obtain ⟨KTa, ⟨KTb, KTc, KTd⟩, -⟩ := id KT
        obtain ⟨KUa, ⟨KUb, KUc, KUd⟩, -⟩ := id KU
        go_wp2_with fail
        refine (PF.out _ _ _ _ _ _ _ _ _ _ _ _ _ _ T.inI T'.inI U.inI U'.inI).mono ?_
        rintro e w9 ⟨rfl, hb9⟩
        clear KFa KFb KFc KFd KSa KSb KSc KSd KTa KTb KTc KTd KUa KUb KUc KUd
        replace X := X.later hb9
        replace Y := Y.later hb9
        replace S := S.later hb9
        replace S' := S'.later hb9
        replace T := T.later hb9
        replace T' := T'.later hb9
        replace U := U.later hb9
        replace U' := U'.later hb9
        replace KF := KF.old hb9
        replace KS := KS.old hb9
        replace KT := KT.old hb9
        replace KU := KU.old hb9
        replace hB := old_trans hB hb9
        clear hb9
        obtain ⟨KFa, ⟨KFb, KFc, KFd⟩, -⟩ := id KF
        obtain ⟨KSa, ⟨KSb, KSc, KSd⟩, -⟩ := id KS
        obtain ⟨KTa, ⟨KTb, KTc, KTd⟩, -⟩ := id KT
        obtain ⟨KUa, ⟨KUb, KUc, KUd⟩, -⟩ := id KU
        clear KFa KFb KFc KFd KSa KSb KSc KSd KTa KTb KTc KTd KUa KUb KUc KUd
        clear S S' T T' U U' KS KT KU
        obtain ⟨KFa, ⟨KFb, KFc, KFd⟩, -⟩ := id KF
        go_wp2_with fail
        refine (FL.out _ _ _ _ _ _ _ X.inI Y.inI (TT.out _ hB)).mono ?_
        rintro e w10 ⟨⟨avN, cvN, avN', cvN', rfl, N, N'⟩, hb10⟩
        clear KFa KFb KFc KFd
        replace X := X.later hb10
        replace Y := Y.later hb10
        replace KF := KF.old hb10
        replace hB := old_trans hB hb10
        clear hb10
        obtain ⟨KFa, ⟨KFb, KFc, KFd⟩, -⟩ := id KF
        clear KFa KFb KFc KFd
        have KN_ := Cel3.new w10 (.bool bn) (.slice avN nl.length cvN) (.slice avN' ol.length cvN') 26
        have halKN : Below w10.heap.size w10 (w10.alloc (.cells #[.bool bn, .slice avN nl.length cvN, .slice avN' ol.length cvN'] 26)) := old_alloc (Below.refl _ _) _
        replace X := X.later halKN
        replace Y := Y.later halKN
        replace N := N.later halKN
        replace N' := N'.later halKN
        replace KF := KF.old halKN
        replace hB := old_trans hB halKN
        clear halKN
        have KN := KN_
        clear KN_
        obtain ⟨KFa, ⟨KFb, KFc, KFd⟩, -⟩ := id KF
        obtain ⟨KNa, ⟨KNb, KNc, KNd⟩, -⟩ := id KN
        go_wp2_with fail
        refine (OK.out _ _ _ _ _ _ _ X.inI Y.inI).mono ?_
        rintro e w11 ⟨rfl, hb11⟩
        clear KFa KFb KFc KFd KNa KNb KNc KNd
        replace X := X.later hb11
        replace Y := Y.later hb11
        replace N := N.later hb11
        replace N' := N'.later hb11
        replace KF := KF.old hb11
        replace KN := KN.old hb11
        replace hB := old_trans hB hb11
        clear hb11
        obtain ⟨KFa, ⟨KFb, KFc, KFd⟩, -⟩ := id KF
        obtain ⟨KNa, ⟨KNb, KNc, KNd⟩, -⟩ := id KN
        have hc0 : w11.cell? ⟨w10.heap.size, 0, none⟩ = some (.bool bn) ∧ w11.cell? ⟨w10.heap.size, 1, none⟩ = some (.slice avN nl.length cvN) ∧ w11.cell? ⟨w10.heap.size, 2, none⟩ = some (.slice avN' ol.length cvN') := ⟨KNb, KNc, KNd⟩
        have TI := hd (fun w' (hS : w'.cell? ⟨w10.heap.size, 0, none⟩ = some (.bool bn) ∧ w'.cell? ⟨w10.heap.size, 1, none⟩ = some (.slice avN nl.length cvN) ∧ w'.cell? ⟨w10.heap.size, 2, none⟩ = some (.slice avN' ol.length cvN')) => (I1.out w').mono (fun e w'' (k : _ ∧ _) => (⟨k, three_old hS k.2⟩ : (_ ∧ _) ∧ (w''.cell? ⟨w10.heap.size, 0, none⟩ = some (.bool bn) ∧ w''.cell? ⟨w10.heap.size, 1, none⟩ = some (.slice avN nl.length cvN) ∧ w''.cell? ⟨w10.heap.size, 2, none⟩ = some (.slice avN' ol.length cvN')))))
        have CT := hd (fun c d cc cd w' (hS : w'.cell? ⟨w10.heap.size, 0, none⟩ = some (.bool bn) ∧ w'.cell? ⟨w10.heap.size, 1, none⟩ = some (.slice avN nl.length cvN) ∧ w'.cell? ⟨w10.heap.size, 2, none⟩ = some (.slice avN' ol.length cvN')) (h : Below w11.heap.size w11 w') (h3 : InI w' c ol.length cc ol) (h4 : InI w' d ol.length cd ol) => (AC.out _ _ _ _ _ _ _ _ _ _ _ _ _ (N.later h).inI (N'.later h).inI h3 h4 (TT.out _ (old_trans hB h))).mono (fun e w'' (k : _ ∧ _) => (⟨k, three_old hS k.2, h.size⟩ : (_ ∧ _) ∧ (w''.cell? ⟨w10.heap.size, 0, none⟩ = some (.bool bn) ∧ w''.cell? ⟨w10.heap.size, 1, none⟩ = some (.slice avN nl.length cvN) ∧ w''.cell? ⟨w10.heap.size, 2, none⟩ = some (.slice avN' ol.length cvN')) ∧ w11.heap.size ≤ w'.heap.size)))
        have nwB : w10.heap.size < w11.heap.size := cell_lt hc0.1
        have nw0 := World.new_ne w11 ⟨w10.heap.size, 0, none⟩ KNb
        have nw1 := World.new_ne w11 ⟨w10.heap.size, 1, none⟩ KNc
        have nw2 := World.new_ne w11 ⟨w10.heap.size, 2, none⟩ KNd
        go_upto_region 23 with fail
        go_cut [18, 19] (fun p q wx => ∃ pb av cv av' cv', p = .pointer (some ⟨pb, 0, none⟩) ∧ q = .bool false ∧ Cel3 wx pb (.bool sg) (.slice av tl.length cv) (.slice av' ul.length cv') ∧ OI wx w11.heap.size av cv tl ∧ OI wx w11.heap.size av' cv' ul ∧ Below w11.heap.size w11 wx)
        case first =>
          go_wp2_with fail
          go_region_held3 (fun w' => w'.cell? ⟨w10.heap.size, 0, none⟩ = some (.bool bn) ∧ w'.cell? ⟨w10.heap.size, 1, none⟩ = some (.slice avN nl.length cvN) ∧ w'.cell? ⟨w10.heap.size, 2, none⟩ = some (.slice avN' ol.length cvN')) (go_keep) (first | (go_at_call 20; refine (TI.out _ (by assumption)).mono ?_; rintro e wx0 ⟨⟨⟨a1, d1, a2, d2, rfl, Q, Q', -⟩, hbx⟩, hcx⟩; have hbx0 := hbx; (with_reducible first | (have lN := NN.lts; have NN := NN.old hbx) | (have lN := NN.drew.lts; have NN := NN.drew.old hbx) | (have pN := newN (R := w11) (by repeat (first | exact Below.refl _ _ | assumption | refine Below.drew ?_ | refine old_alloc ?_ _ | refine old_trans ?_ (by assumption))) hbx; have lN := And.right (And.right pN); have hpN := And.left (And.right pN); have NN := And.left pN) | (have pN := newN' (R := w11) (by repeat (first | exact Below.refl _ _ | assumption | refine Below.drew ?_ | refine old_alloc ?_ _ | refine old_trans ?_ (by assumption))) hbx; have lN := And.right (And.right pN); have hpN := And.left (And.right pN); have NN := And.left pN) | skip); (first | (have NN0 := NN.c0; have NN1 := NN.c1; have NN2 := NN.c2; have NN3 := NN.f0; have NN4 := NN.f1; have NN5 := NN.f2; have q1 := Nat.ne_of_gt (Nat.lt_of_lt_of_le nwB hpN)) | skip)) | (go_at_call 19; refine (CT.out _ _ _ _ _ (by assumption) (by repeat (first | exact Below.refl _ _ | assumption | refine Below.drew ?_ | refine old_alloc ?_ _ | refine old_trans ?_ (by assumption))) (by with_reducible first | exact Q.inI | exact (Q.alloc _).inI) (by with_reducible first | exact Q'.inI | exact (Q'.alloc _).inI)).mono ?_; rintro e wx2 ⟨⟨⟨av, cv, av', cv', rfl, hO, hO'⟩, hbx⟩, hcx, hbs⟩; have hbx2 := hbx; (with_reducible first | (have lN := NN.lts; have NN := NN.old hbx) | (have lN := NN.drew.lts; have NN := NN.drew.old hbx) | (have pN := newN (R := w11) (by repeat (first | exact Below.refl _ _ | assumption | refine Below.drew ?_ | refine old_alloc ?_ _ | refine old_trans ?_ (by assumption))) hbx; have lN := And.right (And.right pN); have hpN := And.left (And.right pN); have NN := And.left pN) | (have pN := newN' (R := w11) (by repeat (first | exact Below.refl _ _ | assumption | refine Below.drew ?_ | refine old_alloc ?_ _ | refine old_trans ?_ (by assumption))) hbx; have lN := And.right (And.right pN); have hpN := And.left (And.right pN); have NN := And.left pN) | skip); (first | (have NN0 := NN.c0; have NN1 := NN.c1; have NN2 := NN.c2; have NN3 := NN.f0; have NN4 := NN.f1; have NN5 := NN.f2; have q1 := Nat.ne_of_gt (Nat.lt_of_lt_of_le nwB hpN)) | skip)))
          all_goals
            go_wp2_with fail
            go_meet
            first | exact ⟨_, av, cv, av', cv', rfl, rfl, NN.setAll _ _ _, (oi_set3 hO lN).mono hbs, (oi_set3 hO' lN).mono hbs, below_set (below_set (below_set (by repeat (first | exact Below.refl _ _ | assumption | refine Below.drew ?_ | refine old_alloc ?_ _ | refine old_trans ?_ (by assumption))) hpN _) hpN _) hpN _⟩ | exact ⟨_, av, cv, av', cv', rfl, rfl, Cel3.new _ _ _ _ _, (hO.alloc _).mono hbs, (hO'.alloc _).mono hbs, (by repeat (first | exact Below.refl _ _ | assumption | refine Below.drew ?_ | refine old_alloc ?_ _ | refine old_trans ?_ (by assumption)))⟩
        case rest =>
          clear KFa KFb KFc KFd KNa KNb KNc KNd
          obtain ⟨wd, hwd⟩ : ∃ x, x = wc := ⟨_, rfl⟩
          subst hwd
          obtain ⟨pb, au, cu, au', cu', rfl, rfl, KP, V, V', hbV⟩ := hcut
          clear hc0 TI CT nwB nw0 nw1 nw2
          replace X := X.later hbV
          replace Y := Y.later hbV
          replace N := N.later hbV
          replace N' := N'.later hbV
          replace KF := KF.old hbV
          replace KN := KN.old hbV
          replace hB := old_trans hB hbV
          clear hbV
          obtain ⟨KFa, ⟨KFb, KFc, KFd⟩, -⟩ := id KF
          obtain ⟨KNa, ⟨KNb, KNc, KNd⟩, -⟩ := id KN
          obtain ⟨KPa, ⟨KPb, KPc, KPd⟩, -⟩ := id KP
          go_wp2_with fail
          refine (CN.out _ _ _ _ _ _ _ _ _ _ _ _ _ N.inI N'.inI X.inI Y.inI (TT.out _ hB)).mono ?_
          rintro e w12 ⟨rfl, hb12⟩
          clear KFa KFb KFc KFd KNa KNb KNc KNd KPa KPb KPc KPd
          replace X := X.later hb12
          replace Y := Y.later hb12
          replace N := N.later hb12
          replace N' := N'.later hb12
          replace V := V.later hb12
          replace V' := V'.later hb12
          replace KF := KF.old hb12
          replace KN := KN.old hb12
          replace KP := KP.old hb12
          replace hB := old_trans hB hb12
          clear hb12
          obtain ⟨KFa, ⟨KFb, KFc, KFd⟩, -⟩ := id KF
          obtain ⟨KNa, ⟨KNb, KNc, KNd⟩, -⟩ := id KN
          obtain ⟨KPa, ⟨KPb, KPc, KPd⟩, -⟩ := id KP
          have al : Below w12.heap.size w12 (w12.alloc (.cells #[.int .i64 1] 3)) := old_alloc (Below.refl _ _) _
          have ON := hone.out w12
          replace N' := N'.later al
          replace hB := old_trans hB al
          clear al
          go_wp2_with fail
          refine (P1.out _ _ _ _ _ N'.inI ON).mono ?_
          rintro e wl ⟨rfl, hbl⟩
          replace hB := old_trans hB hbl
          clear KFa KFb KFc KFd KNa KNb KNc KNd KPa KPb KPc KPd
          clear X Y N V V' KF KP KN
          go_wp2
          go_ret
          exact ⟨rfl, hB⟩
      · skip
        have CU := hd (hyc.out rfl)
        clear hyc
        go_wp2_with fail
        refine (RT.out _ _ _ _ _ _ _ X.inI Y.inI (TT.out _ hB)).mono ?_
        rintro e w1 ⟨⟨avR, cvR, avR', cvR', rfl, R, R'⟩, hb1⟩
        clear KFa KFb KFc KFd
        replace X := X.later hb1
        replace Y := Y.later hb1
        replace KF := KF.old hb1
        replace hB := old_trans hB hb1
        clear hb1
        obtain ⟨KFa, ⟨KFb, KFc, KFd⟩, -⟩ := id KF
        clear KFa KFb KFc KFd
        have KR_ := Cel3.new w1 (.bool false) (.slice avR rl.length cvR) (.slice avR' sl.length cvR') 26
        have halKR : Below w1.heap.size w1 (w1.alloc (.cells #[.bool false, .slice avR rl.length cvR, .slice avR' sl.length cvR'] 26)) := old_alloc (Below.refl _ _) _
        replace X := X.later halKR
        replace Y := Y.later halKR
        replace R := R.later halKR
        replace R' := R'.later halKR
        replace KF := KF.old halKR
        replace hB := old_trans hB halKR
        clear halKR
        have KR := KR_
        clear KR_
        obtain ⟨KFa, ⟨KFb, KFc, KFd⟩, -⟩ := id KF
        obtain ⟨KRa, ⟨KRb, KRc, KRd⟩, -⟩ := id KR
        go_wp2_with fail
        refine (ST.out _ _ _ _ _ _ _ X.inI Y.inI).mono ?_
        rintro e w2 ⟨⟨avW, cvW, avW', cvW', rfl, W, W'⟩, hb2⟩
        clear KFa KFb KFc KFd KRa KRb KRc KRd
        replace X := X.later hb2
        replace Y := Y.later hb2
        replace R := R.later hb2
        replace R' := R'.later hb2
        replace KF := KF.old hb2
        replace KR := KR.old hb2
        replace hB := old_trans hB hb2
        clear hb2
        obtain ⟨KFa, ⟨KFb, KFc, KFd⟩, -⟩ := id KF
        obtain ⟨KRa, ⟨KRb, KRc, KRd⟩, -⟩ := id KR
        clear KFa KFb KFc KFd KRa KRb KRc KRd
        have KW_ := Cel3.new w2 (.bool false) (.slice avW rl.length cvW) (.slice avW' sl.length cvW') 26
        have halKW : Below w2.heap.size w2 (w2.alloc (.cells #[.bool false, .slice avW rl.length cvW, .slice avW' sl.length cvW'] 26)) := old_alloc (Below.refl _ _) _
        replace X := X.later halKW
        replace Y := Y.later halKW
        replace R := R.later halKW
        replace R' := R'.later halKW
        replace W := W.later halKW
        replace W' := W'.later halKW
        replace KF := KF.old halKW
        replace KR := KR.old halKW
        replace hB := old_trans hB halKW
        clear halKW
        have KW := KW_
        clear KW_
        obtain ⟨KFa, ⟨KFb, KFc, KFd⟩, -⟩ := id KF
        obtain ⟨KRa, ⟨KRb, KRc, KRd⟩, -⟩ := id KR
        obtain ⟨KWa, ⟨KWb, KWc, KWd⟩, -⟩ := id KW
        go_wp2_with fail
        refine (MR.out _ _ _ _ _ _ _ _ _ _ _ _ _ R.inI R'.inI R.inI R'.inI (TT.out _ hB)).mono ?_
        rintro e w3 ⟨⟨avM, cvM, avM', cvM', rfl, M, M'⟩, hb3⟩
        clear KFa KFb KFc KFd KRa KRb KRc KRd KWa KWb KWc KWd
        replace X := X.later hb3
        replace Y := Y.later hb3
        replace R := R.later hb3
        replace R' := R'.later hb3
        replace W := W.later hb3
        replace W' := W'.later hb3
        replace KF := KF.old hb3
        replace KR := KR.old hb3
        replace KW := KW.old hb3
        replace hB := old_trans hB hb3
        clear hb3
        obtain ⟨KFa, ⟨KFb, KFc, KFd⟩, -⟩ := id KF
        obtain ⟨KRa, ⟨KRb, KRc, KRd⟩, -⟩ := id KR
        obtain ⟨KWa, ⟨KWb, KWc, KWd⟩, -⟩ := id KW
        clear KFa KFb KFc KFd KRa KRb KRc KRd KWa KWb KWc KWd
        have KM_ := Cel3.new w3 (.bool false) (.slice avM xs.length cvM) (.slice avM' ys.length cvM') 26
        have halKM : Below w3.heap.size w3 (w3.alloc (.cells #[.bool false, .slice avM xs.length cvM, .slice avM' ys.length cvM'] 26)) := old_alloc (Below.refl _ _) _
        replace X := X.later halKM
        replace Y := Y.later halKM
        replace R := R.later halKM
        replace R' := R'.later halKM
        replace W := W.later halKM
        replace W' := W'.later halKM
        replace M := M.later halKM
        replace M' := M'.later halKM
        replace KF := KF.old halKM
        replace KR := KR.old halKM
        replace KW := KW.old halKM
        replace hB := old_trans hB halKM
        clear halKM
        have KM := KM_
        clear KM_
        obtain ⟨KFa, ⟨KFb, KFc, KFd⟩, -⟩ := id KF
        obtain ⟨KRa, ⟨KRb, KRc, KRd⟩, -⟩ := id KR
        obtain ⟨KWa, ⟨KWb, KWc, KWd⟩, -⟩ := id KW
        obtain ⟨KMa, ⟨KMb, KMc, KMd⟩, -⟩ := id KM
        go_wp2_with fail
        refine (PF.out _ _ _ _ _ _ _ _ _ _ _ _ _ _ M.inI M'.inI X.inI Y.inI).mono ?_
        rintro e w4 ⟨rfl, hb4⟩
        clear KFa KFb KFc KFd KRa KRb KRc KRd KWa KWb KWc KWd KMa KMb KMc KMd
        replace X := X.later hb4
        replace Y := Y.later hb4
        replace R := R.later hb4
        replace R' := R'.later hb4
        replace W := W.later hb4
        replace W' := W'.later hb4
        replace M := M.later hb4
        replace M' := M'.later hb4
        replace KF := KF.old hb4
        replace KR := KR.old hb4
        replace KW := KW.old hb4
        replace KM := KM.old hb4
        replace hB := old_trans hB hb4
        clear hb4
        obtain ⟨KFa, ⟨KFb, KFc, KFd⟩, -⟩ := id KF
        obtain ⟨KRa, ⟨KRb, KRc, KRd⟩, -⟩ := id KR
        obtain ⟨KWa, ⟨KWb, KWc, KWd⟩, -⟩ := id KW
        obtain ⟨KMa, ⟨KMb, KMc, KMd⟩, -⟩ := id KM
        go_wp2_with fail
        refine (SG.out _ _ _ _ _ R.inI R'.inI (TT.out _ hB)).mono ?_
        rintro e w5 ⟨rfl, hb5⟩
        clear KFa KFb KFc KFd KRa KRb KRc KRd KWa KWb KWc KWd KMa KMb KMc KMd
        replace X := X.later hb5
        replace Y := Y.later hb5
        replace R := R.later hb5
        replace R' := R'.later hb5
        replace W := W.later hb5
        replace W' := W'.later hb5
        replace M := M.later hb5
        replace M' := M'.later hb5
        replace KF := KF.old hb5
        replace KR := KR.old hb5
        replace KW := KW.old hb5
        replace KM := KM.old hb5
        replace hB := old_trans hB hb5
        clear hb5
        obtain ⟨KFa, ⟨KFb, KFc, KFd⟩, -⟩ := id KF
        obtain ⟨KRa, ⟨KRb, KRc, KRd⟩, -⟩ := id KR
        obtain ⟨KWa, ⟨KWb, KWc, KWd⟩, -⟩ := id KW
        obtain ⟨KMa, ⟨KMb, KMc, KMd⟩, -⟩ := id KM
        clear KFa KFb KFc KFd KRa KRb KRc KRd KWa KWb KWc KWd KMa KMb KMc KMd
        clear R R' W W' M M' KR KW KM
        obtain ⟨KFa, ⟨KFb, KFc, KFd⟩, -⟩ := id KF
        go_wp2_with fail
        refine (MS.out _ _ _ _ _ _ _ _ _ _ _ _ _ X.inI Y.inI X.inI Y.inI (TT.out _ hB)).mono ?_
        rintro e w6 ⟨⟨avS, cvS, avS', cvS', rfl, S, S'⟩, hb6⟩
        clear KFa KFb KFc KFd
        replace X := X.later hb6
        replace Y := Y.later hb6
        replace KF := KF.old hb6
        replace hB := old_trans hB hb6
        clear hb6
        obtain ⟨KFa, ⟨KFb, KFc, KFd⟩, -⟩ := id KF
        clear KFa KFb KFc KFd
        have KS_ := Cel3.new w6 (.bool false) (.slice avS x2.length cvS) (.slice avS' y2.length cvS') 26
        have halKS : Below w6.heap.size w6 (w6.alloc (.cells #[.bool false, .slice avS x2.length cvS, .slice avS' y2.length cvS'] 26)) := old_alloc (Below.refl _ _) _
        replace X := X.later halKS
        replace Y := Y.later halKS
        replace S := S.later halKS
        replace S' := S'.later halKS
        replace KF := KF.old halKS
        replace hB := old_trans hB halKS
        clear halKS
        have KS := KS_
        clear KS_
        obtain ⟨KFa, ⟨KFb, KFc, KFd⟩, -⟩ := id KF
        obtain ⟨KSa, ⟨KSb, KSc, KSd⟩, -⟩ := id KS
        go_wp2_with fail
        refine (RS.out _ _ _ _ _ _ _ S.inI S'.inI (TT.out _ hB)).mono ?_
        rintro e w7 ⟨⟨avT, cvT, avT', cvT', rfl, T, T'⟩, hb7⟩
        clear KFa KFb KFc KFd KSa KSb KSc KSd
        replace X := X.later hb7
        replace Y := Y.later hb7
        replace S := S.later hb7
        replace S' := S'.later hb7
        replace KF := KF.old hb7
        replace KS := KS.old hb7
        replace hB := old_trans hB hb7
        clear hb7
        obtain ⟨KFa, ⟨KFb, KFc, KFd⟩, -⟩ := id KF
        obtain ⟨KSa, ⟨KSb, KSc, KSd⟩, -⟩ := id KS
        clear KFa KFb KFc KFd KSa KSb KSc KSd
        have KT_ := Cel3.new w7 (.bool false) (.slice avT xs.length cvT) (.slice avT' ys.length cvT') 26
        have halKT : Below w7.heap.size w7 (w7.alloc (.cells #[.bool false, .slice avT xs.length cvT, .slice avT' ys.length cvT'] 26)) := old_alloc (Below.refl _ _) _
        replace X := X.later halKT
        replace Y := Y.later halKT
        replace S := S.later halKT
        replace S' := S'.later halKT
        replace T := T.later halKT
        replace T' := T'.later halKT
        replace KF := KF.old halKT
        replace KS := KS.old halKT
        replace hB := old_trans hB halKT
        clear halKT
        have KT := KT_
        clear KT_
        obtain ⟨KFa, ⟨KFb, KFc, KFd⟩, -⟩ := id KF
        obtain ⟨KSa, ⟨KSb, KSc, KSd⟩, -⟩ := id KS
        obtain ⟨KTa, ⟨KTb, KTc, KTd⟩, -⟩ := id KT
        go_wp2_with fail
        refine (AB.out _ _ _ _ _ _ _ X.inI Y.inI (TT.out _ hB)).mono ?_
        rintro e w8 ⟨⟨avU, cvU, avU', cvU', rfl, U, U'⟩, hb8⟩
        clear KFa KFb KFc KFd KSa KSb KSc KSd KTa KTb KTc KTd
        replace X := X.later hb8
        replace Y := Y.later hb8
        replace S := S.later hb8
        replace S' := S'.later hb8
        replace T := T.later hb8
        replace T' := T'.later hb8
        replace KF := KF.old hb8
        replace KS := KS.old hb8
        replace KT := KT.old hb8
        replace hB := old_trans hB hb8
        clear hb8
        obtain ⟨KFa, ⟨KFb, KFc, KFd⟩, -⟩ := id KF
        obtain ⟨KSa, ⟨KSb, KSc, KSd⟩, -⟩ := id KS
        obtain ⟨KTa, ⟨KTb, KTc, KTd⟩, -⟩ := id KT
        clear KFa KFb KFc KFd KSa KSb KSc KSd KTa KTb KTc KTd
        have KU_ := Cel3.new w8 (.bool false) (.slice avU xs.length cvU) (.slice avU' ys.length cvU') 26
        have halKU : Below w8.heap.size w8 (w8.alloc (.cells #[.bool false, .slice avU xs.length cvU, .slice avU' ys.length cvU'] 26)) := old_alloc (Below.refl _ _) _
        replace X := X.later halKU
        replace Y := Y.later halKU
        replace S := S.later halKU
        replace S' := S'.later halKU
        replace T := T.later halKU
        replace T' := T'.later halKU
        replace U := U.later halKU
        replace U' := U'.later halKU
        replace KF := KF.old halKU
        replace KS := KS.old halKU
        replace KT := KT.old halKU
        replace hB := old_trans hB halKU
        clear halKU
        have KU := KU_
        clear KU_
        obtain ⟨KFa, ⟨KFb, KFc, KFd⟩, -⟩ := id KF
        obtain ⟨KSa, ⟨KSb, KSc, KSd⟩, -⟩ := id KS
        obtain ⟨KTa, ⟨KTb, KTc, KTd⟩, -⟩ := id KT
        obtain ⟨KUa, ⟨KUb, KUc, KUd⟩, -⟩ := id KU
        go_wp2_with fail
        refine (PF.out _ _ _ _ _ _ _ _ _ _ _ _ _ _ T.inI T'.inI U.inI U'.inI).mono ?_
        rintro e w9 ⟨rfl, hb9⟩
        clear KFa KFb KFc KFd KSa KSb KSc KSd KTa KTb KTc KTd KUa KUb KUc KUd
        replace X := X.later hb9
        replace Y := Y.later hb9
        replace S := S.later hb9
        replace S' := S'.later hb9
        replace T := T.later hb9
        replace T' := T'.later hb9
        replace U := U.later hb9
        replace U' := U'.later hb9
        replace KF := KF.old hb9
        replace KS := KS.old hb9
        replace KT := KT.old hb9
        replace KU := KU.old hb9
        replace hB := old_trans hB hb9
        clear hb9
        obtain ⟨KFa, ⟨KFb, KFc, KFd⟩, -⟩ := id KF
        obtain ⟨KSa, ⟨KSb, KSc, KSd⟩, -⟩ := id KS
        obtain ⟨KTa, ⟨KTb, KTc, KTd⟩, -⟩ := id KT
        obtain ⟨KUa, ⟨KUb, KUc, KUd⟩, -⟩ := id KU
        clear KFa KFb KFc KFd KSa KSb KSc KSd KTa KTb KTc KTd KUa KUb KUc KUd
        clear S S' T T' U U' KS KT KU
        obtain ⟨KFa, ⟨KFb, KFc, KFd⟩, -⟩ := id KF
        go_wp2_with fail
        refine (FL.out _ _ _ _ _ _ _ X.inI Y.inI (TT.out _ hB)).mono ?_
        rintro e w10 ⟨⟨avN, cvN, avN', cvN', rfl, N, N'⟩, hb10⟩
        clear KFa KFb KFc KFd
        replace X := X.later hb10
        replace Y := Y.later hb10
        replace KF := KF.old hb10
        replace hB := old_trans hB hb10
        clear hb10
        obtain ⟨KFa, ⟨KFb, KFc, KFd⟩, -⟩ := id KF
        clear KFa KFb KFc KFd
        have KN_ := Cel3.new w10 (.bool bn) (.slice avN nl.length cvN) (.slice avN' ol.length cvN') 26
        have halKN : Below w10.heap.size w10 (w10.alloc (.cells #[.bool bn, .slice avN nl.length cvN, .slice avN' ol.length cvN'] 26)) := old_alloc (Below.refl _ _) _
        replace X := X.later halKN
        replace Y := Y.later halKN
        replace N := N.later halKN
        replace N' := N'.later halKN
        replace KF := KF.old halKN
        replace hB := old_trans hB halKN
        clear halKN
        have KN := KN_
        clear KN_
        obtain ⟨KFa, ⟨KFb, KFc, KFd⟩, -⟩ := id KF
        obtain ⟨KNa, ⟨KNb, KNc, KNd⟩, -⟩ := id KN
        go_wp2_with fail
        refine (OK.out _ _ _ _ _ _ _ X.inI Y.inI).mono ?_
        rintro e w11 ⟨rfl, hb11⟩
        clear KFa KFb KFc KFd KNa KNb KNc KNd
        replace X := X.later hb11
        replace Y := Y.later hb11
        replace N := N.later hb11
        replace N' := N'.later hb11
        replace KF := KF.old hb11
        replace KN := KN.old hb11
        replace hB := old_trans hB hb11
        clear hb11
        obtain ⟨KFa, ⟨KFb, KFc, KFd⟩, -⟩ := id KF
        obtain ⟨KNa, ⟨KNb, KNc, KNd⟩, -⟩ := id KN
        have hc0 : w11.cell? ⟨w10.heap.size, 0, none⟩ = some (.bool bn) ∧ w11.cell? ⟨w10.heap.size, 1, none⟩ = some (.slice avN nl.length cvN) ∧ w11.cell? ⟨w10.heap.size, 2, none⟩ = some (.slice avN' ol.length cvN') := ⟨KNb, KNc, KNd⟩
        have TI := hd (fun w' (hS : w'.cell? ⟨w10.heap.size, 0, none⟩ = some (.bool bn) ∧ w'.cell? ⟨w10.heap.size, 1, none⟩ = some (.slice avN nl.length cvN) ∧ w'.cell? ⟨w10.heap.size, 2, none⟩ = some (.slice avN' ol.length cvN')) => (I1.out w').mono (fun e w'' (k : _ ∧ _) => (⟨k, three_old hS k.2⟩ : (_ ∧ _) ∧ (w''.cell? ⟨w10.heap.size, 0, none⟩ = some (.bool bn) ∧ w''.cell? ⟨w10.heap.size, 1, none⟩ = some (.slice avN nl.length cvN) ∧ w''.cell? ⟨w10.heap.size, 2, none⟩ = some (.slice avN' ol.length cvN')))))
        have CT := hd (fun c d cc cd w' (hS : w'.cell? ⟨w10.heap.size, 0, none⟩ = some (.bool bn) ∧ w'.cell? ⟨w10.heap.size, 1, none⟩ = some (.slice avN nl.length cvN) ∧ w'.cell? ⟨w10.heap.size, 2, none⟩ = some (.slice avN' ol.length cvN')) (h : Below w11.heap.size w11 w') (h3 : InI w' c ol.length cc ol) (h4 : InI w' d ol.length cd ol) => (AC.out _ _ _ _ _ _ _ _ _ _ _ _ _ (N.later h).inI (N'.later h).inI h3 h4 (TT.out _ (old_trans hB h))).mono (fun e w'' (k : _ ∧ _) => (⟨k, three_old hS k.2, h.size⟩ : (_ ∧ _) ∧ (w''.cell? ⟨w10.heap.size, 0, none⟩ = some (.bool bn) ∧ w''.cell? ⟨w10.heap.size, 1, none⟩ = some (.slice avN nl.length cvN) ∧ w''.cell? ⟨w10.heap.size, 2, none⟩ = some (.slice avN' ol.length cvN')) ∧ w11.heap.size ≤ w'.heap.size)))
        have nwB : w10.heap.size < w11.heap.size := cell_lt hc0.1
        have nw0 := World.new_ne w11 ⟨w10.heap.size, 0, none⟩ KNb
        have nw1 := World.new_ne w11 ⟨w10.heap.size, 1, none⟩ KNc
        have nw2 := World.new_ne w11 ⟨w10.heap.size, 2, none⟩ KNd
        go_upto_region 23 with fail
        go_cut [18, 19] (fun p q wx => ∃ pb av cv av' cv', p = .pointer (some ⟨pb, 0, none⟩) ∧ q = .bool true ∧ Cel3 wx pb (.bool sg) (.slice av tl.length cv) (.slice av' ul.length cv') ∧ OI wx w11.heap.size av cv tl ∧ OI wx w11.heap.size av' cv' ul ∧ Below w11.heap.size w11 wx)
        case first =>
          go_wp2_with fail
          go_region_held3 (fun w' => w'.cell? ⟨w10.heap.size, 0, none⟩ = some (.bool bn) ∧ w'.cell? ⟨w10.heap.size, 1, none⟩ = some (.slice avN nl.length cvN) ∧ w'.cell? ⟨w10.heap.size, 2, none⟩ = some (.slice avN' ol.length cvN')) (go_keep) (first | (go_at_call 20; refine (TI.out _ (by assumption)).mono ?_; rintro e wx0 ⟨⟨⟨a1, d1, a2, d2, rfl, Q, Q', -⟩, hbx⟩, hcx⟩; have hbx0 := hbx; (with_reducible first | (have lN := NN.lts; have NN := NN.old hbx) | (have lN := NN.drew.lts; have NN := NN.drew.old hbx) | (have pN := newN (R := w11) (by repeat (first | exact Below.refl _ _ | assumption | refine Below.drew ?_ | refine old_alloc ?_ _ | refine old_trans ?_ (by assumption))) hbx; have lN := And.right (And.right pN); have hpN := And.left (And.right pN); have NN := And.left pN) | (have pN := newN' (R := w11) (by repeat (first | exact Below.refl _ _ | assumption | refine Below.drew ?_ | refine old_alloc ?_ _ | refine old_trans ?_ (by assumption))) hbx; have lN := And.right (And.right pN); have hpN := And.left (And.right pN); have NN := And.left pN) | skip); (first | (have NN0 := NN.c0; have NN1 := NN.c1; have NN2 := NN.c2; have NN3 := NN.f0; have NN4 := NN.f1; have NN5 := NN.f2; have q1 := Nat.ne_of_gt (Nat.lt_of_lt_of_le nwB hpN)) | skip)) | (go_at_call 19; refine (CT.out _ _ _ _ _ (by assumption) (by repeat (first | exact Below.refl _ _ | assumption | refine Below.drew ?_ | refine old_alloc ?_ _ | refine old_trans ?_ (by assumption))) (by with_reducible first | exact Q.inI | exact (Q.alloc _).inI) (by with_reducible first | exact Q'.inI | exact (Q'.alloc _).inI)).mono ?_; rintro e wx2 ⟨⟨⟨av, cv, av', cv', rfl, hO, hO'⟩, hbx⟩, hcx, hbs⟩; have hbx2 := hbx; (with_reducible first | (have lN := NN.lts; have NN := NN.old hbx) | (have lN := NN.drew.lts; have NN := NN.drew.old hbx) | (have pN := newN (R := w11) (by repeat (first | exact Below.refl _ _ | assumption | refine Below.drew ?_ | refine old_alloc ?_ _ | refine old_trans ?_ (by assumption))) hbx; have lN := And.right (And.right pN); have hpN := And.left (And.right pN); have NN := And.left pN) | (have pN := newN' (R := w11) (by repeat (first | exact Below.refl _ _ | assumption | refine Below.drew ?_ | refine old_alloc ?_ _ | refine old_trans ?_ (by assumption))) hbx; have lN := And.right (And.right pN); have hpN := And.left (And.right pN); have NN := And.left pN) | skip); (first | (have NN0 := NN.c0; have NN1 := NN.c1; have NN2 := NN.c2; have NN3 := NN.f0; have NN4 := NN.f1; have NN5 := NN.f2; have q1 := Nat.ne_of_gt (Nat.lt_of_lt_of_le nwB hpN)) | skip)))
          all_goals
            go_wp2_with fail
            go_meet
            first | exact ⟨_, av, cv, av', cv', rfl, rfl, NN.setAll _ _ _, (oi_set3 hO lN).mono hbs, (oi_set3 hO' lN).mono hbs, below_set (below_set (below_set (by repeat (first | exact Below.refl _ _ | assumption | refine Below.drew ?_ | refine old_alloc ?_ _ | refine old_trans ?_ (by assumption))) hpN _) hpN _) hpN _⟩ | exact ⟨_, av, cv, av', cv', rfl, rfl, Cel3.new _ _ _ _ _, (hO.alloc _).mono hbs, (hO'.alloc _).mono hbs, (by repeat (first | exact Below.refl _ _ | assumption | refine Below.drew ?_ | refine old_alloc ?_ _ | refine old_trans ?_ (by assumption)))⟩
        case rest =>
          clear KFa KFb KFc KFd KNa KNb KNc KNd
          obtain ⟨wd, hwd⟩ : ∃ x, x = wc := ⟨_, rfl⟩
          subst hwd
          obtain ⟨pb, au, cu, au', cu', rfl, rfl, KP, V, V', hbV⟩ := hcut
          clear hc0 TI CT nwB nw0 nw1 nw2
          replace X := X.later hbV
          replace Y := Y.later hbV
          replace N := N.later hbV
          replace N' := N'.later hbV
          replace KF := KF.old hbV
          replace KN := KN.old hbV
          replace hB := old_trans hB hbV
          clear hbV
          obtain ⟨KFa, ⟨KFb, KFc, KFd⟩, -⟩ := id KF
          obtain ⟨KNa, ⟨KNb, KNc, KNd⟩, -⟩ := id KN
          obtain ⟨KPa, ⟨KPb, KPc, KPd⟩, -⟩ := id KP
          go_wp2_with fail
          refine (CN.out _ _ _ _ _ _ _ _ _ _ _ _ _ N.inI N'.inI X.inI Y.inI (TT.out _ hB)).mono ?_
          rintro e w12 ⟨rfl, hb12⟩
          clear KFa KFb KFc KFd KNa KNb KNc KNd KPa KPb KPc KPd
          replace X := X.later hb12
          replace Y := Y.later hb12
          replace N := N.later hb12
          replace N' := N'.later hb12
          replace V := V.later hb12
          replace V' := V'.later hb12
          replace KF := KF.old hb12
          replace KN := KN.old hb12
          replace KP := KP.old hb12
          replace hB := old_trans hB hb12
          clear hb12
          obtain ⟨KFa, ⟨KFb, KFc, KFd⟩, -⟩ := id KF
          obtain ⟨KNa, ⟨KNb, KNc, KNd⟩, -⟩ := id KN
          obtain ⟨KPa, ⟨KPb, KPc, KPd⟩, -⟩ := id KP
          go_wp2_with fail
          refine (CU.out _ _ _ _ _ _ _ _ _ _ _ _ _ X.inI Y.inI V.inI V'.inI (TT.out _ hB)).mono ?_
          rintro e w13 ⟨rfl, hb13⟩
          clear KFa KFb KFc KFd KNa KNb KNc KNd KPa KPb KPc KPd
          replace X := X.later hb13
          replace Y := Y.later hb13
          replace N := N.later hb13
          replace N' := N'.later hb13
          replace V := V.later hb13
          replace V' := V'.later hb13
          replace KF := KF.old hb13
          replace KN := KN.old hb13
          replace KP := KP.old hb13
          replace hB := old_trans hB hb13
          clear hb13
          obtain ⟨KFa, ⟨KFb, KFc, KFd⟩, -⟩ := id KF
          obtain ⟨KNa, ⟨KNb, KNc, KNd⟩, -⟩ := id KN
          obtain ⟨KPa, ⟨KPb, KPc, KPd⟩, -⟩ := id KP
          have al : Below w13.heap.size w13 (w13.alloc (.cells #[.int .i64 1] 3)) := old_alloc (Below.refl _ _) _
          have ON := hone.out w13
          replace N' := N'.later al
          replace hB := old_trans hB al
          clear al
          go_wp2_with fail
          refine (P1.out _ _ _ _ _ N'.inI ON).mono ?_
          rintro e wl ⟨rfl, hbl⟩
          replace hB := old_trans hB hbl
          clear KFa KFb KFc KFd KNa KNb KNc KNd KPa KPb KPc KPd
          clear X Y N V V' KF KP KN
          go_wp2
          go_ret
          exact ⟨rfl, hB⟩

set_option maxRecDepth 100000 in
theorem FnFracRoot_lifted (os : Os) (started : os.Started) (H : Type) (enc : TypeId × Value → H) :
    ReturnsInHanded {} Tryz.checked os 4 .any (fun w args => (Rows.fnFracRootSpec.pre enc Tryz.prog Tryz.f4 [] false w args ∧ laidMetH Tryz.prog LHL w) ∧ sizedMet enc Tryz.prog Tryz.f4 (OpenSpec.ofChange Rows.fnFracRootSpec) false w args)
      (Rows.fnFracRootSpec.post enc Tryz.prog Tryz.f4 false true false false) := by
  refine returnsInHanded_of_change_and (C := Tryz.checked) (X := fun w _ => laidMetH Tryz.prog LHL w) (fun _ _ _ hh h => h.of_heap hh) LH_own started (by kernel_rfl) Tryz.func4
    (ChangeSpec.witness_shaped (enc := enc) (C := Tryz.checked) (os := os) (X := fun w _ => laidMetH Tryz.prog LHL w) false (World.doorLaid Tryz.prog LH_fuel os) #[.slice none 0 0] 8 rfl (LH_shaped os _) (by kernel_rfl) (by kernel_rfl) (by kernel_rfl) (LH_met os _)) ?_
  intro W base args ds gs before hval0 hW _ _ hL _
  have hval : ∀ (j : Nat) t v, Tryz.f4.params[j]? = some t → args[j]? = some v → Value.okWide Tryz.prog W .any base t v := hval0
  have hW' := hW
  obtain ⟨p, q, hA0, hV, rfl, hfz, hnd⟩ := hW
  have hA : DataW.TrodAll enc Tryz.prog W 0 (fun _ => true) true Tryz.f4.params.toList args.toList ds p := hA0
  rw [Tryz.params4] at hA hval
  obtain ⟨v0, vs0, d0, ds0, p0, q0, hargs, rfl, rfl, h0, r0⟩ := trodAll_cons hA
  obtain ⟨rfl, rfl, rfl⟩ := trodAll_nil r0
  obtain rfl : args = #[v0] := by cases args; simp_all
  obtain ⟨rfl, rfl⟩ := trodVars_none hV
  have k0 := h0
  have lt0 : ∀ x ∈ p0, x.block < W.heap.size := by obtain ⟨m, hm⟩ := k0; exact DataW.trod_lt m _ _ _ hm
  obtain ⟨a0, len0, cap0, rfl, wb0⟩ := open_bytes (hval 0 33 v0 rfl rfl) h0
  clear hA0 hval0
  refine (FnFracRoot_walk a0 len0 cap0 W wb0 (both_of hL)).mono fun e W' ⟨he, bel⟩ => ?_
  subst he
  exact ⟨_, rfl, _, _, _, [], _, [], hW', trodAll_mk1 (shut_bool Tryz.underlying4 _), (trodAll_cons_mk (Below.trod jf1 (by kernel_rfl) (of_decide_eq_true (by kernel_rfl)) k0 bel lt0) trodAll_mk0), rfl, bel.frame _, fun h => by cases h⟩

theorem FnFracRoot_k0 : (Rows.fnFracRootRow.wf (OpenSpec.ofChange Rows.fnFracRootSpec)) = true := by kernel_rfl
theorem FnFracRoot_k3 : (Tryz.f4.params.all (Tryz.prog.readableRec ·)) = true := by kernel_rfl
theorem FnFracRoot_k4 : (namedTie Tryz.prog Rows.fnFracRootRow.named Rows.fnFracRootSpec.vars) = true := by kernel_rfl
theorem FnFracRoot_k5 : ((Rows.fnFracRootRow.stops == [])) = true := by kernel_rfl
theorem FnFracRoot_k7 : ((Rows.fnFracRootRow.knobs == [])) = true := by kernel_rfl
theorem FnFracRoot_k9 : ((Rows.fnFracRootRow.inPlace == Tryz.prog.inPlace 4)) = true := by kernel_rfl
theorem FnFracRoot_k10 : ((Rows.fnFracRootRow.unfollowed == Tryz.prog.unfollowed 4)) = true := by kernel_rfl
theorem FnFracRoot_k11 : ((Rows.fnFracRootRow.recurses == Tryz.prog.recurses 4)) = true := by kernel_rfl
theorem FnFracRoot_k12 : ((Rows.fnFracRootRow.named == Tryz.prog.varsNamed 4)) = true := by kernel_rfl
theorem FnFracRoot_k13 : ((Rows.fnFracRootRow.maps == (Tryz.f4.params.toList ++ Rows.fnFracRootSpec.plain.varTypes Tryz.prog).any (Tryz.prog.mapsRec ·))) = true := by kernel_rfl
theorem FnFracRoot_k14 : ((Rows.fnFracRootRow.ifaces == (Tryz.f4.params.toList ++ Rows.fnFracRootSpec.plain.varTypes Tryz.prog).any (Tryz.prog.ifacesRec ·))) = true := by kernel_rfl
theorem FnFracRoot_k15 : ((Rows.fnFracRootRow.mapsOut == Tryz.prog.mapsAmong Tryz.f4.resultTypes.toList)) = true := by kernel_rfl
theorem FnFracRoot_k16 : ((Rows.fnFracRootRow.loops == (Tryz.f4.params.toList ++ Rows.fnFracRootSpec.plain.varTypes Tryz.prog).any (Tryz.prog.loopsFrom ·))) = true := by kernel_rfl
theorem FnFracRoot_k17 : ((Rows.fnFracRootRow.wideKeys == (Tryz.f4.params.toList ++ Rows.fnFracRootSpec.plain.varTypes Tryz.prog ++ Tryz.f4.resultTypes.toList).any (Tryz.prog.wideKeysFrom ·))) = true := by kernel_rfl
theorem FnFracRoot_k18 : (Rows.fnFracRootSpec.vars.all (Tryz.prog.varReadable ·)) = true := by kernel_rfl
theorem FnFracRoot_k19 : (Tryz.f4.resultTypes.all (fun t => Tryz.prog.readableRec t && decide (t < Tryz.prog.types.size))) = true := by kernel_rfl
theorem FnFracRoot_k20 : ((Rows.fnFracRootRow.ifacesOut == Tryz.f4.resultTypes.toList.any (Tryz.prog.ifacesRec ·))) = true := by kernel_rfl
theorem FnFracRoot_k21 : ((Rows.fnFracRootRow.loopsOut == Tryz.f4.resultTypes.toList.any (Tryz.prog.loopsFrom ·))) = true := by kernel_rfl
theorem FnFracRoot_k23 : (Rows.fnFracRootRow.shortTexts.isNone) = true := by kernel_rfl
theorem FnFracRoot_k28 : ((Rows.fnFracRootRow.kinds == (if Rows.fnFracRootRow.domain.isEmpty then [] else Tryz.f4.params.toList.map fun t => match Tryz.prog.underlying t with | some (.int k) => some k | _ => none))) = true := by kernel_rfl
theorem FnFracRoot_k29 : ((Rows.fnFracRootRow.pinned == Rows.fnFracRootRow.pinnedBy)) = true := by kernel_rfl
theorem FnFracRoot_k30 : ((Rows.fnFracRootRow.veiled == (Tryz.f4.params.toList ++ Rows.fnFracRootSpec.plain.varTypes Tryz.prog ++ Tryz.f4.resultTypes.toList).any (Tryz.prog.veiledRec ·))) = true := by kernel_rfl
theorem FnFracRoot_k31 : (Rows.fnFracRootRow.veiledFits Tryz.prog Tryz.f4.params.toList (Tryz.f4.params.toList ++ Rows.fnFracRootSpec.plain.varTypes Tryz.prog ++ Tryz.f4.resultTypes.toList)) = true := by kernel_rfl
set_option maxRecDepth 100000 in
theorem FnFracRoot_closed : joinedFacts Tryz.prog 4 Tryz.f4 Rows.fnFracRootSpec Rows.fnFracRootRow = true := (and2 (and2 (and2 (and2 (and2 (and2 (and2 (and2 (and2 (and2 (and2 (and2 (and2 (and2 (and2 (and2 (and2 (and2 (and2 (and2 (and2 (and2 (and2 (and2 (and2 (and2 (and2 (and2 (and2 (and2 (and2 FnFracRoot_k0 jf1) jf2) FnFracRoot_k3) FnFracRoot_k4) FnFracRoot_k5) jf6) FnFracRoot_k7) jf8) FnFracRoot_k9) FnFracRoot_k10) FnFracRoot_k11) FnFracRoot_k12) FnFracRoot_k13) FnFracRoot_k14) FnFracRoot_k15) FnFracRoot_k16) FnFracRoot_k17) FnFracRoot_k18) FnFracRoot_k19) FnFracRoot_k20) FnFracRoot_k21) jf22) FnFracRoot_k23) jf24) jf25) jf26) jf27) FnFracRoot_k28) FnFracRoot_k29) FnFracRoot_k30) FnFracRoot_k31)
theorem FnFracRoot_row : Rows.FnFracRootSaid :=
  OpenClaim.holds_of_wide 4 Tryz.f4 rfl rfl rfl rfl rfl rfl rfl ⟨rfl, rfl, rfl, rfl, rfl⟩ rfl rfl rfl rfl rfl (by kernel_rfl) Tryz.func4 FnFracRoot_closed
    (of_decide_eq_true (by kernel_rfl)) (by unfold Func.isWrapper; first | (rw [if_pos (by decide +kernel)]; kernel_rfl) | (rw [if_neg (by decide +kernel)]; exact ⟨rfl, rfl⟩))
    (fun os started H enc _ => FnFracRoot_lifted os started H enc)

theorem FnFracRoot_proved : Rows.FnFracRootCardSaid :=
  Claim7.holds_tied_plain_at .later [] [.data, .data, .handle] true (true, "d08cfaf9a017bd42d346fa062d4d4be3538dd4a9b00f40430ae896b55ebc9905") true
    FnFracRoot_row (fun _ h => by cases h) (by kernel_rfl) (fun _ h => by cases h) fnFracRoot_row_tie rfl ⟨rfl, rfl⟩ (by kernel_rfl) rfl
    (fun f fn hf hfn => by
      obtain rfl : f = 4 := Option.some.inj ((show Tryz.prog.funcNamed "loop.example/pinfold/laws.FnFracRoot" = some 4 by kernel_rfl).symm.trans hf) |>.symm
      obtain rfl : fn = Tryz.f4 := (Option.some.inj (Tryz.func4.symm.trans hfn)).symm
      exact ⟨by kernel_rfl, fun j t ht => by
        rw [Tryz.params4] at ht
        have hm : t ∈ [33] := by simpa using Array.mem_of_getElem? ht
        have hall : ([33].all fun u => !Tryz.prog.wantsStandIn u) = true := by kernel_rfl
        exact (show Tryz.prog.wantsStandIn t = false by simpa using List.all_eq_true.1 hall t hm)⟩)
    (by kernel_rfl)
end Go.Proofs.YtbcdeddbkckaeaaGreatDoor
