/- Relations of two fractions, by the program and by the specification. Conditions, of the program: the library's table and its handle of errors hold what their texts lay. -/
import Derived.Test.YtmnjkhfpgjolbaaGreatDoorFY
namespace Go.Proofs.YtmnjkhfpgjolbaaGreatDoor
open Go.RowKit
set_option linter.unusedVariables false
set_option maxRecDepth 100000

def relH (rl c : Int) : Bool := (c == 0 && (rl == 1 || (rl == 2 || rl == 3))) || ((c == -1 && rl == 1) || (c == 1 && rl == 2))
theorem iHolds (rl c : Int) (w : World) :
    Calls Tryz.prog 13 #[.int .i64 rl, .int .i64 c] w fun e w' => e = .returned (.bool (relH rl c)) ∧ Below w.heap.size w w' := by
  by_cases c0 : c = 0
  · subst c0
    by_cases r1 : rl = 1
    · subst r1; go_enter Tryz.func13, Tryz.ntmps13; go_wp2; go_ret; exact ⟨rfl, (by repeat (first | exact Below.refl _ _ | refine Below.drew ?_ | refine old_alloc ?_ _ | refine old_trans ?_ (by assumption)))⟩
    by_cases r2 : rl = 2
    · subst r2; go_enter Tryz.func13, Tryz.ntmps13; go_wp2; go_ret; exact ⟨rfl, (by repeat (first | exact Below.refl _ _ | refine Below.drew ?_ | refine old_alloc ?_ _ | refine old_trans ?_ (by assumption)))⟩
    by_cases r3 : rl = 3
    · subst r3; go_enter Tryz.func13, Tryz.ntmps13; go_wp2; go_ret; exact ⟨rfl, (by repeat (first | exact Below.refl _ _ | refine Below.drew ?_ | refine old_alloc ?_ _ | refine old_trans ?_ (by assumption)))⟩
    go_enter Tryz.func13, Tryz.ntmps13
    go_wp2
    go_ret
    exact ⟨retB (by simp [relH, r1, r2, r3]), (by repeat (first | exact Below.refl _ _ | refine Below.drew ?_ | refine old_alloc ?_ _ | refine old_trans ?_ (by assumption)))⟩
  by_cases r1 : rl = 1
  · subst r1
    by_cases c1 : c = -1
    · subst c1; go_enter Tryz.func13, Tryz.ntmps13; go_wp2; go_ret; exact ⟨rfl, (by repeat (first | exact Below.refl _ _ | refine Below.drew ?_ | refine old_alloc ?_ _ | refine old_trans ?_ (by assumption)))⟩
    go_enter Tryz.func13, Tryz.ntmps13
    go_wp2
    go_ret
    exact ⟨retB (by unfold relH; cases (c == 0) <;> cases (c == -1) <;> cases (c == 1) <;> rfl), (by repeat (first | exact Below.refl _ _ | refine Below.drew ?_ | refine old_alloc ?_ _ | refine old_trans ?_ (by assumption)))⟩
  by_cases r2 : rl = 2
  · subst r2
    by_cases c1 : c = 1
    · subst c1; go_enter Tryz.func13, Tryz.ntmps13; go_wp2; go_ret; exact ⟨rfl, (by repeat (first | exact Below.refl _ _ | refine Below.drew ?_ | refine old_alloc ?_ _ | refine old_trans ?_ (by assumption)))⟩
    go_enter Tryz.func13, Tryz.ntmps13
    go_wp2
    go_ret
    exact ⟨retB (by unfold relH; cases (c == 0) <;> cases (c == -1) <;> cases (c == 1) <;> rfl), (by repeat (first | exact Below.refl _ _ | refine Below.drew ?_ | refine old_alloc ?_ _ | refine old_trans ?_ (by assumption)))⟩
  by_cases r3 : rl = 3
  · subst r3
    go_enter Tryz.func13, Tryz.ntmps13
    go_wp2
    go_ret
    exact ⟨retB (by unfold relH; cases (c == 0) <;> cases (c == -1) <;> cases (c == 1) <;> rfl), (by repeat (first | exact Below.refl _ _ | refine Below.drew ?_ | refine old_alloc ?_ _ | refine old_trans ?_ (by assumption)))⟩
  go_enter Tryz.func13, Tryz.ntmps13
  go_wp2
  go_ret
  exact ⟨retB (by simp [relH, r1, r2, r3]), (by repeat (first | exact Below.refl _ _ | refine Below.drew ?_ | refine old_alloc ?_ _ | refine old_trans ?_ (by assumption)))⟩
theorem sRel (rl : Int) (w : World) :
    Calls Tryz.prog 11 #[.int .i64 rl] w fun e w' => e = .returned (.bool (rl == 1 || (rl == 2 || rl == 3))) ∧ w' = w := by
  by_cases r1 : rl = 1
  · subst r1; go_enter Tryz.func11, Tryz.ntmps11; go_wp2; go_ret; exact ⟨rfl, rfl⟩
  by_cases r2 : rl = 2
  · subst r2; go_enter Tryz.func11, Tryz.ntmps11; go_wp2; go_ret; exact ⟨rfl, rfl⟩
  by_cases r3 : rl = 3
  · subst r3; go_enter Tryz.func11, Tryz.ntmps11; go_wp2; go_ret; exact ⟨rfl, rfl⟩
  go_enter Tryz.func11, Tryz.ntmps11
  go_wp2
  go_ret
  exact ⟨retB (Bool.or_assoc _ _ _).symm, rfl⟩
set_option maxHeartbeats 4000000 in
theorem iRelHolds (rl : Int) (bl : Bool) (a b : Option Addr) (la lb ca cb : Nat) (xs ys : List Int) (bm : Bool) (c d : Option Addr) (lc ld cc cd : Nat) (us vs : List Int) (w : World) (hA : InI w a la ca xs) (hB : InI w b lb cb ys) (hC : InI w c lc cc us) (hD : InI w d ld cd vs) (hT : Tab w) (hE : ET w) :
    Calls Tryz.prog 7 #[.int .i64 rl, .agg #[.bool bl, .slice a la ca, .slice b lb cb], .agg #[.bool bm, .slice c lc cc, .slice d ld cd]] w fun e w' => e = .returned (.bool (relH rl (cmpF (fracOk bl xs ys && fracOk bm us vs) (sumS bl (!bm) (val xs * val vs) (val us * val ys)) (sumN bl (!bm) (val xs * val vs) (val us * val ys))))) ∧ Below w.heap.size w w' := by
  have e0 : Below w.heap.size w ((w.alloc (.cells #[.bool bl, .slice a la ca, .slice b lb cb] 27)).alloc (.cells #[.bool bm, .slice c lc cc, .slice d ld cd] 27)) := (by repeat (first | exact Below.refl _ _ | refine Below.drew ?_ | refine old_alloc ?_ _ | refine old_trans ?_ (by assumption)))
  have C := hd (fun w' (h : Below w.heap.size w w') => iFracCmp bl a b la lb ca cb xs ys bm c d lc ld cc cd us vs w' (hA.old h) (hB.old h) (hC.old h) (hD.old h) (hT.old h) (hE.old h))
  clear hA hB hC hD hT hE
  generalize cmpF (fracOk bl xs ys && fracOk bm us vs) (sumS bl (!bm) (val xs * val vs) (val us * val ys)) (sumN bl (!bm) (val xs * val vs) (val us * val ys)) = r at *
  have HO := hd (iHolds rl r)
  generalize relH rl r = q at *
  go_enter Tryz.func7, Tryz.ntmps7
  go_wp2_with fail
  refine (C.out _ (by first | exact e0 | exact Below.refl _ _)).mono ?_
  rintro e w1 ⟨rfl, hb1⟩
  go_wp2_with fail
  refine (HO.out _).mono ?_
  rintro e w2 ⟨rfl, hb2⟩
  go_wp2
  go_ret
  exact ⟨rfl, (by repeat (first | exact Below.refl _ _ | refine Below.drew ?_ | refine old_alloc ?_ _ | refine old_trans ?_ (by assumption)))⟩
set_option maxHeartbeats 4000000 in
theorem sRelHolds (rl : Int) (bl : Bool) (a b : Option Addr) (la lb ca cb : Nat) (xs ys : List Int) (bm : Bool) (c d : Option Addr) (lc ld cc cd : Nat) (us vs : List Int) (w : World) (hA : InI w a la ca xs) (hB : InI w b lb cb ys) (hC : InI w c lc cc us) (hD : InI w d ld cd vs) :
    Calls Tryz.prog 5 #[.int .i64 rl, .agg #[.bool bl, .slice a la ca, .slice b lb cb], .agg #[.bool bm, .slice c lc cc, .slice d ld cd]] w fun e w' => e = .returned (.bool (relH rl (cmpF (fracOk bl xs ys && fracOk bm us vs) (sumS bl (!bm) (val xs * val vs) (val us * val ys)) (sumN bl (!bm) (val xs * val vs) (val us * val ys))))) ∧ Below w.heap.size w w' := by
  have C := hd (fun w' (h : Below w.heap.size w w') => sFracCmp bl a b la lb ca cb xs ys bm c d lc ld cc cd us vs w' (hA.old h) (hB.old h) (hC.old h) (hD.old h))
  have e0 : Below w.heap.size w ((w.alloc (.cells #[.bool bl, .slice a la ca, .slice b lb cb] 27)).alloc (.cells #[.bool bm, .slice c lc cc, .slice d ld cd] 27)) := (by repeat (first | exact Below.refl _ _ | refine Below.drew ?_ | refine old_alloc ?_ _ | refine old_trans ?_ (by assumption)))
  clear hA hB hC hD
  have RR := hd (sRel rl)
  have hq : Hid (relH rl (cmpF (fracOk bl xs ys && fracOk bm us vs) (sumS bl (!bm) (val xs * val vs) (val us * val ys)) (sumN bl (!bm) (val xs * val vs) (val us * val ys))) = (((cmpF (fracOk bl xs ys && fracOk bm us vs) (sumS bl (!bm) (val xs * val vs) (val us * val ys)) (sumN bl (!bm) (val xs * val vs) (val us * val ys))) == 0 && (rl == 1 || (rl == 2 || rl == 3))) || (((cmpF (fracOk bl xs ys && fracOk bm us vs) (sumS bl (!bm) (val xs * val vs) (val us * val ys)) (sumN bl (!bm) (val xs * val vs) (val us * val ys))) == -1 && rl == 1) || ((cmpF (fracOk bl xs ys && fracOk bm us vs) (sumS bl (!bm) (val xs * val vs) (val us * val ys)) (sumN bl (!bm) (val xs * val vs) (val us * val ys))) == 1 && rl == 2)))) := rfl
  generalize cmpF (fracOk bl xs ys && fracOk bm us vs) (sumS bl (!bm) (val xs * val vs) (val us * val ys)) (sumN bl (!bm) (val xs * val vs) (val us * val ys)) = r at *
  generalize hR : (rl == 1 || (rl == 2 || rl == 3)) = q at *
  replace hR := hd hR
  generalize relH rl r = x at *
  go_enter Tryz.func5, Tryz.ntmps5
  go_wp2_with fail
  refine (C.out _ (by first | exact e0 | exact Below.refl _ _)).mono ?_
  rintro e w1 ⟨rfl, hb1⟩
  have hB1 : Below w.heap.size w w1 := by first | exact old_trans e0 hb1 | exact hb1
  clear hb1
  by_cases c0 : r = 0
  · subst c0
    go_wp2_with fail
    refine (RR.out _).mono ?_
    rintro e w2 ⟨rfl, rfl⟩
    cases q
    · go_wp2
      all_goals
        go_ret
        exact ⟨retB (by rw [hq.out]; rfl), hB1⟩
    · go_wp2
      go_ret
      exact ⟨retB (by rw [hq.out]; rfl), hB1⟩
  by_cases c1 : r = -1
  · subst c1
    by_cases r1 : rl = 1
    · subst r1
      go_wp2
      go_ret
      exact ⟨retB (by rw [hq.out]; rfl), hB1⟩
    go_wp2
    all_goals
      go_ret
      exact ⟨retB (by rw [hq.out]; simp), hB1⟩
  by_cases c2 : r = 1
  · subst c2
    by_cases r1 : rl = 2
    · subst r1
      go_wp2
      go_ret
      exact ⟨retB (by rw [hq.out]; rfl), hB1⟩
    go_wp2
    all_goals
      go_ret
      exact ⟨retB (by rw [hq.out]; simp), hB1⟩
  go_wp2
  all_goals
    go_ret
    exact ⟨retB (by rw [hq.out]; simp [c0, c1, c2]), hB1⟩
end Go.Proofs.YtmnjkhfpgjolbaaGreatDoor
