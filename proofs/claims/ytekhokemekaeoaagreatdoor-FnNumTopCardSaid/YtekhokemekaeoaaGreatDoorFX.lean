/- Differences of fractions: by the program and by the specification. Conditions, of the program: the library's table and its handle of errors hold what their texts lay. -/
import Derived.Test.YtekhokemekaeoaaGreatDoorFW
import Derived.Test.YtekhokemekaeoaaGreatDoorFN
namespace Go.Proofs.YtekhokemekaeoaaGreatDoor
open Go.RowKit
set_option linter.unusedVariables false
set_option maxRecDepth 100000

theorem Cel6.new (w : World) (v0 v1 v2 v3 v4 v5 : Value) (ty : TypeId) : Cel6 (w.alloc (.cells #[v0, v1, v2, v3, v4, v5] ty)) w.heap.size v0 v1 v2 v3 v4 v5 := by
  refine ⟨by simp, ?_, ?_, ?_, ?_, ?_, ?_⟩ <;> simp [go_sem]
theorem resSub1 {W : World} {b : Nat} {v0 v1 v2 : Value} {tmps : Array Value} (h : Cel3 W b v0 v1 v2) (ht : tmps[4]? = some (.pointer (some ⟨b, 0, none⟩))) : (results Tryz.f37 tmps).run Tryz.prog W = .ok (.agg #[v0, v1, v2]) W := by
  obtain ⟨h1, ⟨a0, a1, a2⟩, -⟩ := h
  simp [results, Tryz.results37, go_sem, a0, a1, a2, ht]
set_option maxHeartbeats 8000000 in
theorem iSub1 (bl : Bool) (a b : Option Addr) (la lb ca cb : Nat) (xs ys : List Int) (bm : Bool) (c d : Option Addr) (lc ld cc cd : Nat) (us vs : List Int) (w : World) (hA : InI w a la ca xs) (hB : InI w b lb cb ys) (hC : InI w c lc cc us) (hD : InI w d ld cd vs) (dx : digs xs) (dy : digs ys) (du : digs us) (dv : digs vs) (la1 : la ≤ 1024) (lb1 : lb ≤ 1024) (lc1 : lc ≤ 1024) (ld1 : ld ≤ 1024) (tx : topped xs) (ty : topped ys) (hbl : bl = true → val xs ≠ 0) :
    Calls Tryz.prog 37 #[.agg #[.bool bl, .slice a la ca, .slice b lb cb], .agg #[.bool bm, .slice c lc cc, .slice d ld cd]] w fun e w' => (∃ a1 c1 a2 c2, e = .returned (.agg #[.bool (sumS bl (!bm) (val xs * val vs) (val us * val ys)), .slice a1 (natL (sumN bl (!bm) (val xs * val vs) (val us * val ys))).length c1, .slice a2 (natL (val ys * val vs)).length c2]) ∧ OI w' w.heap.size a1 c1 (natL (sumN bl (!bm) (val xs * val vs) (val us * val ys))) ∧ OI w' w.heap.size a2 c2 (natL (val ys * val vs))) ∧ Below w.heap.size w w' := by
  have e0 : Below w.heap.size w (((w.alloc (.cells #[.bool bl, .slice a la ca, .slice b lb cb] 48)).alloc (.cells #[.bool bm, .slice c lc cc, .slice d ld cd] 48)).alloc (.cells #[.bool false, .slice none 0 0, .slice none 0 0] 48)) := (by repeat (first | exact Below.refl _ _ | refine Below.drew ?_ | refine old_alloc ?_ _ | refine old_trans ?_ (by assumption)))
  have K := Cel3.new ((w.alloc (.cells #[.bool bl, .slice a la ca, .slice b lb cb] 48)).alloc (.cells #[.bool bm, .slice c lc cc, .slice d ld cd] 48)) (.bool false) (.slice none 0 0) (.slice none 0 0) 48
  have K1 := ((Cel3.new w (.bool bl) (.slice a la ca) (.slice b lb cb) 48).old (old_alloc (Below.refl _ _) (.cells #[.bool bm, .slice c lc cc, .slice d ld cd] 48))).old (old_alloc (Below.refl _ _) (.cells #[.bool false, .slice none 0 0, .slice none 0 0] 48))
  have K2 := (Cel3.new (w.alloc (.cells #[.bool bl, .slice a la ca, .slice b lb cb] 48)) (.bool bm) (.slice c lc cc) (.slice d ld cd) 48).old (old_alloc (Below.refl _ _) (.cells #[.bool false, .slice none 0 0, .slice none 0 0] 48))
  simp only [World.size_alloc] at K K2
  have S := hd (fun w' p (h : Below w.heap.size w w') (hP : Cel6 w' p (.bool bl) (.slice a la ca) (.slice b lb cb) (.bool (!bm)) (.slice c lc cc) (.slice d ld cd)) => iSummed2 bl a b la lb ca cb xs ys (!bm) c d lc ld cc cd us vs w' p hP (hA.old h) (hB.old h) (hC.old h) (hD.old h) dx dy du dv la1 lb1 lc1 ld1 tx ty hbl)
  have NG := hd (fun w' => iNegated bm c d lc ld cc cd w')
  clear hA hB hC hD dx dy du dv la1 lb1 lc1 ld1 tx ty hbl
  generalize sumS bl (!bm) (val xs * val vs) (val us * val ys) = s2 at *
  generalize natL (sumN bl (!bm) (val xs * val vs) (val us * val ys)) = tl at *
  generalize natL (val ys * val vs) = ul at *
  generalize (!bm) = bn at *
  go_enter Tryz.func37, Tryz.ntmps37
  go_wp2_with fail
  generalize hW1 : ((w.alloc (.cells #[.bool bl, .slice a la ca, .slice b lb cb] 48)).alloc (.cells #[.bool bm, .slice c lc cc, .slice d ld cd] 48)).alloc (.cells #[.bool false, .slice none 0 0, .slice none 0 0] 48) = w1 at *
  clear hW1
  have hk : w1.cell? ⟨w.heap.size, 0, none⟩ = some (.bool bl) ∧ w1.cell? ⟨w.heap.size, 1, none⟩ = some (.slice a la ca) ∧ w1.cell? ⟨w.heap.size, 2, none⟩ = some (.slice b lb cb) ∧ w1.cell? ⟨w.heap.size + 1, 0, none⟩ = some (.bool bm) ∧ w1.cell? ⟨w.heap.size + 1, 1, none⟩ = some (.slice c lc cc) ∧ w1.cell? ⟨w.heap.size + 1, 2, none⟩ = some (.slice d ld cd) := ⟨K1.c0, K1.c1, K1.c2, K2.c0, K2.c1, K2.c2⟩
  obtain ⟨k0, k1, k2, k3, k4, k5⟩ := id hk
  have U1 := hd (fun w' (hS : w'.cell? ⟨w.heap.size, 0, none⟩ = some (.bool bl) ∧ w'.cell? ⟨w.heap.size, 1, none⟩ = some (.slice a la ca) ∧ w'.cell? ⟨w.heap.size, 2, none⟩ = some (.slice b lb cb) ∧ w'.cell? ⟨w.heap.size + 1, 0, none⟩ = some (.bool bm) ∧ w'.cell? ⟨w.heap.size + 1, 1, none⟩ = some (.slice c lc cc) ∧ w'.cell? ⟨w.heap.size + 1, 2, none⟩ = some (.slice d ld cd)) => (NG.out w').mono (fun e w'' (k : _ ∧ _) => (⟨k, six_old hS k.2⟩ : (_ ∧ _) ∧ (w''.cell? ⟨w.heap.size, 0, none⟩ = some (.bool bl) ∧ w''.cell? ⟨w.heap.size, 1, none⟩ = some (.slice a la ca) ∧ w''.cell? ⟨w.heap.size, 2, none⟩ = some (.slice b lb cb) ∧ w''.cell? ⟨w.heap.size + 1, 0, none⟩ = some (.bool bm) ∧ w''.cell? ⟨w.heap.size + 1, 1, none⟩ = some (.slice c lc cc) ∧ w''.cell? ⟨w.heap.size + 1, 2, none⟩ = some (.slice d ld cd)))))
  have U2 := hd (fun w' p (hS : w'.cell? ⟨w.heap.size, 0, none⟩ = some (.bool bl) ∧ w'.cell? ⟨w.heap.size, 1, none⟩ = some (.slice a la ca) ∧ w'.cell? ⟨w.heap.size, 2, none⟩ = some (.slice b lb cb) ∧ w'.cell? ⟨w.heap.size + 1, 0, none⟩ = some (.bool bm) ∧ w'.cell? ⟨w.heap.size + 1, 1, none⟩ = some (.slice c lc cc) ∧ w'.cell? ⟨w.heap.size + 1, 2, none⟩ = some (.slice d ld cd)) (h : Below w1.heap.size w1 w') hP => (S.out w' p (old_trans e0 h) hP).mono (fun e w'' (k : _ ∧ _) => (⟨k, six_old hS k.2⟩ : (_ ∧ _) ∧ (w''.cell? ⟨w.heap.size, 0, none⟩ = some (.bool bl) ∧ w''.cell? ⟨w.heap.size, 1, none⟩ = some (.slice a la ca) ∧ w''.cell? ⟨w.heap.size, 2, none⟩ = some (.slice b lb cb) ∧ w''.cell? ⟨w.heap.size + 1, 0, none⟩ = some (.bool bm) ∧ w''.cell? ⟨w.heap.size + 1, 1, none⟩ = some (.slice c lc cc) ∧ w''.cell? ⟨w.heap.size + 1, 2, none⟩ = some (.slice d ld cd)))))
  have ne1 : w.heap.size + 1 + 1 ≠ w.heap.size := by omega
  have ne2 : w.heap.size + 1 + 1 ≠ w.heap.size + 1 := by omega
  clear NG S K1 K2
  go_region_held3 (fun w' => w'.cell? ⟨w.heap.size, 0, none⟩ = some (.bool bl) ∧ w'.cell? ⟨w.heap.size, 1, none⟩ = some (.slice a la ca) ∧ w'.cell? ⟨w.heap.size, 2, none⟩ = some (.slice b lb cb) ∧ w'.cell? ⟨w.heap.size + 1, 0, none⟩ = some (.bool bm) ∧ w'.cell? ⟨w.heap.size + 1, 1, none⟩ = some (.slice c lc cc) ∧ w'.cell? ⟨w.heap.size + 1, 2, none⟩ = some (.slice d ld cd)) (go_keep) (first | (go_at_call 38; refine (U1.out _ (by assumption)).mono ?_; rintro e w4 ⟨⟨rfl, hb4⟩, hc4⟩) | (go_at_call 32; refine (U2.out _ _ (by assumption) (by repeat (first | exact Below.refl _ _ | assumption | refine Below.drew ?_ | refine old_alloc ?_ _ | refine old_trans ?_ (by assumption))) (Cel6.new _ _ _ _ _ _ _ _)).mono ?_; rintro e w5 ⟨⟨⟨a1, c1, a2, c2, rfl, hO, hO'⟩, hb5⟩, hc5⟩; have K5 := ((K.drew.old hb4).old (old_alloc (Below.refl _ _) _)).old hb5; have n2 := K5.c0; have n3 := K5.c1; have n4 := K5.c2; have n5 := K5.f0; have n6 := K5.f1; have n7 := K5.f2))
  all_goals
    have hs0 : w.heap.size + 1 + 1 < (w4.alloc (.cells #[.bool bl, .slice a la ca, .slice b lb cb, .bool bn, .slice c lc cc, .slice d ld cd] 48)).heap.size := by
      have h1 := K.1
      have h2 := hb4.size
      have h3 : w1.drew.heap.size = w1.heap.size := rfl
      rw [World.size_alloc]
      omega
    have hBF : Below w.heap.size w w5 := old_trans (old_alloc (old_trans e0.drew hb4) _) hb5
    have hs1 : w.heap.size ≤ (w4.alloc (.cells #[.bool bl, .slice a la ca, .slice b lb cb, .bool bn, .slice c lc cc, .slice d ld cd] 48)).heap.size := by omega
    have o1 := (oi_set3 (v0 := .bool s2) (v1 := .slice a1 tl.length c1) (v2 := .slice a2 ul.length c2) hO hs0).mono hs1
    have o2 := (oi_set3 (v0 := .bool s2) (v1 := .slice a1 tl.length c1) (v2 := .slice a2 ul.length c2) hO' hs0).mono hs1
    have hK := K5.setAll (.bool s2) (.slice a1 tl.length c1) (.slice a2 ul.length c2)
    clear hO hO' U1 U2
    go_wp2
    exact bodyPost_ret (resSub1 hK rfl) rfl ⟨⟨_, _, _, _, rfl, o1, o2⟩, below_set (below_set (below_set hBF (by omega) _) (by omega) _) (by omega) _⟩
theorem resFracSub {W : World} {b : Nat} {v0 v1 v2 r : Value} {tmps : Array Value} (h : Cel3 W b v0 v1 v2) (ht : tmps[4]? = some (.pointer (some ⟨b, 0, none⟩))) (h3 : tmps[5]? = some r) : (results Tryz.f13 tmps).run Tryz.prog W = .ok (.tuple #[.agg #[v0, v1, v2], r]) W := by
  obtain ⟨h1, ⟨a0, a1, a2⟩, -⟩ := h
  simp [results, Tryz.results13, go_sem, a0, a1, a2, ht, h3]
set_option maxHeartbeats 8000000 in
theorem iFracSub (bl : Bool) (a b : Option Addr) (la lb ca cb : Nat) (xs ys : List Int) (bm : Bool) (c d : Option Addr) (lc ld cc cd : Nat) (us vs : List Int) (w : World) (hA : InI w a la ca xs) (hB : InI w b lb cb ys) (hC : InI w c lc cc us) (hD : InI w d ld cd vs) (hT : Tab w) (hE : ET w) :
    Calls Tryz.prog 13 #[.agg #[.bool bl, .slice a la ca, .slice b lb cb], .agg #[.bool bm, .slice c lc cc, .slice d ld cd]] w fun e w' => FRes w' w.heap.size e (fracOk bl xs ys && (fracOk bm us vs && lowB (sumN bl (!bm) (val xs * val vs) (val us * val ys)) (val ys * val vs))) (sumS bl (!bm) (val xs * val vs) (val us * val ys)) (sumN bl (!bm) (val xs * val vs) (val us * val ys)) (val ys * val vs) ∧ Below w.heap.size w w' := by
  have e0 : Below w.heap.size w (((w.alloc (.cells #[.bool bl, .slice a la ca, .slice b lb cb] 25)).alloc (.cells #[.bool bm, .slice c lc cc, .slice d ld cd] 25)).alloc (.cells #[.bool false, .slice none 0 0, .slice none 0 0] 25)) := (by repeat (first | exact Below.refl _ _ | refine Below.drew ?_ | refine old_alloc ?_ _ | refine old_trans ?_ (by assumption)))
  have K2 := Cel3.new ((w.alloc (.cells #[.bool bl, .slice a la ca, .slice b lb cb] 25)).alloc (.cells #[.bool bm, .slice c lc cc, .slice d ld cd] 25)) (.bool false) (.slice none 0 0) (.slice none 0 0) 25
  simp only [World.size_alloc] at K2
  have O : Hid (Calls Tryz.prog 30 #[.agg #[.bool bl, .slice a la ca, .slice b lb cb], .agg #[.bool bm, .slice c lc cc, .slice d ld cd], .func (.func 37) #[] #[]] (((w.alloc (.cells #[.bool bl, .slice a la ca, .slice b lb cb] 25)).alloc (.cells #[.bool bm, .slice c lc cc, .slice d ld cd] 25)).alloc (.cells #[.bool false, .slice none 0 0, .slice none 0 0] 25)) fun e w' => FRes w' (((w.alloc (.cells #[.bool bl, .slice a la ca, .slice b lb cb] 25)).alloc (.cells #[.bool bm, .slice c lc cc, .slice d ld cd] 25)).alloc (.cells #[.bool false, .slice none 0 0, .slice none 0 0] 25)).heap.size e (fracOk bl xs ys && (fracOk bm us vs && lowB (sumN bl (!bm) (val xs * val vs) (val us * val ys)) (val ys * val vs))) (sumS bl (!bm) (val xs * val vs) (val us * val ys)) (sumN bl (!bm) (val xs * val vs) (val us * val ys)) (val ys * val vs) ∧ Below (((w.alloc (.cells #[.bool bl, .slice a la ca, .slice b lb cb] 25)).alloc (.cells #[.bool bm, .slice c lc cc, .slice d ld cd] 25)).alloc (.cells #[.bool false, .slice none 0 0, .slice none 0 0] 25)).heap.size (((w.alloc (.cells #[.bool bl, .slice a la ca, .slice b lb cb] 25)).alloc (.cells #[.bool bm, .slice c lc cc, .slice d ld cd] 25)).alloc (.cells #[.bool false, .slice none 0 0, .slice none 0 0] 25)) w') := by
    show Calls _ _ _ _ _
    cases hf : fracOk bl xs ys && fracOk bm us vs
    · have h := iOfTwo 37 bl a b la lb ca cb xs ys bm c d lc ld cc cd us vs _ (hA.old e0) (hB.old e0) (hC.old e0) (hD.old e0) (hT.old e0) (hE.old e0) (enters_of Tryz.func37 (by kernel_rfl) rfl) false 0 0 (by rw [natL_zero]; simp) (by rw [natL_zero]; simp) (fun h h' => by rw [h, h'] at hf; cases hf)
      have e1 : (fracOk bl xs ys && (fracOk bm us vs && lowB 0 0)) = false := by rw [← Bool.and_assoc, hf]; rfl
      have e2 : (fracOk bl xs ys && (fracOk bm us vs && lowB (sumN bl (!bm) (val xs * val vs) (val us * val ys)) (val ys * val vs))) = false := by rw [← Bool.and_assoc, hf]; rfl
      rw [e1] at h
      rw [e2]
      exact h.mono (fun e w' (k : _ ∧ _) => (⟨FRes.any k.1, k.2⟩ : _ ∧ _))
    · rw [Bool.and_eq_true] at hf
      have q := fracOk_in hf.1
      have r := fracOk_in hf.2
      have q1 := natOk_in q.1
      have q2 := natOk_in q.2.1
      have r1 := natOk_in r.1
      have r2 := natOk_in r.2.1
      have hbl : bl = true → val xs ≠ 0 := fun h e => q.2.2.2.2 ⟨h, by
        have := natOk_canon q.1
        rw [e, natL_zero] at this
        rw [← this]; rfl⟩
      have pA := hA.1
      have pB := hB.1
      have pC := hC.1
      have pD := hD.1
      exact iOfTwo 37 bl a b la lb ca cb xs ys bm c d lc ld cc cd us vs _ (hA.old e0) (hB.old e0) (hC.old e0) (hD.old e0) (hT.old e0) (hE.old e0) (enters_of Tryz.func37 (by kernel_rfl) rfl) (sumS bl (!bm) (val xs * val vs) (val us * val ys)) (sumN bl (!bm) (val xs * val vs) (val us * val ys)) (val ys * val vs) (Nat.le_trans (sumN_lenG (natOk_lt q.1) (natOk_lt r.2.1) (natOk_lt r.1) (natOk_lt q.2.1)) (by omega)) (Nat.le_trans (mul_len4 q.2.1 r.2.1) (by omega)) (fun _ _ W hW => iSub1 bl a b la lb ca cb xs ys bm c d lc ld cc cd us vs W ((hA.old e0).old hW) ((hB.old e0).old hW) ((hC.old e0).old hW) ((hD.old e0).old hW) q1.2.1 q2.2.1 r1.2.1 r2.2.1 (by omega) (by omega) (by omega) (by omega) q1.2.2 q2.2.2 hbl)
  clear hA hB hC hD hT hE
  generalize (fracOk bl xs ys && (fracOk bm us vs && lowB (sumN bl (!bm) (val xs * val vs) (val us * val ys)) (val ys * val vs))) = okk at *
  go_enter Tryz.func13, Tryz.ntmps13
  go_wp2_with fail
  refine O.out.mono ?_
  rintro e w1 ⟨⟨av, cv, av', cv', rfl, hO, hO', hS⟩, hb1⟩
  have hs0 := K2.1
  replace K2 := K2.old hb1
  have hB1 := old_trans e0 hb1
  obtain ⟨m1, ⟨m2, m3, m4⟩, m5, m6, m7⟩ := id K2
  have hfin := hd (FRes.put (w' := w1) (s := sumS bl (!bm) (val xs * val vs) (val us * val ys)) (base := w.heap.size) hO hO' hS e0.size hs0)
  have hK := K2.setAll (.bool (fS okk (sumS bl (!bm) (val xs * val vs) (val us * val ys)) (sumN bl (!bm) (val xs * val vs) (val us * val ys)))) (.slice av (fT okk (sumN bl (!bm) (val xs * val vs) (val us * val ys)) (val ys * val vs)).length cv) (.slice av' (fU okk (sumN bl (!bm) (val xs * val vs) (val us * val ys)) (val ys * val vs)).length cv')
  have hBF := below_set (below_set (below_set hB1 (show w.heap.size ≤ w.heap.size + 1 + 1 by omega) (i := 0) (.bool (fS okk (sumS bl (!bm) (val xs * val vs) (val us * val ys)) (sumN bl (!bm) (val xs * val vs) (val us * val ys))))) (show w.heap.size ≤ w.heap.size + 1 + 1 by omega) (i := 1) (.slice av (fT okk (sumN bl (!bm) (val xs * val vs) (val us * val ys)) (val ys * val vs)).length cv)) (show w.heap.size ≤ w.heap.size + 1 + 1 by omega) (i := 2) (.slice av' (fU okk (sumN bl (!bm) (val xs * val vs) (val us * val ys)) (val ys * val vs)).length cv')
  clear hO hO' hS hb1 O e0 hs0
  generalize hsg : fS okk (sumS bl (!bm) (val xs * val vs) (val us * val ys)) (sumN bl (!bm) (val xs * val vs) (val us * val ys)) = sg at *
  go_wp2
  exact bodyPost_ret (resFracSub hK rfl rfl) rfl ⟨hfin.out, hBF⟩
theorem sum_neg (bl bm : Bool) (x u y : Nat) : sumN bl (!bm && decide (u ≠ 0)) x (u * y) = sumN bl (!bm) x (u * y) ∧ sumS bl (!bm && decide (u ≠ 0)) x (u * y) = sumS bl (!bm) x (u * y) := by
  by_cases h : u = 0
  · subst h
    rw [Nat.zero_mul]
    have h1 : ∀ k, sumN bl k x 0 = x := by
      intro k
      unfold sumN
      rw [if_neg (Nat.not_lt_zero x)]
      split <;> simp
    have h2 : ∀ k, sumS bl k x 0 = bl := by
      intro k
      unfold sumS
      rw [if_neg (Nat.not_lt_zero x)]
      split <;> simp
    exact ⟨(h1 _).trans (h1 _).symm, (h2 _).trans (h2 _).symm⟩
  · rw [decide_eq_true h, Bool.and_true]
    exact ⟨rfl, rfl⟩
theorem fracOk_neg {bm : Bool} {us vs : List Int} (h : fracOk bm us vs = true) : fracOk (!bm && decide (val us ≠ 0)) us vs = true := by
  have q := fracOk_in h
  refine fracOk_mk q.1 q.2.1 q.2.2.1 q.2.2.2.1 ?_
  rintro ⟨h1, h2⟩
  rw [Bool.and_eq_true, decide_eq_true_eq] at h1
  exact h1.2 (by rw [List.length_eq_zero_iff.1 h2]; rfl)
end Go.Proofs.YtekhokemekaeoaaGreatDoor
