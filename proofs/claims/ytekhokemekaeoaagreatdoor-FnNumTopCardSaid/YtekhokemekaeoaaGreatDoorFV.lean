/- Sums of fractions: by the program and by the specification. Conditions, of the program: the library's table and its handle of errors hold what their texts lay. -/
import Derived.Test.YtekhokemekaeoaaGreatDoorFU
namespace Go.Proofs.YtekhokemekaeoaaGreatDoor
open Go.RowKit
set_option linter.unusedVariables false
set_option maxRecDepth 100000

theorem add_lenG {a b n : Nat} (h1 : a < 65536 ^ n) (h2 : b < 65536 ^ n) : (natL (a + b)).length ≤ n + 1 := by
  refine natL_len.2 ?_
  rw [Nat.pow_succ]
  omega
theorem sumN_le (bl bm : Bool) (x y : Nat) : sumN bl bm x y ≤ x + y := by
  unfold sumN
  split
  · omega
  · split <;> omega
theorem sumN_len {bl bm : Bool} {x y n : Nat} (h1 : x < 65536 ^ n) (h2 : y < 65536 ^ n) : (natL (sumN bl bm x y)).length ≤ n + 1 := Nat.le_trans (natL_le (sumN_le bl bm x y)) (add_lenG h1 h2)
theorem mul_ltG {a b n m : Nat} (h1 : a < 65536 ^ n) (h2 : b < 65536 ^ m) : a * b < 65536 ^ (n + m) := by
  rw [Nat.pow_add]
  exact Nat.mul_lt_mul'' h1 h2
theorem sumN_lenG {bl bm : Bool} {a b c d n : Nat} (h1 : a < 65536 ^ n) (h2 : b < 65536 ^ n) (h3 : c < 65536 ^ n) (h4 : d < 65536 ^ n) : (natL (sumN bl bm (a * b) (c * d))).length ≤ n + n + 1 := sumN_len (mul_ltG h1 h2) (mul_ltG h3 h4)
theorem resAdd1 {W : World} {b : Nat} {v0 v1 v2 : Value} {tmps : Array Value} (h : Cel3 W b v0 v1 v2) (ht : tmps[4]? = some (.pointer (some ⟨b, 0, none⟩))) : (results Tryz.f31 tmps).run Tryz.prog W = .ok (.agg #[v0, v1, v2]) W := by
  obtain ⟨h1, ⟨a0, a1, a2⟩, -⟩ := h
  simp [results, Tryz.results31, go_sem, a0, a1, a2, ht]
set_option maxHeartbeats 8000000 in
theorem iAdd1 (bl : Bool) (a b : Option Addr) (la lb ca cb : Nat) (xs ys : List Int) (bm : Bool) (c d : Option Addr) (lc ld cc cd : Nat) (us vs : List Int) (w : World) (hA : InI w a la ca xs) (hB : InI w b lb cb ys) (hC : InI w c lc cc us) (hD : InI w d ld cd vs) (dx : digs xs) (dy : digs ys) (du : digs us) (dv : digs vs) (la1 : la ≤ 1024) (lb1 : lb ≤ 1024) (lc1 : lc ≤ 1024) (ld1 : ld ≤ 1024) (tx : topped xs) (ty : topped ys) (hbl : bl = true → val xs ≠ 0) :
    Calls Tryz.prog 31 #[.agg #[.bool bl, .slice a la ca, .slice b lb cb], .agg #[.bool bm, .slice c lc cc, .slice d ld cd]] w fun e w' => (∃ a1 c1 a2 c2, e = .returned (.agg #[.bool (sumS bl bm (val xs * val vs) (val us * val ys)), .slice a1 (natL (sumN bl bm (val xs * val vs) (val us * val ys))).length c1, .slice a2 (natL (val ys * val vs)).length c2]) ∧ OI w' w.heap.size a1 c1 (natL (sumN bl bm (val xs * val vs) (val us * val ys))) ∧ OI w' w.heap.size a2 c2 (natL (val ys * val vs))) ∧ Below w.heap.size w w' := by
  have e0 : Below w.heap.size w ((((w.alloc (.cells #[.bool bl, .slice a la ca, .slice b lb cb] 48)).alloc (.cells #[.bool bm, .slice c lc cc, .slice d ld cd] 48)).alloc (.cells #[.bool false, .slice none 0 0, .slice none 0 0] 48)).alloc (.cells #[.bool bl, .slice a la ca, .slice b lb cb, .bool bm, .slice c lc cc, .slice d ld cd] 48)) := (by repeat (first | exact Below.refl _ _ | refine Below.drew ?_ | refine old_alloc ?_ _ | refine old_trans ?_ (by assumption)))
  have K := (Cel3.new ((w.alloc (.cells #[.bool bl, .slice a la ca, .slice b lb cb] 48)).alloc (.cells #[.bool bm, .slice c lc cc, .slice d ld cd] 48)) (.bool false) (.slice none 0 0) (.slice none 0 0) 48).old (old_alloc (Below.refl _ _) (.cells #[.bool bl, .slice a la ca, .slice b lb cb, .bool bm, .slice c lc cc, .slice d ld cd] 48))
  simp only [World.size_alloc] at K
  have hP : Cel6 ((((w.alloc (.cells #[.bool bl, .slice a la ca, .slice b lb cb] 48)).alloc (.cells #[.bool bm, .slice c lc cc, .slice d ld cd] 48)).alloc (.cells #[.bool false, .slice none 0 0, .slice none 0 0] 48)).alloc (.cells #[.bool bl, .slice a la ca, .slice b lb cb, .bool bm, .slice c lc cc, .slice d ld cd] 48)) (w.heap.size + 1 + 1 + 1) (.bool bl) (.slice a la ca) (.slice b lb cb) (.bool bm) (.slice c lc cc) (.slice d ld cd) := by
    refine ⟨by simp, ?_, ?_, ?_, ?_, ?_, ?_⟩ <;> simp [go_sem]
  have S := hd (iSummed2 bl a b la lb ca cb xs ys bm c d lc ld cc cd us vs _ _ hP (hA.old e0) (hB.old e0) (hC.old e0) (hD.old e0) dx dy du dv la1 lb1 lc1 ld1 tx ty hbl)
  clear hA hB hC hD dx dy du dv la1 lb1 lc1 ld1 tx ty hbl hP
  generalize sumS bl bm (val xs * val vs) (val us * val ys) = s2 at *
  generalize natL (sumN bl bm (val xs * val vs) (val us * val ys)) = tl at *
  generalize natL (val ys * val vs) = ul at *
  go_enter Tryz.func31, Tryz.ntmps31
  go_wp2_with fail
  refine S.out.mono ?_
  rintro e w1 ⟨⟨a1, c1, a2, c2, rfl, hO, hO'⟩, hb1⟩
  have hs0 := K.1
  replace K := K.old hb1
  have hB1 := old_trans e0 hb1
  obtain ⟨m1, ⟨m2, m3, m4⟩, m5, m6, m7⟩ := id K
  have o1 := (oi_set3 (v0 := .bool s2) (v1 := .slice a1 tl.length c1) (v2 := .slice a2 ul.length c2) hO hs0).mono e0.size
  have o2 := (oi_set3 (v0 := .bool s2) (v1 := .slice a1 tl.length c1) (v2 := .slice a2 ul.length c2) hO' hs0).mono e0.size
  have hK := K.setAll (.bool s2) (.slice a1 tl.length c1) (.slice a2 ul.length c2)
  clear hO hO' S hb1
  go_wp2
  exact bodyPost_ret (resAdd1 hK rfl) rfl ⟨⟨_, _, _, _, rfl, o1, o2⟩, below_set (below_set (below_set hB1 (by omega) _) (by omega) _) (by omega) _⟩
theorem resFracAdd {W : World} {b : Nat} {v0 v1 v2 r : Value} {tmps : Array Value} (h : Cel3 W b v0 v1 v2) (ht : tmps[4]? = some (.pointer (some ⟨b, 0, none⟩))) (h3 : tmps[5]? = some r) : (results Tryz.f8 tmps).run Tryz.prog W = .ok (.tuple #[.agg #[v0, v1, v2], r]) W := by
  obtain ⟨h1, ⟨a0, a1, a2⟩, -⟩ := h
  simp [results, Tryz.results8, go_sem, a0, a1, a2, ht, h3]
set_option maxHeartbeats 8000000 in
theorem iFracAdd (bl : Bool) (a b : Option Addr) (la lb ca cb : Nat) (xs ys : List Int) (bm : Bool) (c d : Option Addr) (lc ld cc cd : Nat) (us vs : List Int) (w : World) (hA : InI w a la ca xs) (hB : InI w b lb cb ys) (hC : InI w c lc cc us) (hD : InI w d ld cd vs) (hT : Tab w) (hE : ET w) :
    Calls Tryz.prog 8 #[.agg #[.bool bl, .slice a la ca, .slice b lb cb], .agg #[.bool bm, .slice c lc cc, .slice d ld cd]] w fun e w' => FRes w' w.heap.size e (fracOk bl xs ys && (fracOk bm us vs && lowB (sumN bl bm (val xs * val vs) (val us * val ys)) (val ys * val vs))) (sumS bl bm (val xs * val vs) (val us * val ys)) (sumN bl bm (val xs * val vs) (val us * val ys)) (val ys * val vs) ∧ Below w.heap.size w w' := by
  have e0 : Below w.heap.size w (((w.alloc (.cells #[.bool bl, .slice a la ca, .slice b lb cb] 25)).alloc (.cells #[.bool bm, .slice c lc cc, .slice d ld cd] 25)).alloc (.cells #[.bool false, .slice none 0 0, .slice none 0 0] 25)) := (by repeat (first | exact Below.refl _ _ | refine Below.drew ?_ | refine old_alloc ?_ _ | refine old_trans ?_ (by assumption)))
  have K2 := Cel3.new ((w.alloc (.cells #[.bool bl, .slice a la ca, .slice b lb cb] 25)).alloc (.cells #[.bool bm, .slice c lc cc, .slice d ld cd] 25)) (.bool false) (.slice none 0 0) (.slice none 0 0) 25
  simp only [World.size_alloc] at K2
  have O : Hid (Calls Tryz.prog 30 #[.agg #[.bool bl, .slice a la ca, .slice b lb cb], .agg #[.bool bm, .slice c lc cc, .slice d ld cd], .func (.func 31) #[] #[]] (((w.alloc (.cells #[.bool bl, .slice a la ca, .slice b lb cb] 25)).alloc (.cells #[.bool bm, .slice c lc cc, .slice d ld cd] 25)).alloc (.cells #[.bool false, .slice none 0 0, .slice none 0 0] 25)) fun e w' => FRes w' (((w.alloc (.cells #[.bool bl, .slice a la ca, .slice b lb cb] 25)).alloc (.cells #[.bool bm, .slice c lc cc, .slice d ld cd] 25)).alloc (.cells #[.bool false, .slice none 0 0, .slice none 0 0] 25)).heap.size e (fracOk bl xs ys && (fracOk bm us vs && lowB (sumN bl bm (val xs * val vs) (val us * val ys)) (val ys * val vs))) (sumS bl bm (val xs * val vs) (val us * val ys)) (sumN bl bm (val xs * val vs) (val us * val ys)) (val ys * val vs) ∧ Below (((w.alloc (.cells #[.bool bl, .slice a la ca, .slice b lb cb] 25)).alloc (.cells #[.bool bm, .slice c lc cc, .slice d ld cd] 25)).alloc (.cells #[.bool false, .slice none 0 0, .slice none 0 0] 25)).heap.size (((w.alloc (.cells #[.bool bl, .slice a la ca, .slice b lb cb] 25)).alloc (.cells #[.bool bm, .slice c lc cc, .slice d ld cd] 25)).alloc (.cells #[.bool false, .slice none 0 0, .slice none 0 0] 25)) w') := by
    show Calls _ _ _ _ _
    cases hf : fracOk bl xs ys && fracOk bm us vs
    · have h := iOfTwo 31 bl a b la lb ca cb xs ys bm c d lc ld cc cd us vs _ (hA.old e0) (hB.old e0) (hC.old e0) (hD.old e0) (hT.old e0) (hE.old e0) (enters_of Tryz.func31 (by kernel_rfl) rfl) false 0 0 (by rw [natL_zero]; simp) (by rw [natL_zero]; simp) (fun h h' => by rw [h, h'] at hf; cases hf)
      have e1 : (fracOk bl xs ys && (fracOk bm us vs && lowB 0 0)) = false := by rw [← Bool.and_assoc, hf]; rfl
      have e2 : (fracOk bl xs ys && (fracOk bm us vs && lowB (sumN bl bm (val xs * val vs) (val us * val ys)) (val ys * val vs))) = false := by rw [← Bool.and_assoc, hf]; rfl
      rw [e1] at h
      rw [e2]
      exact h.mono (fun e w' (k : _ ∧ _) => (⟨FRes.any k.1, k.2⟩ : _ ∧ _))
    · rw [Bool.and_eq_true] at hf
      have q := fracOk_in hf.1
      have r := fracOk_in hf.2
      have q1 := natOk_in q.1
      have q2 := natOk_in q.2.1
      have r1 := natOk_in r.1
      have r2 := natOk_in r.2.1
      have hbl : bl = true → val xs ≠ 0 := fun h e => q.2.2.2.2 ⟨h, by
        have := natOk_canon q.1
        rw [e, natL_zero] at this
        rw [← this]; rfl⟩
      have pA := hA.1
      have pB := hB.1
      have pC := hC.1
      have pD := hD.1
      exact iOfTwo 31 bl a b la lb ca cb xs ys bm c d lc ld cc cd us vs _ (hA.old e0) (hB.old e0) (hC.old e0) (hD.old e0) (hT.old e0) (hE.old e0) (enters_of Tryz.func31 (by kernel_rfl) rfl) (sumS bl bm (val xs * val vs) (val us * val ys)) (sumN bl bm (val xs * val vs) (val us * val ys)) (val ys * val vs) (Nat.le_trans (sumN_lenG (natOk_lt q.1) (natOk_lt r.2.1) (natOk_lt r.1) (natOk_lt q.2.1)) (by omega)) (Nat.le_trans (mul_len4 q.2.1 r.2.1) (by omega)) (fun _ _ W hW => iAdd1 bl a b la lb ca cb xs ys bm c d lc ld cc cd us vs W ((hA.old e0).old hW) ((hB.old e0).old hW) ((hC.old e0).old hW) ((hD.old e0).old hW) q1.2.1 q2.2.1 r1.2.1 r2.2.1 (by omega) (by omega) (by omega) (by omega) q1.2.2 q2.2.2 hbl)
  clear hA hB hC hD hT hE
  generalize (fracOk bl xs ys && (fracOk bm us vs && lowB (sumN bl bm (val xs * val vs) (val us * val ys)) (val ys * val vs))) = okk at *
  go_enter Tryz.func8, Tryz.ntmps8
  go_wp2_with fail
  refine O.out.mono ?_
  rintro e w1 ⟨⟨av, cv, av', cv', rfl, hO, hO', hS⟩, hb1⟩
  have hs0 := K2.1
  replace K2 := K2.old hb1
  have hB1 := old_trans e0 hb1
  obtain ⟨m1, ⟨m2, m3, m4⟩, m5, m6, m7⟩ := id K2
  have hfin := hd (FRes.put (w' := w1) (s := sumS bl bm (val xs * val vs) (val us * val ys)) (base := w.heap.size) hO hO' hS e0.size hs0)
  have hK := K2.setAll (.bool (fS okk (sumS bl bm (val xs * val vs) (val us * val ys)) (sumN bl bm (val xs * val vs) (val us * val ys)))) (.slice av (fT okk (sumN bl bm (val xs * val vs) (val us * val ys)) (val ys * val vs)).length cv) (.slice av' (fU okk (sumN bl bm (val xs * val vs) (val us * val ys)) (val ys * val vs)).length cv')
  have hBF := below_set (below_set (below_set hB1 (show w.heap.size ≤ w.heap.size + 1 + 1 by omega) (i := 0) (.bool (fS okk (sumS bl bm (val xs * val vs) (val us * val ys)) (sumN bl bm (val xs * val vs) (val us * val ys))))) (show w.heap.size ≤ w.heap.size + 1 + 1 by omega) (i := 1) (.slice av (fT okk (sumN bl bm (val xs * val vs) (val us * val ys)) (val ys * val vs)).length cv)) (show w.heap.size ≤ w.heap.size + 1 + 1 by omega) (i := 2) (.slice av' (fU okk (sumN bl bm (val xs * val vs) (val us * val ys)) (val ys * val vs)).length cv')
  clear hO hO' hS hb1 O e0 hs0
  generalize hsg : fS okk (sumS bl bm (val xs * val vs) (val us * val ys)) (sumN bl bm (val xs * val vs) (val us * val ys)) = sg at *
  go_wp2
  exact bodyPost_ret (resFracAdd hK rfl rfl) rfl ⟨hfin.out, hBF⟩
theorem sAddN (a b : Option Addr) (ca cb X Y : Nat) (w : World) (hA : InI w a (natL X).length ca (natL X)) (hB : InI w b (natL Y).length cb (natL Y)) (h1 : (natL X).length ≤ 2048) (h2 : (natL Y).length ≤ 2048) :
    Calls Tryz.prog 63 #[.slice a (natL X).length ca, .slice b (natL Y).length cb] w fun e w' => (∃ av cv, e = .returned (.slice av (natL (X + Y)).length cv) ∧ OI w' w.heap.size av cv (natL (X + Y))) ∧ Below w.heap.size w w' := by
  have := sAdd a b _ _ ca cb _ _ w hA hB (digs_natL X) (digs_natL Y) (topped_natL X) (topped_natL Y) (by omega) (by omega)
  rw [val_natL, val_natL] at this
  exact this
theorem sSubN (a b : Option Addr) (ca cb X Y : Nat) (w : World) (hA : InI w a (natL X).length ca (natL X)) (hB : InI w b (natL Y).length cb (natL Y)) (h1 : (natL X).length ≤ 2048) (hle : Y ≤ X) :
    Calls Tryz.prog 65 #[.slice a (natL X).length ca, .slice b (natL Y).length cb] w fun e w' => (∃ av cv, e = .returned (.slice av (natL (X - Y)).length cv) ∧ OI w' w.heap.size av cv (natL (X - Y))) ∧ Below w.heap.size w w' := by
  have := sSub a b _ _ ca cb _ _ w hA hB (digs_natL X) (digs_natL Y) (by omega) (natL_le hle) (by rw [val_natL, val_natL]; exact hle)
  rw [val_natL, val_natL] at this
  exact this
theorem sCmpN (a b : Option Addr) (ca cb X Y : Nat) (w : World) (hA : InI w a (natL X).length ca (natL X)) (hB : InI w b (natL Y).length cb (natL Y)) :
    Calls Tryz.prog 64 #[.slice a (natL X).length ca, .slice b (natL Y).length cb] w fun e w' => e = .returned (.int .i64 (cmpI X Y)) ∧ Below w.heap.size w w' := by
  have := sCmp a b _ _ ca cb _ _ w hA hB (digs_natL X) (digs_natL Y) (topped_natL X) (topped_natL Y)
  rw [val_natL, val_natL] at this
  exact this
set_option maxHeartbeats 16000000 in
theorem sSumSame (bl : Bool) (a b : Option Addr) (la lb ca cb : Nat) (xs ys : List Int) (c d : Option Addr) (lc ld cc cd : Nat) (us vs : List Int) (w : World) (hA : InI w a la ca xs) (hB : InI w b lb cb ys) (hC : InI w c lc cc us) (hD : InI w d ld cd vs) (dx : digs xs) (dy : digs ys) (du : digs us) (dv : digs vs) (la1 : la ≤ 1024) (lb1 : lb ≤ 1024) (lc1 : lc ≤ 1024) (ld1 : ld ≤ 1024) (X Y bt : Nat) (hX : X = val xs * val vs) (hY : Y = val us * val ys) (hbt : bt = val ys * val vs) :
    Calls Tryz.prog 33 #[.agg #[.bool bl, .slice a la ca, .slice b lb cb], .agg #[.bool bl, .slice c lc cc, .slice d ld cd]] w fun e w' => (∃ a1 c1 a2 c2, e = .returned (.tuple #[.bool bl, .slice a1 (natL (X + Y)).length c1, .slice a2 (natL bt).length c2]) ∧ OI w' w.heap.size a1 c1 (natL (X + Y)) ∧ OI w' w.heap.size a2 c2 (natL bt)) ∧ Below w.heap.size w w' := by
  have e0 : Below w.heap.size w ((w.alloc (.cells #[.bool bl, .slice a la ca, .slice b lb cb] 25)).alloc (.cells #[.bool bl, .slice c lc cc, .slice d ld cd] 25)) := (by repeat (first | exact Below.refl _ _ | refine Below.drew ?_ | refine old_alloc ?_ _ | refine old_trans ?_ (by assumption)))
  have K1 := (Cel3.new w (.bool bl) (.slice a la ca) (.slice b lb cb) 25).old (old_alloc (Below.refl _ _) (.cells #[.bool bl, .slice c lc cc, .slice d ld cd] 25))
  have K2 := Cel3.new (w.alloc (.cells #[.bool bl, .slice a la ca, .slice b lb cb] 25)) (.bool bl) (.slice c lc cc) (.slice d ld cd) 25
  simp only [World.size_alloc] at K2
  have T1 := hd (fun w' (h : Below w.heap.size w w') => sMul a d la ld ca cd xs vs w' (hA.old h) (hD.old h) dx dv (by omega) (by omega))
  have T2 := hd (fun w' (h : Below w.heap.size w w') => sMul c b lc lb cc cb us ys w' (hC.old h) (hB.old h) du dy (by omega) (by omega))
  have T3 := hd (fun w' (h : Below w.heap.size w w') => sMul b d lb ld cb cd ys vs w' (hB.old h) (hD.old h) dy dv (by omega) (by omega))
  rw [← hX] at T1
  rw [← hY] at T2
  rw [← hbt] at T3
  have lX : (natL X).length ≤ 2048 := by
    rw [hX]
    have h1 := val_lt dx
    have h2 := val_lt dv
    rw [hA.1] at h1
    rw [hD.1] at h2
    have := mul_lenG h1 h2
    omega
  have lY : (natL Y).length ≤ 2048 := by
    rw [hY]
    have h1 := val_lt du
    have h2 := val_lt dy
    rw [hC.1] at h1
    rw [hB.1] at h2
    have := mul_lenG h1 h2
    omega
  clear hA hB hC hD dx dy du dv la1 lb1 lc1 ld1 hX hY hbt
  go_enter Tryz.func33, Tryz.ntmps33
  go_wp2_with fail
  refine (T1.out _ e0).mono ?_
  rintro e w1 ⟨⟨avL, cvL, rfl, hL⟩, hb1⟩
  have hB1 := old_trans e0 hb1
  replace K1 := K1.old hb1
  replace K2 := K2.old hb1
  clear hb1
  obtain ⟨k1, ⟨k2, k3, k4⟩, -⟩ := id K1
  obtain ⟨j1, ⟨j2, j3, j4⟩, -⟩ := id K2
  go_wp2_with fail
  refine (T2.out _ hB1).mono ?_
  rintro e w2 ⟨⟨avR, cvR, rfl, hR⟩, hb2⟩
  have hB2 := old_trans hB1 hb2
  replace K1 := K1.old hb2
  replace K2 := K2.old hb2
  replace hL := hL.later hb2
  clear hb2 k1 k2 k3 k4 j1 j2 j3 j4
  obtain ⟨k1, ⟨k2, k3, k4⟩, -⟩ := id K1
  obtain ⟨j1, ⟨j2, j3, j4⟩, -⟩ := id K2
  go_wp2_with fail
  refine (T3.out _ hB2).mono ?_
  rintro e w3 ⟨⟨avB, cvB, rfl, hBt⟩, hb3⟩
  have hB3 := old_trans hB2 hb3
  replace K1 := K1.old hb3
  replace K2 := K2.old hb3
  replace hL := hL.later hb3
  replace hR := hR.later hb3
  have hBt' := hBt.mono hB2.size
  clear hb3 k1 k2 k3 k4 j1 j2 j3 j4 T1 T2 T3 hBt
  have hk : w3.cell? ⟨w.heap.size, 0, none⟩ = some (.bool bl) ∧ w3.cell? ⟨w.heap.size, 1, none⟩ = some (.slice a la ca) ∧ w3.cell? ⟨w.heap.size, 2, none⟩ = some (.slice b lb cb) ∧ w3.cell? ⟨w.heap.size + 1, 0, none⟩ = some (.bool bl) ∧ w3.cell? ⟨w.heap.size + 1, 1, none⟩ = some (.slice c lc cc) ∧ w3.cell? ⟨w.heap.size + 1, 2, none⟩ = some (.slice d ld cd) := ⟨K1.c0, K1.c1, K1.c2, K2.c0, K2.c1, K2.c2⟩
  obtain ⟨k0, k1, k2, k3, k4, k5⟩ := id hk
  have U4 := hd (fun w' (hS : w'.cell? ⟨w.heap.size, 0, none⟩ = some (.bool bl) ∧ w'.cell? ⟨w.heap.size, 1, none⟩ = some (.slice a la ca) ∧ w'.cell? ⟨w.heap.size, 2, none⟩ = some (.slice b lb cb) ∧ w'.cell? ⟨w.heap.size + 1, 0, none⟩ = some (.bool bl) ∧ w'.cell? ⟨w.heap.size + 1, 1, none⟩ = some (.slice c lc cc) ∧ w'.cell? ⟨w.heap.size + 1, 2, none⟩ = some (.slice d ld cd)) (h : Below w3.heap.size w3 w') => (sAddN avL avR cvL cvR X Y w' (hL.later h).inI (hR.later h).inI lX lY).mono (fun e w'' (k : _ ∧ _) => (⟨k, six_old hS k.2⟩ : (_ ∧ _) ∧ (w''.cell? ⟨w.heap.size, 0, none⟩ = some (.bool bl) ∧ w''.cell? ⟨w.heap.size, 1, none⟩ = some (.slice a la ca) ∧ w''.cell? ⟨w.heap.size, 2, none⟩ = some (.slice b lb cb) ∧ w''.cell? ⟨w.heap.size + 1, 0, none⟩ = some (.bool bl) ∧ w''.cell? ⟨w.heap.size + 1, 1, none⟩ = some (.slice c lc cc) ∧ w''.cell? ⟨w.heap.size + 1, 2, none⟩ = some (.slice d ld cd)))))
  go_wp2_with fail
  go_region_held3 (fun w' => w'.cell? ⟨w.heap.size, 0, none⟩ = some (.bool bl) ∧ w'.cell? ⟨w.heap.size, 1, none⟩ = some (.slice a la ca) ∧ w'.cell? ⟨w.heap.size, 2, none⟩ = some (.slice b lb cb) ∧ w'.cell? ⟨w.heap.size + 1, 0, none⟩ = some (.bool bl) ∧ w'.cell? ⟨w.heap.size + 1, 1, none⟩ = some (.slice c lc cc) ∧ w'.cell? ⟨w.heap.size + 1, 2, none⟩ = some (.slice d ld cd)) (go_keep) (first | (go_at_call 63; refine (U4.out _ (by assumption) (by repeat (first | exact Below.refl _ _ | refine Below.drew ?_ | refine old_trans ?_ (by assumption)))).mono ?_; rintro e w8 ⟨⟨⟨avP, cvP, rfl, hP⟩, hb8⟩, hc8⟩))
  all_goals
    have o1 := hP.mono (show w.heap.size ≤ _ from hB3.size)
    have o2 := hBt'.drew.later hb8
    have hBF : Below w.heap.size w w8 := old_trans hB3.drew hb8
    clear hP hL hR U4
    go_wp2
    go_ret3
    exact ⟨⟨_, _, _, _, rfl, o1, o2⟩, hBF⟩
set_option maxHeartbeats 16000000 in
theorem sSumLess (bl : Bool) (a b : Option Addr) (la lb ca cb : Nat) (xs ys : List Int) (c d : Option Addr) (lc ld cc cd : Nat) (us vs : List Int) (w : World) (hA : InI w a la ca xs) (hB : InI w b lb cb ys) (hC : InI w c lc cc us) (hD : InI w d ld cd vs) (dx : digs xs) (dy : digs ys) (du : digs us) (dv : digs vs) (la1 : la ≤ 1024) (lb1 : lb ≤ 1024) (lc1 : lc ≤ 1024) (ld1 : ld ≤ 1024) (X Y bt : Nat) (hX : X = val xs * val vs) (hY : Y = val us * val ys) (hbt : bt = val ys * val vs) (hlt : X < Y) :
    Calls Tryz.prog 33 #[.agg #[.bool bl, .slice a la ca, .slice b lb cb], .agg #[.bool (!bl), .slice c lc cc, .slice d ld cd]] w fun e w' => (∃ a1 c1 a2 c2, e = .returned (.tuple #[.bool (!bl), .slice a1 (natL (Y - X)).length c1, .slice a2 (natL bt).length c2]) ∧ OI w' w.heap.size a1 c1 (natL (Y - X)) ∧ OI w' w.heap.size a2 c2 (natL bt)) ∧ Below w.heap.size w w' := by
  have e0 : Below w.heap.size w ((w.alloc (.cells #[.bool bl, .slice a la ca, .slice b lb cb] 25)).alloc (.cells #[.bool (!bl), .slice c lc cc, .slice d ld cd] 25)) := (by repeat (first | exact Below.refl _ _ | refine Below.drew ?_ | refine old_alloc ?_ _ | refine old_trans ?_ (by assumption)))
  have K1 := (Cel3.new w (.bool bl) (.slice a la ca) (.slice b lb cb) 25).old (old_alloc (Below.refl _ _) (.cells #[.bool (!bl), .slice c lc cc, .slice d ld cd] 25))
  have K2 := Cel3.new (w.alloc (.cells #[.bool bl, .slice a la ca, .slice b lb cb] 25)) (.bool (!bl)) (.slice c lc cc) (.slice d ld cd) 25
  simp only [World.size_alloc] at K2
  have T1 := hd (fun w' (h : Below w.heap.size w w') => sMul a d la ld ca cd xs vs w' (hA.old h) (hD.old h) dx dv (by omega) (by omega))
  have T2 := hd (fun w' (h : Below w.heap.size w w') => sMul c b lc lb cc cb us ys w' (hC.old h) (hB.old h) du dy (by omega) (by omega))
  have T3 := hd (fun w' (h : Below w.heap.size w w') => sMul b d lb ld cb cd ys vs w' (hB.old h) (hD.old h) dy dv (by omega) (by omega))
  rw [← hX] at T1
  rw [← hY] at T2
  rw [← hbt] at T3
  have lX : (natL X).length ≤ 2048 := by
    rw [hX]
    have h1 := val_lt dx
    have h2 := val_lt dv
    rw [hA.1] at h1
    rw [hD.1] at h2
    have := mul_lenG h1 h2
    omega
  have lY : (natL Y).length ≤ 2048 := by
    rw [hY]
    have h1 := val_lt du
    have h2 := val_lt dy
    rw [hC.1] at h1
    rw [hB.1] at h2
    have := mul_lenG h1 h2
    omega
  clear hA hB hC hD dx dy du dv la1 lb1 lc1 ld1 hX hY hbt
  go_enter Tryz.func33, Tryz.ntmps33
  go_wp2_with fail
  refine (T1.out _ e0).mono ?_
  rintro e w1 ⟨⟨avL, cvL, rfl, hL⟩, hb1⟩
  have hB1 := old_trans e0 hb1
  replace K1 := K1.old hb1
  replace K2 := K2.old hb1
  clear hb1
  obtain ⟨k1, ⟨k2, k3, k4⟩, -⟩ := id K1
  obtain ⟨j1, ⟨j2, j3, j4⟩, -⟩ := id K2
  go_wp2_with fail
  refine (T2.out _ hB1).mono ?_
  rintro e w2 ⟨⟨avR, cvR, rfl, hR⟩, hb2⟩
  have hB2 := old_trans hB1 hb2
  replace K1 := K1.old hb2
  replace K2 := K2.old hb2
  replace hL := hL.later hb2
  clear hb2 k1 k2 k3 k4 j1 j2 j3 j4
  obtain ⟨k1, ⟨k2, k3, k4⟩, -⟩ := id K1
  obtain ⟨j1, ⟨j2, j3, j4⟩, -⟩ := id K2
  go_wp2_with fail
  refine (T3.out _ hB2).mono ?_
  rintro e w3 ⟨⟨avB, cvB, rfl, hBt⟩, hb3⟩
  have hB3 := old_trans hB2 hb3
  replace K1 := K1.old hb3
  replace K2 := K2.old hb3
  replace hL := hL.later hb3
  replace hR := hR.later hb3
  have hBt' := hBt.mono hB2.size
  clear hb3 k1 k2 k3 k4 j1 j2 j3 j4 T1 T2 T3 hBt
  have hk : w3.cell? ⟨w.heap.size, 0, none⟩ = some (.bool bl) ∧ w3.cell? ⟨w.heap.size, 1, none⟩ = some (.slice a la ca) ∧ w3.cell? ⟨w.heap.size, 2, none⟩ = some (.slice b lb cb) ∧ w3.cell? ⟨w.heap.size + 1, 0, none⟩ = some (.bool (!bl)) ∧ w3.cell? ⟨w.heap.size + 1, 1, none⟩ = some (.slice c lc cc) ∧ w3.cell? ⟨w.heap.size + 1, 2, none⟩ = some (.slice d ld cd) := ⟨K1.c0, K1.c1, K1.c2, K2.c0, K2.c1, K2.c2⟩
  obtain ⟨k0, k1, k2, k3, k4, k5⟩ := id hk
  have AG := hd (sCmpN avL avR cvL cvR X Y w3 hL.inI hR.inI)
  rw [cmpI_lt hlt] at AG
  go_wp2_with fail
  refine AG.out.mono ?_
  rintro e w7 ⟨rfl, hb7⟩
  clear AG k0 k1 k2 k3 k4 k5 hk
  replace hB3 := old_trans hB3 hb7
  replace hL := hL.later hb7
  replace hR := hR.later hb7
  replace hBt' := hBt'.later hb7
  replace K1 := K1.old hb7
  replace K2 := K2.old hb7
  clear hb7
  have hk : w7.cell? ⟨w.heap.size, 0, none⟩ = some (.bool bl) ∧ w7.cell? ⟨w.heap.size, 1, none⟩ = some (.slice a la ca) ∧ w7.cell? ⟨w.heap.size, 2, none⟩ = some (.slice b lb cb) ∧ w7.cell? ⟨w.heap.size + 1, 0, none⟩ = some (.bool (!bl)) ∧ w7.cell? ⟨w.heap.size + 1, 1, none⟩ = some (.slice c lc cc) ∧ w7.cell? ⟨w.heap.size + 1, 2, none⟩ = some (.slice d ld cd) := ⟨K1.c0, K1.c1, K1.c2, K2.c0, K2.c1, K2.c2⟩
  obtain ⟨k0, k1, k2, k3, k4, k5⟩ := id hk
  have U4 := hd (fun w' (hS : w'.cell? ⟨w.heap.size, 0, none⟩ = some (.bool bl) ∧ w'.cell? ⟨w.heap.size, 1, none⟩ = some (.slice a la ca) ∧ w'.cell? ⟨w.heap.size, 2, none⟩ = some (.slice b lb cb) ∧ w'.cell? ⟨w.heap.size + 1, 0, none⟩ = some (.bool (!bl)) ∧ w'.cell? ⟨w.heap.size + 1, 1, none⟩ = some (.slice c lc cc) ∧ w'.cell? ⟨w.heap.size + 1, 2, none⟩ = some (.slice d ld cd)) (h : Below w7.heap.size w7 w') => (sSubN avR avL cvR cvL Y X w' (hR.later h).inI (hL.later h).inI lY (Nat.le_of_lt hlt)).mono (fun e w'' (k : _ ∧ _) => (⟨k, six_old hS k.2⟩ : (_ ∧ _) ∧ (w''.cell? ⟨w.heap.size, 0, none⟩ = some (.bool bl) ∧ w''.cell? ⟨w.heap.size, 1, none⟩ = some (.slice a la ca) ∧ w''.cell? ⟨w.heap.size, 2, none⟩ = some (.slice b lb cb) ∧ w''.cell? ⟨w.heap.size + 1, 0, none⟩ = some (.bool (!bl)) ∧ w''.cell? ⟨w.heap.size + 1, 1, none⟩ = some (.slice c lc cc) ∧ w''.cell? ⟨w.heap.size + 1, 2, none⟩ = some (.slice d ld cd)))))
  go_wp2_with fail
  go_region_held3 (fun w' => w'.cell? ⟨w.heap.size, 0, none⟩ = some (.bool bl) ∧ w'.cell? ⟨w.heap.size, 1, none⟩ = some (.slice a la ca) ∧ w'.cell? ⟨w.heap.size, 2, none⟩ = some (.slice b lb cb) ∧ w'.cell? ⟨w.heap.size + 1, 0, none⟩ = some (.bool (!bl)) ∧ w'.cell? ⟨w.heap.size + 1, 1, none⟩ = some (.slice c lc cc) ∧ w'.cell? ⟨w.heap.size + 1, 2, none⟩ = some (.slice d ld cd)) (go_keep) (first | (go_at_call 65; refine (U4.out _ (by assumption) (by repeat (first | exact Below.refl _ _ | refine Below.drew ?_ | refine old_trans ?_ (by assumption)))).mono ?_; rintro e w8 ⟨⟨⟨avP, cvP, rfl, hP⟩, hb8⟩, hc8⟩))
  all_goals
    have o1 := hP.mono (show w.heap.size ≤ _ from hB3.size)
    have o2 := hBt'.drew.later hb8
    have hBF : Below w.heap.size w w8 := old_trans hB3.drew hb8
    clear hP hL hR U4
    go_wp2
    go_ret3
    exact ⟨⟨_, _, _, _, rfl, o1, o2⟩, hBF⟩
set_option maxHeartbeats 16000000 in
theorem sSumMore (bl : Bool) (a b : Option Addr) (la lb ca cb : Nat) (xs ys : List Int) (c d : Option Addr) (lc ld cc cd : Nat) (us vs : List Int) (w : World) (hA : InI w a la ca xs) (hB : InI w b lb cb ys) (hC : InI w c lc cc us) (hD : InI w d ld cd vs) (dx : digs xs) (dy : digs ys) (du : digs us) (dv : digs vs) (la1 : la ≤ 1024) (lb1 : lb ≤ 1024) (lc1 : lc ≤ 1024) (ld1 : ld ≤ 1024) (X Y bt : Nat) (hX : X = val xs * val vs) (hY : Y = val us * val ys) (hbt : bt = val ys * val vs) (hge : Y ≤ X) (cz : Int) (hcz : cmpI X Y = cz) (hc0 : 0 ≤ cz) :
    Calls Tryz.prog 33 #[.agg #[.bool bl, .slice a la ca, .slice b lb cb], .agg #[.bool (!bl), .slice c lc cc, .slice d ld cd]] w fun e w' => (∃ a1 c1 a2 c2, e = .returned (.tuple #[.bool bl, .slice a1 (natL (X - Y)).length c1, .slice a2 (natL bt).length c2]) ∧ OI w' w.heap.size a1 c1 (natL (X - Y)) ∧ OI w' w.heap.size a2 c2 (natL bt)) ∧ Below w.heap.size w w' := by
  have e0 : Below w.heap.size w ((w.alloc (.cells #[.bool bl, .slice a la ca, .slice b lb cb] 25)).alloc (.cells #[.bool (!bl), .slice c lc cc, .slice d ld cd] 25)) := (by repeat (first | exact Below.refl _ _ | refine Below.drew ?_ | refine old_alloc ?_ _ | refine old_trans ?_ (by assumption)))
  have K1 := (Cel3.new w (.bool bl) (.slice a la ca) (.slice b lb cb) 25).old (old_alloc (Below.refl _ _) (.cells #[.bool (!bl), .slice c lc cc, .slice d ld cd] 25))
  have K2 := Cel3.new (w.alloc (.cells #[.bool bl, .slice a la ca, .slice b lb cb] 25)) (.bool (!bl)) (.slice c lc cc) (.slice d ld cd) 25
  simp only [World.size_alloc] at K2
  have T1 := hd (fun w' (h : Below w.heap.size w w') => sMul a d la ld ca cd xs vs w' (hA.old h) (hD.old h) dx dv (by omega) (by omega))
  have T2 := hd (fun w' (h : Below w.heap.size w w') => sMul c b lc lb cc cb us ys w' (hC.old h) (hB.old h) du dy (by omega) (by omega))
  have T3 := hd (fun w' (h : Below w.heap.size w w') => sMul b d lb ld cb cd ys vs w' (hB.old h) (hD.old h) dy dv (by omega) (by omega))
  rw [← hX] at T1
  rw [← hY] at T2
  rw [← hbt] at T3
  have lX : (natL X).length ≤ 2048 := by
    rw [hX]
    have h1 := val_lt dx
    have h2 := val_lt dv
    rw [hA.1] at h1
    rw [hD.1] at h2
    have := mul_lenG h1 h2
    omega
  have lY : (natL Y).length ≤ 2048 := by
    rw [hY]
    have h1 := val_lt du
    have h2 := val_lt dy
    rw [hC.1] at h1
    rw [hB.1] at h2
    have := mul_lenG h1 h2
    omega
  clear hA hB hC hD dx dy du dv la1 lb1 lc1 ld1 hX hY hbt
  go_enter Tryz.func33, Tryz.ntmps33
  go_wp2_with fail
  refine (T1.out _ e0).mono ?_
  rintro e w1 ⟨⟨avL, cvL, rfl, hL⟩, hb1⟩
  have hB1 := old_trans e0 hb1
  replace K1 := K1.old hb1
  replace K2 := K2.old hb1
  clear hb1
  obtain ⟨k1, ⟨k2, k3, k4⟩, -⟩ := id K1
  obtain ⟨j1, ⟨j2, j3, j4⟩, -⟩ := id K2
  go_wp2_with fail
  refine (T2.out _ hB1).mono ?_
  rintro e w2 ⟨⟨avR, cvR, rfl, hR⟩, hb2⟩
  have hB2 := old_trans hB1 hb2
  replace K1 := K1.old hb2
  replace K2 := K2.old hb2
  replace hL := hL.later hb2
  clear hb2 k1 k2 k3 k4 j1 j2 j3 j4
  obtain ⟨k1, ⟨k2, k3, k4⟩, -⟩ := id K1
  obtain ⟨j1, ⟨j2, j3, j4⟩, -⟩ := id K2
  go_wp2_with fail
  refine (T3.out _ hB2).mono ?_
  rintro e w3 ⟨⟨avB, cvB, rfl, hBt⟩, hb3⟩
  have hB3 := old_trans hB2 hb3
  replace K1 := K1.old hb3
  replace K2 := K2.old hb3
  replace hL := hL.later hb3
  replace hR := hR.later hb3
  have hBt' := hBt.mono hB2.size
  clear hb3 k1 k2 k3 k4 j1 j2 j3 j4 T1 T2 T3 hBt
  have hk : w3.cell? ⟨w.heap.size, 0, none⟩ = some (.bool bl) ∧ w3.cell? ⟨w.heap.size, 1, none⟩ = some (.slice a la ca) ∧ w3.cell? ⟨w.heap.size, 2, none⟩ = some (.slice b lb cb) ∧ w3.cell? ⟨w.heap.size + 1, 0, none⟩ = some (.bool (!bl)) ∧ w3.cell? ⟨w.heap.size + 1, 1, none⟩ = some (.slice c lc cc) ∧ w3.cell? ⟨w.heap.size + 1, 2, none⟩ = some (.slice d ld cd) := ⟨K1.c0, K1.c1, K1.c2, K2.c0, K2.c1, K2.c2⟩
  obtain ⟨k0, k1, k2, k3, k4, k5⟩ := id hk
  have AG := hd (sCmpN avL avR cvL cvR X Y w3 hL.inI hR.inI)
  rw [hcz] at AG
  go_wp2_with fail
  refine AG.out.mono ?_
  rintro e w7 ⟨rfl, hb7⟩
  clear AG k0 k1 k2 k3 k4 k5 hk
  replace hB3 := old_trans hB3 hb7
  replace hL := hL.later hb7
  replace hR := hR.later hb7
  replace hBt' := hBt'.later hb7
  replace K1 := K1.old hb7
  replace K2 := K2.old hb7
  clear hb7
  have hk : w7.cell? ⟨w.heap.size, 0, none⟩ = some (.bool bl) ∧ w7.cell? ⟨w.heap.size, 1, none⟩ = some (.slice a la ca) ∧ w7.cell? ⟨w.heap.size, 2, none⟩ = some (.slice b lb cb) ∧ w7.cell? ⟨w.heap.size + 1, 0, none⟩ = some (.bool (!bl)) ∧ w7.cell? ⟨w.heap.size + 1, 1, none⟩ = some (.slice c lc cc) ∧ w7.cell? ⟨w.heap.size + 1, 2, none⟩ = some (.slice d ld cd) := ⟨K1.c0, K1.c1, K1.c2, K2.c0, K2.c1, K2.c2⟩
  obtain ⟨k0, k1, k2, k3, k4, k5⟩ := id hk
  have U4 := hd (fun w' (hS : w'.cell? ⟨w.heap.size, 0, none⟩ = some (.bool bl) ∧ w'.cell? ⟨w.heap.size, 1, none⟩ = some (.slice a la ca) ∧ w'.cell? ⟨w.heap.size, 2, none⟩ = some (.slice b lb cb) ∧ w'.cell? ⟨w.heap.size + 1, 0, none⟩ = some (.bool (!bl)) ∧ w'.cell? ⟨w.heap.size + 1, 1, none⟩ = some (.slice c lc cc) ∧ w'.cell? ⟨w.heap.size + 1, 2, none⟩ = some (.slice d ld cd)) (h : Below w7.heap.size w7 w') => (sSubN avL avR cvL cvR X Y w' (hL.later h).inI (hR.later h).inI lX hge).mono (fun e w'' (k : _ ∧ _) => (⟨k, six_old hS k.2⟩ : (_ ∧ _) ∧ (w''.cell? ⟨w.heap.size, 0, none⟩ = some (.bool bl) ∧ w''.cell? ⟨w.heap.size, 1, none⟩ = some (.slice a la ca) ∧ w''.cell? ⟨w.heap.size, 2, none⟩ = some (.slice b lb cb) ∧ w''.cell? ⟨w.heap.size + 1, 0, none⟩ = some (.bool (!bl)) ∧ w''.cell? ⟨w.heap.size + 1, 1, none⟩ = some (.slice c lc cc) ∧ w''.cell? ⟨w.heap.size + 1, 2, none⟩ = some (.slice d ld cd)))))
  go_wp2_with fail
  go_region_held3 (fun w' => w'.cell? ⟨w.heap.size, 0, none⟩ = some (.bool bl) ∧ w'.cell? ⟨w.heap.size, 1, none⟩ = some (.slice a la ca) ∧ w'.cell? ⟨w.heap.size, 2, none⟩ = some (.slice b lb cb) ∧ w'.cell? ⟨w.heap.size + 1, 0, none⟩ = some (.bool (!bl)) ∧ w'.cell? ⟨w.heap.size + 1, 1, none⟩ = some (.slice c lc cc) ∧ w'.cell? ⟨w.heap.size + 1, 2, none⟩ = some (.slice d ld cd)) (go_keep) (first | (go_at_call 65; refine (U4.out _ (by assumption) (by repeat (first | exact Below.refl _ _ | refine Below.drew ?_ | refine old_trans ?_ (by assumption)))).mono ?_; rintro e w8 ⟨⟨⟨avP, cvP, rfl, hP⟩, hb8⟩, hc8⟩))
  all_goals
    have o1 := hP.mono (show w.heap.size ≤ _ from hB3.size)
    have o2 := hBt'.drew.later hb8
    have hBF : Below w.heap.size w w8 := old_trans hB3.drew hb8
    clear hP hL hR U4
    go_wp2
    go_ret3
    exact ⟨⟨_, _, _, _, rfl, o1, o2⟩, hBF⟩
theorem sL6Sum (bl : Bool) (a b : Option Addr) (la lb ca cb : Nat) (xs ys : List Int) (bm : Bool) (c d : Option Addr) (lc ld cc cd : Nat) (us vs : List Int) (w : World) (hA : InI w a la ca xs) (hB : InI w b lb cb ys) (hC : InI w c lc cc us) (hD : InI w d ld cd vs) (dx : digs xs) (dy : digs ys) (du : digs us) (dv : digs vs) (la1 : la ≤ 1024) (lb1 : lb ≤ 1024) (lc1 : lc ≤ 1024) (ld1 : ld ≤ 1024) :
    Calls Tryz.prog 33 #[.agg #[.bool bl, .slice a la ca, .slice b lb cb], .agg #[.bool bm, .slice c lc cc, .slice d ld cd]] w fun e w' => (∃ a1 c1 a2 c2, e = .returned (.tuple #[.bool (sumS bl bm (val xs * val vs) (val us * val ys)), .slice a1 (natL (sumN bl bm (val xs * val vs) (val us * val ys))).length c1, .slice a2 (natL (val ys * val vs)).length c2]) ∧ OI w' w.heap.size a1 c1 (natL (sumN bl bm (val xs * val vs) (val us * val ys))) ∧ OI w' w.heap.size a2 c2 (natL (val ys * val vs))) ∧ Below w.heap.size w w' := by
  by_cases h : bl = bm
  · subst h
    have := sSumSame bl a b la lb ca cb xs ys c d lc ld cc cd us vs w hA hB hC hD dx dy du dv la1 lb1 lc1 ld1 _ _ _ rfl rfl rfl
    unfold sumS sumN
    rw [if_pos rfl, if_pos rfl]
    exact this
  · obtain rfl : bm = !bl := by cases bl <;> cases bm <;> simp_all
    unfold sumS sumN
    rw [if_neg h, if_neg h]
    by_cases hlt : val xs * val vs < val us * val ys
    · rw [if_pos hlt, if_pos hlt]
      exact sSumLess bl a b la lb ca cb xs ys c d lc ld cc cd us vs w hA hB hC hD dx dy du dv la1 lb1 lc1 ld1 _ _ _ rfl rfl rfl hlt
    · rw [if_neg hlt, if_neg hlt]
      refine sSumMore bl a b la lb ca cb xs ys c d lc ld cc cd us vs w hA hB hC hD dx dy du dv la1 lb1 lc1 ld1 _ _ _ rfl rfl rfl (by omega) _ rfl ?_
      unfold cmpI
      rw [if_neg hlt]
      split <;> omega
end Go.Proofs.YtekhokemekaeoaaGreatDoor
