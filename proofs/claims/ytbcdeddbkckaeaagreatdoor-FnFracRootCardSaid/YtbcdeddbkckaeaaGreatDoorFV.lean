/- Sums of fractions: by the program and by the specification. Conditions, of the program: the library's table and its handle of errors hold what their texts lay. -/
import Derived.Test.YtbcdeddbkckaeaaGreatDoorFU
namespace Go.Proofs.YtbcdeddbkckaeaaGreatDoor
open Go.RowKit
set_option linter.unusedVariables false
set_option maxRecDepth 100000

theorem add_lenG {a b n : Nat} (h1 : a < 65536 ^ n) (h2 : b < 65536 ^ n) : (natL (a + b)).length ≤ n + 1 := by
  refine natL_len.2 ?_
  rw [Nat.pow_succ]
  omega
theorem sumN_le (bl bm : Bool) (x y : Nat) : sumN bl bm x y ≤ x + y := by
  unfold sumN
  split
  · omega
  · split <;> omega
theorem sumN_len {bl bm : Bool} {x y n : Nat} (h1 : x < 65536 ^ n) (h2 : y < 65536 ^ n) : (natL (sumN bl bm x y)).length ≤ n + 1 := Nat.le_trans (natL_le (sumN_le bl bm x y)) (add_lenG h1 h2)
theorem mul_ltG {a b n m : Nat} (h1 : a < 65536 ^ n) (h2 : b < 65536 ^ m) : a * b < 65536 ^ (n + m) := by
  rw [Nat.pow_add]
  exact Nat.mul_lt_mul'' h1 h2
theorem sumN_lenG {bl bm : Bool} {a b c d n : Nat} (h1 : a < 65536 ^ n) (h2 : b < 65536 ^ n) (h3 : c < 65536 ^ n) (h4 : d < 65536 ^ n) : (natL (sumN bl bm (a * b) (c * d))).length ≤ n + n + 1 := sumN_len (mul_ltG h1 h2) (mul_ltG h3 h4)
theorem resAdd1 {W : World} {b : Nat} {v0 v1 v2 : Value} {tmps : Array Value} (h : Cel3 W b v0 v1 v2) (ht : tmps[4]? = some (.pointer (some ⟨b, 0, none⟩))) : (results Tryz.f45 tmps).run Tryz.prog W = .ok (.agg #[v0, v1, v2]) W := by
  obtain ⟨h1, ⟨a0, a1, a2⟩, -⟩ := h
  simp [results, Tryz.results45, go_sem, a0, a1, a2, ht]
set_option maxHeartbeats 8000000 in
theorem iAdd1 (bl : Bool) (a b : Option Addr) (la lb ca cb : Nat) (xs ys : List Int) (bm : Bool) (c d : Option Addr) (lc ld cc cd : Nat) (us vs : List Int) (w : World) (hA : InI w a la ca xs) (hB : InI w b lb cb ys) (hC : InI w c lc cc us) (hD : InI w d ld cd vs) (dx : digs xs) (dy : digs ys) (du : digs us) (dv : digs vs) (la1 : la ≤ 1024) (lb1 : lb ≤ 1024) (lc1 : lc ≤ 1024) (ld1 : ld ≤ 1024) (tx : topped xs) (ty : topped ys) (hbl : bl = true → val xs ≠ 0) :
    Calls Tryz.prog 45 #[.agg #[.bool bl, .slice a la ca, .slice b lb cb], .agg #[.bool bm, .slice c lc cc, .slice d ld cd]] w fun e w' => (∃ a1 c1 a2 c2, e = .returned (.agg #[.bool (sumS bl bm (val xs * val vs) (val us * val ys)), .slice a1 (natL (sumN bl bm (val xs * val vs) (val us * val ys))).length c1, .slice a2 (natL (val ys * val vs)).length c2]) ∧ OI w' w.heap.size a1 c1 (natL (sumN bl bm (val xs * val vs) (val us * val ys))) ∧ OI w' w.heap.size a2 c2 (natL (val ys * val vs))) ∧ Below w.heap.size w w' := by
  have e0 : Below w.heap.size w ((((w.alloc (.cells #[.bool bl, .slice a la ca, .slice b lb cb] 53)).alloc (.cells #[.bool bm, .slice c lc cc, .slice d ld cd] 53)).alloc (.cells #[.bool false, .slice none 0 0, .slice none 0 0] 53)).alloc (.cells #[.bool bl, .slice a la ca, .slice b lb cb, .bool bm, .slice c lc cc, .slice d ld cd] 53)) := (by repeat (first | exact Below.refl _ _ | refine Below.drew ?_ | refine old_alloc ?_ _ | refine old_trans ?_ (by assumption)))
  have K := (Cel3.new ((w.alloc (.cells #[.bool bl, .slice a la ca, .slice b lb cb] 53)).alloc (.cells #[.bool bm, .slice c lc cc, .slice d ld cd] 53)) (.bool false) (.slice none 0 0) (.slice none 0 0) 53).old (old_alloc (Below.refl _ _) (.cells #[.bool bl, .slice a la ca, .slice b lb cb, .bool bm, .slice c lc cc, .slice d ld cd] 53))
  simp only [World.size_alloc] at K
  have hP : Cel6 ((((w.alloc (.cells #[.bool bl, .slice a la ca, .slice b lb cb] 53)).alloc (.cells #[.bool bm, .slice c lc cc, .slice d ld cd] 53)).alloc (.cells #[.bool false, .slice none 0 0, .slice none 0 0] 53)).alloc (.cells #[.bool bl, .slice a la ca, .slice b lb cb, .bool bm, .slice c lc cc, .slice d ld cd] 53)) (w.heap.size + 1 + 1 + 1) (.bool bl) (.slice a la ca) (.slice b lb cb) (.bool bm) (.slice c lc cc) (.slice d ld cd) := by
    refine ⟨by simp, ?_, ?_, ?_, ?_, ?_, ?_⟩ <;> simp [go_sem]
  have S := hd (iSummed2 bl a b la lb ca cb xs ys bm c d lc ld cc cd us vs _ _ hP (hA.old e0) (hB.old e0) (hC.old e0) (hD.old e0) dx dy du dv la1 lb1 lc1 ld1 tx ty hbl)
  clear hA hB hC hD dx dy du dv la1 lb1 lc1 ld1 tx ty hbl hP
  generalize sumS bl bm (val xs * val vs) (val us * val ys) = s2 at *
  generalize natL (sumN bl bm (val xs * val vs) (val us * val ys)) = tl at *
  generalize natL (val ys * val vs) = ul at *
  go_enter Tryz.func45, Tryz.ntmps45
  go_wp2_with fail
  refine S.out.mono ?_
  rintro e w1 ⟨⟨a1, c1, a2, c2, rfl, hO, hO'⟩, hb1⟩
  have hs0 := K.1
  replace K := K.old hb1
  have hB1 := old_trans e0 hb1
  obtain ⟨m1, ⟨m2, m3, m4⟩, m5, m6, m7⟩ := id K
  have o1 := (oi_set3 (v0 := .bool s2) (v1 := .slice a1 tl.length c1) (v2 := .slice a2 ul.length c2) hO hs0).mono e0.size
  have o2 := (oi_set3 (v0 := .bool s2) (v1 := .slice a1 tl.length c1) (v2 := .slice a2 ul.length c2) hO' hs0).mono e0.size
  have hK := K.setAll (.bool s2) (.slice a1 tl.length c1) (.slice a2 ul.length c2)
  clear hO hO' S hb1
  go_wp2
  exact bodyPost_ret (resAdd1 hK rfl) rfl ⟨⟨_, _, _, _, rfl, o1, o2⟩, below_set (below_set (below_set hB1 (by omega) _) (by omega) _) (by omega) _⟩
theorem resFracAdd {W : World} {b : Nat} {v0 v1 v2 r : Value} {tmps : Array Value} (h : Cel3 W b v0 v1 v2) (ht : tmps[4]? = some (.pointer (some ⟨b, 0, none⟩))) (h3 : tmps[5]? = some r) : (results Tryz.f19 tmps).run Tryz.prog W = .ok (.tuple #[.agg #[v0, v1, v2], r]) W := by
  obtain ⟨h1, ⟨a0, a1, a2⟩, -⟩ := h
  simp [results, Tryz.results19, go_sem, a0, a1, a2, ht, h3]
set_option maxHeartbeats 8000000 in
theorem iFracAdd (bl : Bool) (a b : Option Addr) (la lb ca cb : Nat) (xs ys : List Int) (bm : Bool) (c d : Option Addr) (lc ld cc cd : Nat) (us vs : List Int) (w : World) (hA : InI w a la ca xs) (hB : InI w b lb cb ys) (hC : InI w c lc cc us) (hD : InI w d ld cd vs) (hT : Tab w) (hE : ET w) :
    Calls Tryz.prog 19 #[.agg #[.bool bl, .slice a la ca, .slice b lb cb], .agg #[.bool bm, .slice c lc cc, .slice d ld cd]] w fun e w' => FRes w' w.heap.size e (fracOk bl xs ys && (fracOk bm us vs && lowB (sumN bl bm (val xs * val vs) (val us * val ys)) (val ys * val vs))) (sumS bl bm (val xs * val vs) (val us * val ys)) (sumN bl bm (val xs * val vs) (val us * val ys)) (val ys * val vs) ∧ Below w.heap.size w w' := by
  have e0 : Below w.heap.size w (((w.alloc (.cells #[.bool bl, .slice a la ca, .slice b lb cb] 26)).alloc (.cells #[.bool bm, .slice c lc cc, .slice d ld cd] 26)).alloc (.cells #[.bool false, .slice none 0 0, .slice none 0 0] 26)) := (by repeat (first | exact Below.refl _ _ | refine Below.drew ?_ | refine old_alloc ?_ _ | refine old_trans ?_ (by assumption)))
  have K2 := Cel3.new ((w.alloc (.cells #[.bool bl, .slice a la ca, .slice b lb cb] 26)).alloc (.cells #[.bool bm, .slice c lc cc, .slice d ld cd] 26)) (.bool false) (.slice none 0 0) (.slice none 0 0) 26
  simp only [World.size_alloc] at K2
  have O : Hid (Calls Tryz.prog 35 #[.agg #[.bool bl, .slice a la ca, .slice b lb cb], .agg #[.bool bm, .slice c lc cc, .slice d ld cd], .func (.func 45) #[] #[]] (((w.alloc (.cells #[.bool bl, .slice a la ca, .slice b lb cb] 26)).alloc (.cells #[.bool bm, .slice c lc cc, .slice d ld cd] 26)).alloc (.cells #[.bool false, .slice none 0 0, .slice none 0 0] 26)) fun e w' => FRes w' (((w.alloc (.cells #[.bool bl, .slice a la ca, .slice b lb cb] 26)).alloc (.cells #[.bool bm, .slice c lc cc, .slice d ld cd] 26)).alloc (.cells #[.bool false, .slice none 0 0, .slice none 0 0] 26)).heap.size e (fracOk bl xs ys && (fracOk bm us vs && lowB (sumN bl bm (val xs * val vs) (val us * val ys)) (val ys * val vs))) (sumS bl bm (val xs * val vs) (val us * val ys)) (sumN bl bm (val xs * val vs) (val us * val ys)) (val ys * val vs) ∧ Below (((w.alloc (.cells #[.bool bl, .slice a la ca, .slice b lb cb] 26)).alloc (.cells #[.bool bm, .slice c lc cc, .slice d ld cd] 26)).alloc (.cells #[.bool false, .slice none 0 0, .slice none 0 0] 26)).heap.size (((w.alloc (.cells #[.bool bl, .slice a la ca, .slice b lb cb] 26)).alloc (.cells #[.bool bm, .slice c lc cc, .slice d ld cd] 26)).alloc (.cells #[.bool false, .slice none 0 0, .slice none 0 0] 26)) w') := by
    show Calls _ _ _ _ _
    cases hf : fracOk bl xs ys && fracOk bm us vs
    · have h := iOfTwo 45 bl a b la lb ca cb xs ys bm c d lc ld cc cd us vs _ (hA.old e0) (hB.old e0) (hC.old e0) (hD.old e0) (hT.old e0) (hE.old e0) (enters_of Tryz.func45 (by kernel_rfl) rfl) false 0 0 (by rw [natL_zero]; simp) (by rw [natL_zero]; simp) (fun h h' => by rw [h, h'] at hf; cases hf)
      have e1 : (fracOk bl xs ys && (fracOk bm us vs && lowB 0 0)) = false := by rw [← Bool.and_assoc, hf]; rfl
      have e2 : (fracOk bl xs ys && (fracOk bm us vs && lowB (sumN bl bm (val xs * val vs) (val us * val ys)) (val ys * val vs))) = false := by rw [← Bool.and_assoc, hf]; rfl
      rw [e1] at h
      rw [e2]
      exact h.mono (fun e w' (k : _ ∧ _) => (⟨FRes.any k.1, k.2⟩ : _ ∧ _))
    · rw [Bool.and_eq_true] at hf
      have q := fracOk_in hf.1
      have r := fracOk_in hf.2
      have q1 := natOk_in q.1
      have q2 := natOk_in q.2.1
      have r1 := natOk_in r.1
      have r2 := natOk_in r.2.1
      have hbl : bl = true → val xs ≠ 0 := fun h e => q.2.2.2.2 ⟨h, by
        have := natOk_canon q.1
        rw [e, natL_zero] at this
        rw [← this]; rfl⟩
      have pA := hA.1
      have pB := hB.1
      have pC := hC.1
      have pD := hD.1
      exact iOfTwo 45 bl a b la lb ca cb xs ys bm c d lc ld cc cd us vs _ (hA.old e0) (hB.old e0) (hC.old e0) (hD.old e0) (hT.old e0) (hE.old e0) (enters_of Tryz.func45 (by kernel_rfl) rfl) (sumS bl bm (val xs * val vs) (val us * val ys)) (sumN bl bm (val xs * val vs) (val us * val ys)) (val ys * val vs) (Nat.le_trans (sumN_lenG (natOk_lt q.1) (natOk_lt r.2.1) (natOk_lt r.1) (natOk_lt q.2.1)) (by omega)) (Nat.le_trans (mul_len4 q.2.1 r.2.1) (by omega)) (fun _ _ W hW => iAdd1 bl a b la lb ca cb xs ys bm c d lc ld cc cd us vs W ((hA.old e0).old hW) ((hB.old e0).old hW) ((hC.old e0).old hW) ((hD.old e0).old hW) q1.2.1 q2.2.1 r1.2.1 r2.2.1 (by omega) (by omega) (by omega) (by omega) q1.2.2 q2.2.2 hbl)
  clear hA hB hC hD hT hE
  generalize (fracOk bl xs ys && (fracOk bm us vs && lowB (sumN bl bm (val xs * val vs) (val us * val ys)) (val ys * val vs))) = okk at *
  go_enter Tryz.func19, Tryz.ntmps19
  go_wp2_with fail
  refine O.out.mono ?_
  rintro e w1 ⟨⟨av, cv, av', cv', rfl, hO, hO', hS⟩, hb1⟩
  have hs0 := K2.1
  replace K2 := K2.old hb1
  have hB1 := old_trans e0 hb1
  obtain ⟨m1, ⟨m2, m3, m4⟩, m5, m6, m7⟩ := id K2
  have hfin := hd (FRes.put (w' := w1) (s := sumS bl bm (val xs * val vs) (val us * val ys)) (base := w.heap.size) hO hO' hS e0.size hs0)
  have hK := K2.setAll (.bool (fS okk (sumS bl bm (val xs * val vs) (val us * val ys)) (sumN bl bm (val xs * val vs) (val us * val ys)))) (.slice av (fT okk (sumN bl bm (val xs * val vs) (val us * val ys)) (val ys * val vs)).length cv) (.slice av' (fU okk (sumN bl bm (val xs * val vs) (val us * val ys)) (val ys * val vs)).length cv')
  have hBF := below_set (below_set (below_set hB1 (show w.heap.size ≤ w.heap.size + 1 + 1 by omega) (i := 0) (.bool (fS okk (sumS bl bm (val xs * val vs) (val us * val ys)) (sumN bl bm (val xs * val vs) (val us * val ys))))) (show w.heap.size ≤ w.heap.size + 1 + 1 by omega) (i := 1) (.slice av (fT okk (sumN bl bm (val xs * val vs) (val us * val ys)) (val ys * val vs)).length cv)) (show w.heap.size ≤ w.heap.size + 1 + 1 by omega) (i := 2) (.slice av' (fU okk (sumN bl bm (val xs * val vs) (val us * val ys)) (val ys * val vs)).length cv')
  clear hO hO' hS hb1 O e0 hs0
  generalize hsg : fS okk (sumS bl bm (val xs * val vs) (val us * val ys)) (sumN bl bm (val xs * val vs) (val us * val ys)) = sg at *
  go_wp2
  exact bodyPost_ret (resFracAdd hK rfl rfl) rfl ⟨hfin.out, hBF⟩
theorem sAddN (a b : Option Addr) (ca cb X Y : Nat) (w : World) (hA : InI w a (natL X).length ca (natL X)) (hB : InI w b (natL Y).length cb (natL Y)) (h1 : (natL X).length ≤ 2048) (h2 : (natL Y).length ≤ 2048) :
    Calls Tryz.prog 71 #[.slice a (natL X).length ca, .slice b (natL Y).length cb] w fun e w' => (∃ av cv, e = .returned (.slice av (natL (X + Y)).length cv) ∧ OI w' w.heap.size av cv (natL (X + Y))) ∧ Below w.heap.size w w' := by
  have := sAdd a b _ _ ca cb _ _ w hA hB (digs_natL X) (digs_natL Y) (topped_natL X) (topped_natL Y) (by omega) (by omega)
  rw [val_natL, val_natL] at this
  exact this
theorem sSubN (a b : Option Addr) (ca cb X Y : Nat) (w : World) (hA : InI w a (natL X).length ca (natL X)) (hB : InI w b (natL Y).length cb (natL Y)) (h1 : (natL X).length ≤ 2048) (hle : Y ≤ X) :
    Calls Tryz.prog 97 #[.slice a (natL X).length ca, .slice b (natL Y).length cb] w fun e w' => (∃ av cv, e = .returned (.slice av (natL (X - Y)).length cv) ∧ OI w' w.heap.size av cv (natL (X - Y))) ∧ Below w.heap.size w w' := by
  have := sSub a b _ _ ca cb _ _ w hA hB (digs_natL X) (digs_natL Y) (by omega) (natL_le hle) (by rw [val_natL, val_natL]; exact hle)
  rw [val_natL, val_natL] at this
  exact this
theorem sCmpN (a b : Option Addr) (ca cb X Y : Nat) (w : World) (hA : InI w a (natL X).length ca (natL X)) (hB : InI w b (natL Y).length cb (natL Y)) :
    Calls Tryz.prog 51 #[.slice a (natL X).length ca, .slice b (natL Y).length cb] w fun e w' => e = .returned (.int .i64 (cmpI X Y)) ∧ Below w.heap.size w w' := by
  have := sCmp a b _ _ ca cb _ _ w hA hB (digs_natL X) (digs_natL Y) (topped_natL X) (topped_natL Y)
  rw [val_natL, val_natL] at this
  exact this
end Go.Proofs.YtbcdeddbkckaeaaGreatDoor
