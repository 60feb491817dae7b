/- Fractions down to whole numbers: by the program and by the specification. Conditions, of the program: the library's table and its handle of errors hold what their texts lay. -/
import Derived.Test.YtbcdeddbkckaeaaGreatDoorFX
namespace Go.Proofs.YtbcdeddbkckaeaaGreatDoor
open Go.RowKit
set_option linter.unusedVariables false
set_option maxRecDepth 100000

set_option maxHeartbeats 16000000 in
theorem iSummedZ (bl : Bool) (a b : Option Addr) (la lb ca cb : Nat) (xs ys : List Int) (bm : Bool) (c d : Option Addr) (lc ld cc cd : Nat) (us vs : List Int) (w : World) (p : Nat) (hP : Cel6 w p (.bool bl) (.slice a la ca) (.slice b lb cb) (.bool bm) (.slice c lc cc) (.slice d ld cd)) (hA : InI w a la ca xs) (hB : InI w b lb cb ys) (hC : InI w c lc cc us) (hD : InI w d ld cd vs) (dx : digs xs) (dy : digs ys) (du : digs us) (dv : digs vs) (la1 : la ≤ 1024) (lb1 : lb ≤ 1024) (lc1 : lc ≤ 1024) (ld1 : ld ≤ 1024) (tx : topped xs) (ty : topped ys) (bz : Bool) (hz : bz = (bl && decide (val xs ≠ 0))) :
    Calls Tryz.prog 46 #[.slice (some ⟨p, 0, none⟩) 2 2] w fun e w' => (∃ a1 c1 a2 c2, e = .returned (.agg #[.bool (sumS bz bm (val xs * val vs) (val us * val ys)), .slice a1 (natL (sumN bz bm (val xs * val vs) (val us * val ys))).length c1, .slice a2 (natL (val ys * val vs)).length c2]) ∧ OI w' w.heap.size a1 c1 (natL (sumN bz bm (val xs * val vs) (val us * val ys))) ∧ OI w' w.heap.size a2 c2 (natL (val ys * val vs))) ∧ Below w.heap.size w w' := by
  have e0 : Below w.heap.size w (w.alloc (.cells #[.bool false, .slice none 0 0, .slice none 0 0] 53)) := (by repeat (first | exact Below.refl _ _ | refine Below.drew ?_ | refine old_alloc ?_ _ | refine old_trans ?_ (by assumption)))
  have K := Cel3.new w (.bool false) (.slice none 0 0) (.slice none 0 0) 53
  have WH := hd (fun w' => iWhole false none 0 0 w')
  have hpl := hP.1
  have eA := natL_canon dx tx
  have eB := natL_canon dy ty
  have hs1 : sumS false bl (val [] * val ys) (val xs * val (natL 1)) = bz := by
    rw [val_natL, Nat.mul_one, hz]
    unfold sumS
    simp only [val, Nat.zero_mul]
    cases bl
    · rfl
    · rw [if_neg (by simp)]
      by_cases h : val xs = 0
      · rw [if_neg (by omega), decide_eq_false (by simpa using h)]; rfl
      · rw [if_pos (Nat.pos_of_ne_zero h), decide_eq_true h]; rfl
  have hn1 : sumN false bl (val [] * val ys) (val xs * val (natL 1)) = val xs := by
    rw [val_natL, Nat.mul_one]
    unfold sumN
    simp only [val, Nat.zero_mul]
    cases bl
    · simp
    · rw [if_neg (by simp)]
      split <;> omega
  have hb1' : val (natL 1) * val ys = val ys := by rw [val_natL, Nat.one_mul]
  have P1 := hd (fun av cv base w' (h : Below w.heap.size w w') (hO : OI w' base av cv (natL 1)) => iPlusR false none av 0 (natL 1).length 0 cv [] (natL 1) bl a b la lb ca cb xs ys w' (ini_nil w') hO.inI (hA.old h) (hB.old h) digs_nil (digs_natL 1) dx dy (by omega) (by rw [natL_one]; simp) la1 lb1)
  simp only [hs1, hn1, hb1', eA, eB] at P1
  obtain rfl : xs.length = la := hA.1
  obtain rfl : ys.length = lb := hB.1
  have P2 := hd (fun a1 c1 a2 c2 base base' w' (h : Below w.heap.size w w') (h1 : OI w' base a1 c1 xs) (h2 : OI w' base' a2 c2 ys) => iPlusR bz a1 a2 xs.length ys.length c1 c2 xs ys bm c d lc ld cc cd us vs w' h1.inI h2.inI (hC.old h) (hD.old h) dx dy du dv la1 lb1 lc1 ld1)
  clear hA hB hC hD dx dy du dv la1 lb1 lc1 ld1 tx ty hz eA eB hs1 hn1 hb1'
  generalize sumS bz bm (val xs * val vs) (val us * val ys) = s2 at *
  generalize natL (sumN bz bm (val xs * val vs) (val us * val ys)) = tl at *
  generalize natL (val ys * val vs) = ul at *
  generalize natL 1 = ol at *
  generalize xs.length = la at *
  generalize ys.length = lb at *
  go_enter Tryz.func46, Tryz.ntmps46
  go_wp2_with fail
  refine (WH.out _).mono ?_
  rintro e w1 ⟨⟨av1, cv1, rfl, hO1⟩, hb1⟩
  have hB1 := old_trans e0 hb1
  replace K := K.old hb1
  have hn0 := K.1
  have al1 : Below w1.heap.size w1 (w1.alloc (.cells #[.bool false, .slice none 0 0, .slice av1 ol.length cv1] 53)) := old_alloc (Below.refl _ _) _
  have KS := Cel3.new w1 (.bool false) (.slice none 0 0) (.slice av1 ol.length cv1) 53
  replace K := K.old al1
  have hB2 := old_trans hB1 al1
  have O1 := hO1.later al1
  have hs2 := hB1.size
  have hks0 : w.heap.size < w1.heap.size := hn0
  generalize hks : w1.heap.size = ks at *
  generalize hW2 : w1.alloc (.cells #[.bool false, .slice none 0 0, .slice av1 ol.length cv1] 53) = W2 at *
  obtain ⟨x0, x1, x2, x3, x4, x5, x6⟩ := hP.old hB2
  obtain ⟨k1, ⟨k2, k3, k4⟩, k5, k6, k7⟩ := id KS
  clear hb1 al1 e0 WH hO1 hB1
  go_wp2_with fail
  refine wp_loop_rounds 3 ?_
  rw [rounds_succ]
  go_wp2_with fail
  have al3 : Below W2.heap.size W2 (W2.alloc (.cells #[.bool bl, .slice a la ca, .slice b lb cb] 53)) := old_alloc (Below.refl _ _) _
  have hBa3 := old_trans hB2 al3
  have hz3 : ks < (W2.alloc (.cells #[.bool bl, .slice a la ca, .slice b lb cb] 53)).heap.size := Nat.lt_of_lt_of_le KS.1 al3.size
  refine (P1.out _ _ _ _ (old_trans hB2 al3) (O1.later al3)).mono ?_
  rintro e v3 ⟨⟨a3, c3, b3, d3, rfl, hX3, hY3⟩, hb3⟩
  replace K := (((K.old al3).old hb3).far (c := ks) (i := 0) (v := .bool bz) (by omega)).far (c := ks) (i := 1) (v := .slice a3 la c3) (by omega)
  replace K := K.far (c := ks) (i := 2) (v := .slice b3 lb d3) (by omega)
  have KT := (KS.old al3).old hb3
  replace KS := KT.setAll (.bool bz) (.slice a3 la c3) (.slice b3 lb d3)
  have oX3 := oi_set3 (v0 := .bool bz) (v1 := .slice a3 la c3) (v2 := .slice b3 lb d3) hX3 hz3
  have oY3 := oi_set3 (v0 := .bool bz) (v1 := .slice a3 la c3) (v2 := .slice b3 lb d3) hY3 hz3
  have hBs3 : Below w.heap.size w (((v3.setCell ⟨ks, 0, none⟩ (.bool bz)).setCell ⟨ks, 1, none⟩ (.slice a3 la c3)).setCell ⟨ks, 2, none⟩ (.slice b3 lb d3)) := below_set (below_set (below_set (old_trans hBa3 hb3) hs2 _) hs2 _) hs2 _
  have hbase3 := Nat.lt_trans hks0 hz3
  clear x0 x1 x2 x3 x4 x5 x6 k1 k2 k3 k4 k5 k6 k7 hX3 hY3 hb3 al3
  obtain ⟨r1, ⟨r2, r3, r4⟩, r5, r6, r7⟩ := id KT
  clear KT
  generalize hW4 : ((v3.setCell ⟨ks, 0, none⟩ (.bool bz)).setCell ⟨ks, 1, none⟩ (.slice a3 la c3)).setCell ⟨ks, 2, none⟩ (.slice b3 lb d3) = W4 at *
  obtain ⟨x0, x1, x2, x3, x4, x5, x6⟩ := hP.old hBs3
  obtain ⟨k1, ⟨k2, k3, k4⟩, k5, k6, k7⟩ := id KS
  go_wp2_with fail
  clear r1 r2 r3 r4 r5 r6 r7 hW4
  rw [rounds_succ]
  go_wp2_with fail
  have al5 : Below W4.heap.size W4 (W4.alloc (.cells #[.bool bm, .slice c lc cc, .slice d ld cd] 53)) := old_alloc (Below.refl _ _) _
  have hBa5 := old_trans hBs3 al5
  have hz5 : ks < (W4.alloc (.cells #[.bool bm, .slice c lc cc, .slice d ld cd] 53)).heap.size := Nat.lt_of_lt_of_le KS.1 al5.size
  refine (P2.out _ _ _ _ _ _ _ (old_trans hBs3 al5) (oX3.later al5) (oY3.later al5)).mono ?_
  rintro e v5 ⟨⟨a5, c5, b5, d5, rfl, hX5, hY5⟩, hb5⟩
  replace K := (((K.old al5).old hb5).far (c := ks) (i := 0) (v := .bool s2) (by omega)).far (c := ks) (i := 1) (v := .slice a5 tl.length c5) (by omega)
  replace K := K.far (c := ks) (i := 2) (v := .slice b5 ul.length d5) (by omega)
  have KT := (KS.old al5).old hb5
  replace KS := KT.setAll (.bool s2) (.slice a5 tl.length c5) (.slice b5 ul.length d5)
  have oX5 := oi_set3 (v0 := .bool s2) (v1 := .slice a5 tl.length c5) (v2 := .slice b5 ul.length d5) hX5 hz5
  have oY5 := oi_set3 (v0 := .bool s2) (v1 := .slice a5 tl.length c5) (v2 := .slice b5 ul.length d5) hY5 hz5
  have hBs5 : Below w.heap.size w (((v5.setCell ⟨ks, 0, none⟩ (.bool s2)).setCell ⟨ks, 1, none⟩ (.slice a5 tl.length c5)).setCell ⟨ks, 2, none⟩ (.slice b5 ul.length d5)) := below_set (below_set (below_set (old_trans hBa5 hb5) hs2 _) hs2 _) hs2 _
  have hbase5 := Nat.lt_trans hks0 hz5
  clear x0 x1 x2 x3 x4 x5 x6 k1 k2 k3 k4 k5 k6 k7 hX5 hY5 hb5 al5
  obtain ⟨r1, ⟨r2, r3, r4⟩, r5, r6, r7⟩ := id KT
  clear KT
  generalize hW6 : ((v5.setCell ⟨ks, 0, none⟩ (.bool s2)).setCell ⟨ks, 1, none⟩ (.slice a5 tl.length c5)).setCell ⟨ks, 2, none⟩ (.slice b5 ul.length d5) = W6 at *
  obtain ⟨x0, x1, x2, x3, x4, x5, x6⟩ := hP.old hBs5
  obtain ⟨k1, ⟨k2, k3, k4⟩, k5, k6, k7⟩ := id KS
  go_wp2_with fail
  clear r1 r2 r3 r4 r5 r6 r7 hW6
  obtain ⟨m1, ⟨m2, m3, m4⟩, m5, m6, m7⟩ := id K
  have o1 := (oi_set3 (v0 := .bool s2) (v1 := .slice a5 tl.length c5) (v2 := .slice b5 ul.length d5) oX5 hbase5).mono (Nat.le_of_lt hbase5)
  have o2 := (oi_set3 (v0 := .bool s2) (v1 := .slice a5 tl.length c5) (v2 := .slice b5 ul.length d5) oY5 hbase5).mono (Nat.le_of_lt hbase5)
  have hK := K.setAll (.bool s2) (.slice a5 tl.length c5) (.slice b5 ul.length d5)
  rw [rounds_succ]
  go_wp2
  exact bodyPost_ret (resSummed hK rfl) rfl ⟨⟨_, _, _, _, rfl, o1, o2⟩, below_set (below_set (below_set hBs5 (Nat.le_refl _) _) (Nat.le_refl _) _) (Nat.le_refl _) _⟩
def flN (bl : Bool) (x y : Nat) : Nat := if bl = true ∧ x % y ≠ 0 then x / y + 1 else x / y
theorem flN_len {bl : Bool} {xs ys : List Int} (h : natOk xs = true) : (natL (flN bl (val xs) (val ys))).length ≤ 1024 := by
  have h1 := natOk_lt h
  have h2 : flN bl (val xs) (val ys) ≤ val xs + 1 := by
    have := Nat.div_le_self (val xs) (val ys)
    unfold flN
    split <;> omega
  exact Nat.le_trans (natL_le h2) (Nat.le_trans (add_lenG h1 (Nat.one_lt_pow (by omega) (by omega))) (by omega))
theorem resFloor {W : World} {b : Nat} {v0 v1 v2 r : Value} {tmps : Array Value} (h : Cel3 W b v0 v1 v2) (ht : tmps[2]? = some (.pointer (some ⟨b, 0, none⟩))) (h3 : tmps[3]? = some r) : (results Tryz.f41 tmps).run Tryz.prog W = .ok (.tuple #[.agg #[v0, v1, v2], r]) W := by
  obtain ⟨h1, ⟨a0, a1, a2⟩, -⟩ := h
  simp [results, Tryz.results41, go_sem, a0, a1, a2, ht, h3]
set_option maxHeartbeats 8000000 in
theorem iFloor (bl : Bool) (a b : Option Addr) (la lb ca cb : Nat) (xs ys : List Int) (w : World) (hA : InI w a la ca xs) (hB : InI w b lb cb ys) (hf : fracOk bl xs ys = true) :
    Calls Tryz.prog 41 (#[.agg #[.bool bl, .slice a la ca, .slice b lb cb]] ++ #[]) w fun e w' => RRes w' e true bl (flN bl (val xs) (val ys)) 1 ∧ Below w.heap.size w w' := by
  have e0 : Below w.heap.size w ((w.alloc (.cells #[.bool bl, .slice a la ca, .slice b lb cb] 53)).alloc (.cells #[.bool false, .slice none 0 0, .slice none 0 0] 53)) := (by repeat (first | exact Below.refl _ _ | refine Below.drew ?_ | refine old_alloc ?_ _ | refine old_trans ?_ (by assumption)))
  have K1 := (Cel3.new w (.bool bl) (.slice a la ca) (.slice b lb cb) 53).old (old_alloc (Below.refl _ _) (.cells #[.bool false, .slice none 0 0, .slice none 0 0] 53))
  have K := Cel3.new (w.alloc (.cells #[.bool bl, .slice a la ca, .slice b lb cb] 53)) (.bool false) (.slice none 0 0) (.slice none 0 0) 53
  simp only [World.size_alloc] at K
  have q := fracOk_in hf
  have q1 := natOk_in q.1
  have q2 := natOk_in q.2.1
  have pA := hA.1
  have pB := hB.1
  have h0 := q.2.2.1
  have C := hd (iCut a b la lb ca cb xs ys _ (hA.old e0) (hB.old e0) q1.2.1 q2.2.1 q2.2.2 (by omega) (by omega) (by omega))
  have WH := hd (fun s a l k w' => iWhole s a l k w')
  have O := hd iOne
  have lq : (natL (val xs / val ys)).length ≤ 1024 := Nat.le_trans (natL_le (Nat.div_le_self _ _)) (Nat.le_trans (natL_len.2 (natOk_lt q.1)) (by omega))
  have l1 : (natL 1).length ≤ 1024 := by rw [natL_one]; simp
  have SM := hd (fun a1 c1 a2 c2 a3 c3 a4 c4 w' p (hP : Cel6 w' p (.bool true) (.slice a1 (natL (val xs / val ys)).length c1) (.slice a2 (natL 1).length c2) (.bool true) (.slice a3 (natL 1).length c3) (.slice a4 (natL 1).length c4)) (h1 : InI w' a1 (natL (val xs / val ys)).length c1 (natL (val xs / val ys))) (h2 : InI w' a2 (natL 1).length c2 (natL 1)) (h3 : InI w' a3 (natL 1).length c3 (natL 1)) (h4 : InI w' a4 (natL 1).length c4 (natL 1)) => iSummedZ true a1 a2 _ _ c1 c2 _ _ true a3 a4 _ _ c3 c4 _ _ w' p hP h1 h2 h3 h4 (digs_natL _) (digs_natL _) (digs_natL _) (digs_natL _) lq l1 l1 l1 (topped_natL _) (topped_natL _) _ rfl)
  have hs1 : ∀ x : Nat, sumS (true && decide (x ≠ 0)) true (x * 1) (1 * 1) = true ∧ sumN (true && decide (x ≠ 0)) true (x * 1) (1 * 1) = x + 1 := by
    intro x
    unfold sumS sumN
    by_cases h : x = 0
    · subst h; decide
    · rw [decide_eq_true h]; simp
  simp only [val_natL, (hs1 _).1, (hs1 _).2, Nat.one_mul] at SM
  have hst := fun c : bl = true ∧ val xs % val ys ≠ 0 => show flN bl (val xs) (val ys) = val xs / val ys + 1 from if_pos c
  have hsf := fun c : ¬ (bl = true ∧ val xs % val ys ≠ 0) => show flN bl (val xs) (val ys) = val xs / val ys from if_neg c
  clear hA hB q q1 q2 pA pB h0 lq l1 hs1 hf
  unfold RRes
  generalize hN : flN bl (val xs) (val ys) = N at *
  clear hN
  generalize val xs / val ys = Q at *
  generalize val xs % val ys = R at *
  cases bl
  · rw [hsf (by simp)]
    clear hst hsf
    generalize natL Q = ql at *
    generalize natL R = rl at *
    generalize natL 1 = ol at *
    go_enter Tryz.func41, Tryz.ntmps41
    go_wp2_with fail
    have hzq := K.1
    refine C.out.mono ?_
    rintro e w1 ⟨⟨a1, c1, a2, c2, rfl, hQ, hR, -⟩, hb1⟩
    have hB1 := old_trans e0 hb1
    replace K1 := K1.old hb1
    replace K := K.old hb1
    clear hb1 C
    obtain ⟨k1, ⟨k2, k3, k4⟩, -⟩ := id K1
    go_wp2_with fail
    have hzo := K.1
    refine (WH.out _ _ _ _ _).mono ?_
    rintro e w2 ⟨⟨av, cv, rfl, hO⟩, hb2⟩
    have hB2 := old_trans hB1 hb2
    replace K1 := K1.old hb2
    replace K := K.old hb2
    replace hQ := hQ.later hb2
    clear k1 k2 k3 k4 hb2 hB1
    have al : Below w2.heap.size w2 (w2.alloc (.cells #[.bool false, .slice a1 ql.length c1, .slice av ol.length cv] 53)) := old_alloc (Below.refl _ _) _
    have K4 := Cel3.new w2 (.bool false) (.slice a1 ql.length c1) (.slice av ol.length cv) 53
    have hB3 := old_trans hB2 al
    replace K1 := K1.old al
    replace K := K.old al
    replace hQ := hQ.later al
    replace hO := hO.later al
    obtain ⟨k1, ⟨k2, k3, k4⟩, -⟩ := id K1
    obtain ⟨j1, ⟨j2, j3, j4⟩, -⟩ := id K4
    have pk := K.1
    obtain ⟨m1, ⟨m2, m3, m4⟩, m5, m6, m7⟩ := id K
    have hK := K.setAll (.bool false) (.slice a1 ql.length c1) (.slice av ol.length cv)
    have o1 := (oi_set3 (v0 := .bool false) (v1 := .slice a1 ql.length c1) (v2 := .slice av ol.length cv) hQ (show w.heap.size + 1 < _ from hzq)).inI
    have o2 := (oi_set3 (v0 := .bool false) (v1 := .slice a1 ql.length c1) (v2 := .slice av ol.length cv) hO hzo).inI
    clear hQ hO SM WH O
    go_wp2
    exact bodyPost_ret (resFloor hK rfl rfl) rfl ⟨.inl ⟨trivial, _, _, _, _, rfl, o1, o2⟩, below_set (below_set (below_set hB3 (by omega) _) (by omega) _) (by omega) _⟩
  by_cases hr : R = 0
  · subst hr
    rw [hsf (by simp)]
    rw [natL_zero] at C
    clear hst hsf
    generalize natL Q = ql at *
    generalize natL 1 = ol at *
    go_enter Tryz.func41, Tryz.ntmps41
    go_wp2_with fail
    have hzq := K.1
    refine C.out.mono ?_
    rintro e w1 ⟨⟨a1, c1, a2, c2, rfl, hQ, hR, -⟩, hb1⟩
    have hB1 := old_trans e0 hb1
    replace K1 := K1.old hb1
    replace K := K.old hb1
    clear hb1 C
    obtain ⟨k1, ⟨k2, k3, k4⟩, -⟩ := id K1
    go_wp2_with fail
    have hzo := K.1
    refine (WH.out _ _ _ _ _).mono ?_
    rintro e w2 ⟨⟨av, cv, rfl, hO⟩, hb2⟩
    have hB2 := old_trans hB1 hb2
    replace K1 := K1.old hb2
    replace K := K.old hb2
    replace hQ := hQ.later hb2
    clear k1 k2 k3 k4 hb2 hB1
    have al : Below w2.heap.size w2 (w2.alloc (.cells #[.bool true, .slice a1 ql.length c1, .slice av ol.length cv] 53)) := old_alloc (Below.refl _ _) _
    have K4 := Cel3.new w2 (.bool true) (.slice a1 ql.length c1) (.slice av ol.length cv) 53
    have hB3 := old_trans hB2 al
    replace K1 := K1.old al
    replace K := K.old al
    replace hQ := hQ.later al
    replace hO := hO.later al
    obtain ⟨k1, ⟨k2, k3, k4⟩, -⟩ := id K1
    obtain ⟨j1, ⟨j2, j3, j4⟩, -⟩ := id K4
    have pk := K.1
    obtain ⟨m1, ⟨m2, m3, m4⟩, m5, m6, m7⟩ := id K
    have hK := K.setAll (.bool true) (.slice a1 ql.length c1) (.slice av ol.length cv)
    have o1 := (oi_set3 (v0 := .bool true) (v1 := .slice a1 ql.length c1) (v2 := .slice av ol.length cv) hQ (show w.heap.size + 1 < _ from hzq)).inI
    have o2 := (oi_set3 (v0 := .bool true) (v1 := .slice a1 ql.length c1) (v2 := .slice av ol.length cv) hO hzo).inI
    clear hQ hO SM WH O
    go_wp2
    exact bodyPost_ret (resFloor hK rfl rfl) rfl ⟨.inl ⟨trivial, _, _, _, _, rfl, o1, o2⟩, below_set (below_set (below_set hB3 (by omega) _) (by omega) _) (by omega) _⟩
  · rw [hst ⟨rfl, hr⟩]
    clear hst hsf
    have hrl := natL_length_pos (Nat.pos_of_ne_zero hr)
    generalize natL (Q + 1) = tl at *
    generalize natL Q = ql at *
    generalize natL R = rl at *
    generalize natL 1 = ol at *
    have hrl' : 0 < (rl.length : Int) := by omega
    go_enter Tryz.func41, Tryz.ntmps41
    go_wp2_with fail
    have hzq := K.1
    refine C.out.mono ?_
    rintro e w1 ⟨⟨a1, c1, a2, c2, rfl, hQ, hR, -⟩, hb1⟩
    have hB1 := old_trans e0 hb1
    replace K1 := K1.old hb1
    replace K := K.old hb1
    clear hb1 C
    obtain ⟨k1, ⟨k2, k3, k4⟩, -⟩ := id K1
    go_wp2_with fail
    refine (WH.out _ _ _ _ _).mono ?_
    rintro e w2 ⟨⟨av, cv, rfl, hO⟩, hb2⟩
    have hzp : w.heap.size + 1 < w2.heap.size := Nat.lt_of_lt_of_le K.1 hb2.size
    have hB2 := old_trans hB1 hb2
    replace K1 := K1.old hb2
    replace K := K.old hb2
    replace hQ := hQ.later hb2
    clear k1 k2 k3 k4 hb2 hB1
    have al : Below w2.heap.size w2 (w2.alloc (.cells #[.bool true, .slice a1 ql.length c1, .slice av ol.length cv] 53)) := old_alloc (Below.refl _ _) _
    have K4 := Cel3.new w2 (.bool true) (.slice a1 ql.length c1) (.slice av ol.length cv) 53
    have hB3 := old_trans hB2 al
    replace K1 := K1.old al
    replace K := K.old al
    replace hQ := hQ.later al
    replace hO := hO.later al
    obtain ⟨k1, ⟨k2, k3, k4⟩, -⟩ := id K1
    have hzK := K.1
    have hne : w.heap.size + 1 ≠ w2.heap.size := by
      have := hzp
      omega
    go_wp2_with fail
    generalize hW3 : w2.alloc (.cells #[.bool true, .slice a1 ql.length c1, .slice av ol.length cv] 53) = w3 at *
    clear hW3
    generalize w2.heap.size = pw at *
    have hk : w3.cell? ⟨pw, 0, none⟩ = some (.bool true) ∧ w3.cell? ⟨pw, 1, none⟩ = some (.slice a1 ql.length c1) ∧ w3.cell? ⟨pw, 2, none⟩ = some (.slice av ol.length cv) := ⟨K4.c0, K4.c1, K4.c2⟩
    obtain ⟨j2, j3, j4⟩ := id hk
    have U1 := hd (fun w' (hS : w'.cell? ⟨pw, 0, none⟩ = some (.bool true) ∧ w'.cell? ⟨pw, 1, none⟩ = some (.slice a1 ql.length c1) ∧ w'.cell? ⟨pw, 2, none⟩ = some (.slice av ol.length cv)) => (O.out w').mono (fun e w'' (k : _ ∧ _) => (⟨k, three_old hS k.2⟩ : (_ ∧ _) ∧ (w''.cell? ⟨pw, 0, none⟩ = some (.bool true) ∧ w''.cell? ⟨pw, 1, none⟩ = some (.slice a1 ql.length c1) ∧ w''.cell? ⟨pw, 2, none⟩ = some (.slice av ol.length cv)))))
    have U2 := hd (fun s a' l k' w' (hS : w'.cell? ⟨pw, 0, none⟩ = some (.bool true) ∧ w'.cell? ⟨pw, 1, none⟩ = some (.slice a1 ql.length c1) ∧ w'.cell? ⟨pw, 2, none⟩ = some (.slice av ol.length cv)) => (WH.out s a' l k' w').mono (fun e w'' (k : _ ∧ _) => (⟨k, three_old hS k.2⟩ : (_ ∧ _) ∧ (w''.cell? ⟨pw, 0, none⟩ = some (.bool true) ∧ w''.cell? ⟨pw, 1, none⟩ = some (.slice a1 ql.length c1) ∧ w''.cell? ⟨pw, 2, none⟩ = some (.slice av ol.length cv)))))
    have U3 := hd (fun a3 c3 a4 c4 w' p (hS : w'.cell? ⟨pw, 0, none⟩ = some (.bool true) ∧ w'.cell? ⟨pw, 1, none⟩ = some (.slice a1 ql.length c1) ∧ w'.cell? ⟨pw, 2, none⟩ = some (.slice av ol.length cv)) (h : Below w3.heap.size w3 w') hP h3 h4 => (SM.out a1 c1 av cv a3 c3 a4 c4 w' p hP (hQ.later h).inI (hO.later h).inI h3 h4).mono (fun e w'' (k : _ ∧ _) => (⟨k, three_old hS k.2⟩ : (_ ∧ _) ∧ (w''.cell? ⟨pw, 0, none⟩ = some (.bool true) ∧ w''.cell? ⟨pw, 1, none⟩ = some (.slice a1 ql.length c1) ∧ w''.cell? ⟨pw, 2, none⟩ = some (.slice av ol.length cv)))))
    clear WH O SM K1 K4
    go_region_held3 (fun w' => w'.cell? ⟨pw, 0, none⟩ = some (.bool true) ∧ w'.cell? ⟨pw, 1, none⟩ = some (.slice a1 ql.length c1) ∧ w'.cell? ⟨pw, 2, none⟩ = some (.slice av ol.length cv)) (go_keep) (first | (go_at_call 48; refine (U1.out _ (by assumption)).mono ?_; rintro e w4 ⟨⟨⟨a4, c4, rfl, hO4⟩, hb4⟩, hc4⟩) | (go_at_call 66; refine (U2.out _ _ _ _ _ (by assumption)).mono ?_; rintro e w5 ⟨⟨⟨a5, c5, rfl, hO5⟩, hb5⟩, hc5⟩) | (go_at_call 46; refine (U3.out _ _ _ _ _ _ (by assumption) (by repeat (first | exact Below.refl _ _ | assumption | refine Below.drew ?_ | refine old_alloc ?_ _ | refine old_trans ?_ (by assumption))) (Cel6.new _ _ _ _ _ _ _ _) ((hO4.later hb5).alloc _).inI (hO5.alloc _).inI).mono ?_; rintro e w6 ⟨⟨⟨b1, d1, b2, d2, rfl, hP1, hP2⟩, hb6⟩, hc6⟩; have K5 := (((K.drew.old hb4).old hb5).old (old_alloc (Below.refl _ _) _)).old hb6; have n2 := K5.c0; have n3 := K5.c1; have n4 := K5.c2; have n5 := K5.f0; have n6 := K5.f1; have n7 := K5.f2))
    all_goals
      have hBF : Below w.heap.size w w6 := (by repeat (first | exact hB3 | refine Below.drew ?_ | refine old_alloc ?_ _ | refine old_trans ?_ (by assumption)))
      have hs0 : w.heap.size + 1 < (w5.alloc (.cells #[.bool true, .slice a1 ql.length c1, .slice av ol.length cv, .bool true, .slice a4 ol.length c4, .slice a5 ol.length c5] 53)).heap.size := by
        have h2 := hb4.size
        have h3 : w3.drew.heap.size = w3.heap.size := rfl
        have h4 := hb5.size
        rw [World.size_alloc]
        omega
      have o1 := (oi_set3 (v0 := .bool true) (v1 := .slice b1 tl.length d1) (v2 := .slice b2 ol.length d2) hP1 hs0).inI
      have o2 := (oi_set3 (v0 := .bool true) (v1 := .slice b1 tl.length d1) (v2 := .slice b2 ol.length d2) hP2 hs0).inI
      have hK := K5.setAll (.bool true) (.slice b1 tl.length d1) (.slice b2 ol.length d2)
      clear hP1 hP2 hO hQ hO4 hO5 U1 U2 U3
      go_wp2
      exact bodyPost_ret (resFloor hK rfl rfl) rfl ⟨.inl ⟨trivial, _, _, _, _, rfl, o1, o2⟩, below_set (below_set (below_set hBF (by omega) _) (by omega) _) (by omega) _⟩
theorem one_oiF (w : World) (ty : TypeId) : OI (w.alloc (.cells #[.int .i64 1] ty)) w.heap.size (some ⟨w.heap.size, 0, none⟩) 1 [1] := by
  have hr : IRow (w.alloc (.cells #[.int .i64 1] ty)) w.heap.size [1] := ⟨by simp, fun i hi => by
    obtain rfl : i = 0 := by simp at hi; omega
    simp⟩
  exact ⟨fun x hx => by simp at hx; subst hx; omega, Nat.le_refl _, by unfold maxLen; simp, .inr ⟨_, rfl, Nat.le_refl _, hr⟩⟩
theorem resFracFloor {W : World} {b : Nat} {v0 v1 v2 r : Value} {tmps : Array Value} (h : Cel3 W b v0 v1 v2) (ht : tmps[2]? = some (.pointer (some ⟨b, 0, none⟩))) (h3 : tmps[3]? = some r) : (results Tryz.f17 tmps).run Tryz.prog W = .ok (.tuple #[.agg #[v0, v1, v2], r]) W := by
  obtain ⟨h1, ⟨a0, a1, a2⟩, -⟩ := h
  simp [results, Tryz.results17, go_sem, a0, a1, a2, ht, h3]
set_option maxHeartbeats 4000000 in
theorem iFracFloor (bl : Bool) (a b : Option Addr) (la lb ca cb : Nat) (xs ys : List Int) (w : World) (hA : InI w a la ca xs) (hB : InI w b lb cb ys) (hT : Tab w) (hE : ET w) :
    Calls Tryz.prog 17 #[.agg #[.bool bl, .slice a la ca, .slice b lb cb]] w fun e w' => FRes w' w.heap.size e (fracOk bl xs ys && lowB (flN bl (val xs) (val ys)) 1) bl (flN bl (val xs) (val ys)) 1 ∧ Below w.heap.size w w' := by
  have e0 : Below w.heap.size w ((w.alloc (.cells #[.bool bl, .slice a la ca, .slice b lb cb] 26)).alloc (.cells #[.bool false, .slice none 0 0, .slice none 0 0] 26)) := (by repeat (first | exact Below.refl _ _ | refine Below.drew ?_ | refine old_alloc ?_ _ | refine old_trans ?_ (by assumption)))
  have K2 := Cel3.new (w.alloc (.cells #[.bool bl, .slice a la ca, .slice b lb cb] 26)) (.bool false) (.slice none 0 0) (.slice none 0 0) 26
  simp only [World.size_alloc] at K2
  have O : Hid (Calls Tryz.prog 26 #[.agg #[.bool bl, .slice a la ca, .slice b lb cb], .func (.func 41) #[] #[]] ((w.alloc (.cells #[.bool bl, .slice a la ca, .slice b lb cb] 26)).alloc (.cells #[.bool false, .slice none 0 0, .slice none 0 0] 26)) fun e w' => FRes w' ((w.alloc (.cells #[.bool bl, .slice a la ca, .slice b lb cb] 26)).alloc (.cells #[.bool false, .slice none 0 0, .slice none 0 0] 26)).heap.size e (fracOk bl xs ys && lowB (flN bl (val xs) (val ys)) 1) bl (flN bl (val xs) (val ys)) 1 ∧ Below ((w.alloc (.cells #[.bool bl, .slice a la ca, .slice b lb cb] 26)).alloc (.cells #[.bool false, .slice none 0 0, .slice none 0 0] 26)).heap.size ((w.alloc (.cells #[.bool bl, .slice a la ca, .slice b lb cb] 26)).alloc (.cells #[.bool false, .slice none 0 0, .slice none 0 0] 26)) w') := by
    show Calls _ _ _ _ _
    cases hf : fracOk bl xs ys
    · have h := iOfOne 41 #[] bl a b la lb ca cb xs ys _ (hA.old e0) (hB.old e0) (hT.old e0) (hE.old e0) (enters_of Tryz.func41 (by kernel_rfl) rfl) true false 0 0 (by rw [natL_zero]; simp) (by rw [natL_zero]; simp) (fun h => by rw [hf] at h; cases h)
      rw [hf] at h
      refine h.mono ?_
      rintro e w' ⟨h1, h2⟩
      exact ⟨FRes.any h1, h2⟩
    · have q := fracOk_in hf
      have h := iOfOne 41 #[] bl a b la lb ca cb xs ys _ (hA.old e0) (hB.old e0) (hT.old e0) (hE.old e0) (enters_of Tryz.func41 (by kernel_rfl) rfl) true bl (flN bl (val xs) (val ys)) 1 (flN_len q.1) (by rw [natL_one]; simp) (fun hf W hW => iFloor bl a b la lb ca cb xs ys W ((hA.old e0).old hW) ((hB.old e0).old hW) hf)
      rw [hf] at h
      simp only [Bool.true_and] at h ⊢
      exact h
  clear hA hB hT hE
  generalize (fracOk bl xs ys && lowB (flN bl (val xs) (val ys)) 1) = okk at *
  generalize (flN bl (val xs) (val ys)) = N at *
  go_enter Tryz.func17, Tryz.ntmps17
  go_wp2_with fail
  refine O.out.mono ?_
  rintro e w1 ⟨⟨av, cv, av', cv', rfl, hO, hO', hS⟩, hb1⟩
  have hs0 := K2.1
  replace K2 := K2.old hb1
  have hB1 := old_trans e0 hb1
  obtain ⟨m1, ⟨m2, m3, m4⟩, m5, m6, m7⟩ := id K2
  have hfin := hd (FRes.put (w' := w1) (s := bl) (base := w.heap.size) hO hO' hS (show w.heap.size ≤ ((w.alloc (.cells #[.bool bl, .slice a la ca, .slice b lb cb] 26)).alloc (.cells #[.bool false, .slice none 0 0, .slice none 0 0] 26)).heap.size by simp; omega) (show w.heap.size + 1 < _ from hs0))
  have hK := K2.setAll (.bool (fS okk bl N)) (.slice av (fT okk N 1).length cv) (.slice av' (fU okk N 1).length cv')
  have hBF := below_set (below_set (below_set hB1 (show w.heap.size ≤ w.heap.size + 1 by omega) (i := 0) (.bool (fS okk bl N))) (show w.heap.size ≤ w.heap.size + 1 by omega) (i := 1) (.slice av (fT okk N 1).length cv)) (show w.heap.size ≤ w.heap.size + 1 by omega) (i := 2) (.slice av' (fU okk N 1).length cv')
  clear hO hO' hS hb1 O e0 hs0
  generalize hsg : fS okk bl N = sg at *
  go_wp2
  exact bodyPost_ret (resFracFloor hK rfl rfl) rfl ⟨hfin.out, hBF⟩
end Go.Proofs.YtbcdeddbkckaeaaGreatDoor
