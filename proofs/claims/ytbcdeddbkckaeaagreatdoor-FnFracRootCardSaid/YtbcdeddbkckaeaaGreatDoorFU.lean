/- Sums of two ratios, from nothing on: the program. Conditions: digits, 1024 at most; a ratio that is below 0 is not 0. -/
import Derived.Test.YtbcdeddbkckaeaaGreatDoorFT
import Derived.LoopN
namespace Go.Proofs.YtbcdeddbkckaeaaGreatDoor
open Go.RowKit
set_option linter.unusedVariables false
set_option maxRecDepth 100000

def sumS (bl bm : Bool) (x y : Nat) : Bool := if bl = bm then bl else if x < y then bm else bl
def sumN (bl bm : Bool) (x y : Nat) : Nat := if bl = bm then x + y else if x < y then y - x else x - y
theorem iPlusR (bl : Bool) (a b : Option Addr) (la lb ca cb : Nat) (xs ys : List Int) (bm : Bool) (c d : Option Addr) (lc ld cc cd : Nat) (us vs : List Int) (w : World) (hA : InI w a la ca xs) (hB : InI w b lb cb ys) (hC : InI w c lc cc us) (hD : InI w d ld cd vs) (dx : digs xs) (dy : digs ys) (du : digs us) (dv : digs vs) (la1 : la ≤ 1024) (lb1 : lb ≤ 1024) (lc1 : lc ≤ 1024) (ld1 : ld ≤ 1024) :
    Calls Tryz.prog 69 #[.agg #[.bool bl, .slice a la ca, .slice b lb cb], .agg #[.bool bm, .slice c lc cc, .slice d ld cd]] w fun e w' => (∃ a1 c1 a2 c2, e = .returned (.agg #[.bool (sumS bl bm (val xs * val vs) (val us * val ys)), .slice a1 (natL (sumN bl bm (val xs * val vs) (val us * val ys))).length c1, .slice a2 (natL (val ys * val vs)).length c2]) ∧ OI w' w.heap.size a1 c1 (natL (sumN bl bm (val xs * val vs) (val us * val ys))) ∧ OI w' w.heap.size a2 c2 (natL (val ys * val vs))) ∧ Below w.heap.size w w' := by
  by_cases h : bl = bm
  · subst h
    have := iPlusSame bl a b la lb ca cb xs ys c d lc ld cc cd us vs w hA hB hC hD dx dy du dv la1 lb1 lc1 ld1 _ _ _ rfl rfl rfl
    unfold sumS sumN
    rw [if_pos rfl, if_pos rfl]
    exact this
  · obtain rfl : bm = !bl := by cases bl <;> cases bm <;> simp_all
    unfold sumS sumN
    rw [if_neg h, if_neg h]
    by_cases hlt : val xs * val vs < val us * val ys
    · rw [if_pos hlt, if_pos hlt]
      exact iPlusLess bl a b la lb ca cb xs ys c d lc ld cc cd us vs w hA hB hC hD dx dy du dv la1 lb1 lc1 ld1 _ _ _ rfl rfl rfl hlt
    · rw [if_neg hlt, if_neg hlt]
      refine iPlusMore bl a b la lb ca cb xs ys c d lc ld cc cd us vs w hA hB hC hD dx dy du dv la1 lb1 lc1 ld1 _ _ _ rfl rfl rfl (by omega) _ rfl ?_
      unfold cmpI
      rw [if_neg hlt]
      split <;> omega
theorem resWhole {W : World} {b : Nat} {v0 v1 v2 : Value} {tmps : Array Value} (h : Cel3 W b v0 v1 v2) (ht : tmps[4]? = some (.pointer (some ⟨b, 0, none⟩))) : (results Tryz.f66 tmps).run Tryz.prog W = .ok (.agg #[v0, v1, v2]) W := by
  obtain ⟨h1, ⟨a0, a1, a2⟩, -⟩ := h
  simp [results, Tryz.results66, go_sem, a0, a1, a2, ht]
set_option maxHeartbeats 2000000 in
theorem iWhole (s : Bool) (a : Option Addr) (l k : Nat) (w : World) : Calls Tryz.prog 66 #[.bool s, .slice a l k] w fun e w' => (∃ av cv, e = .returned (.agg #[.bool s, .slice a l k, .slice av (natL 1).length cv]) ∧ OI w' w.heap.size av cv (natL 1)) ∧ Below w.heap.size w w' := by
  have e0 : Below w.heap.size w (w.alloc (.cells #[.bool false, .slice none 0 0, .slice none 0 0] 53)) := (by repeat (first | exact Below.refl _ _ | refine Below.drew ?_ | refine old_alloc ?_ _ | refine old_trans ?_ (by assumption)))
  have K := Cel3.new w (.bool false) (.slice none 0 0) (.slice none 0 0) 53
  have O := hd iOne
  generalize natL 1 = ol at *
  go_enter Tryz.func66, Tryz.ntmps66
  go_wp2_with fail
  refine (O.out _).mono ?_
  rintro e w1 ⟨⟨av, cv, rfl, hO⟩, hb1⟩
  have hs0 := K.1
  replace K := K.old hb1
  have hB1 := old_trans e0 hb1
  obtain ⟨m1, ⟨m2, m3, m4⟩, m5, m6, m7⟩ := id K
  have o1 := (oi_set3 (v0 := .bool s) (v1 := .slice a l k) (v2 := .slice av ol.length cv) hO hs0).mono e0.size
  clear hO
  go_wp2
  exact bodyPost_ret (resWhole (K.setAll (.bool s) (.slice a l k) (.slice av ol.length cv)) rfl) rfl ⟨⟨_, _, rfl, o1⟩, below_set (below_set (below_set hB1 (by omega) _) (by omega) _) (by omega) _⟩
theorem ini_nil (w : World) : InI w none 0 0 [] := ⟨rfl, Nat.le_refl _, Nat.zero_le _, fun x hx => absurd hx (by simp), .inl rfl⟩
/-- six cells of a block -/
def Cel6 (w : World) (p : Nat) (v0 v1 v2 v3 v4 v5 : Value) : Prop := p < w.heap.size ∧ w.cell? ⟨p, 0, none⟩ = some v0 ∧ w.cell? ⟨p, 1, none⟩ = some v1 ∧ w.cell? ⟨p, 2, none⟩ = some v2 ∧ w.cell? ⟨p, 3, none⟩ = some v3 ∧ w.cell? ⟨p, 4, none⟩ = some v4 ∧ w.cell? ⟨p, 5, none⟩ = some v5
theorem Cel6.old {w w' : World} {p : Nat} {v0 v1 v2 v3 v4 v5 : Value} (h : Cel6 w p v0 v1 v2 v3 v4 v5) (g : Below w.heap.size w w') : Cel6 w' p v0 v1 v2 v3 v4 v5 := by
  obtain ⟨h0, a0, a1, a2, a3, a4, a5⟩ := h
  exact ⟨Nat.lt_of_lt_of_le h0 g.size, (g.cell (p := ⟨p, 0, none⟩) h0).trans a0, (g.cell (p := ⟨p, 1, none⟩) h0).trans a1, (g.cell (p := ⟨p, 2, none⟩) h0).trans a2, (g.cell (p := ⟨p, 3, none⟩) h0).trans a3, (g.cell (p := ⟨p, 4, none⟩) h0).trans a4, (g.cell (p := ⟨p, 5, none⟩) h0).trans a5⟩
theorem resSummed {W : World} {b : Nat} {v0 v1 v2 : Value} {tmps : Array Value} (h : Cel3 W b v0 v1 v2) (ht : tmps[2]? = some (.pointer (some ⟨b, 0, none⟩))) : (results Tryz.f46 tmps).run Tryz.prog W = .ok (.agg #[v0, v1, v2]) W := by
  obtain ⟨h1, ⟨a0, a1, a2⟩, -⟩ := h
  simp [results, Tryz.results46, go_sem, a0, a1, a2, ht]
set_option maxHeartbeats 16000000 in
theorem iSummed2 (bl : Bool) (a b : Option Addr) (la lb ca cb : Nat) (xs ys : List Int) (bm : Bool) (c d : Option Addr) (lc ld cc cd : Nat) (us vs : List Int) (w : World) (p : Nat) (hP : Cel6 w p (.bool bl) (.slice a la ca) (.slice b lb cb) (.bool bm) (.slice c lc cc) (.slice d ld cd)) (hA : InI w a la ca xs) (hB : InI w b lb cb ys) (hC : InI w c lc cc us) (hD : InI w d ld cd vs) (dx : digs xs) (dy : digs ys) (du : digs us) (dv : digs vs) (la1 : la ≤ 1024) (lb1 : lb ≤ 1024) (lc1 : lc ≤ 1024) (ld1 : ld ≤ 1024) (tx : topped xs) (ty : topped ys) (hbl : bl = true → val xs ≠ 0) :
    Calls Tryz.prog 46 #[.slice (some ⟨p, 0, none⟩) 2 2] w fun e w' => (∃ a1 c1 a2 c2, e = .returned (.agg #[.bool (sumS bl bm (val xs * val vs) (val us * val ys)), .slice a1 (natL (sumN bl bm (val xs * val vs) (val us * val ys))).length c1, .slice a2 (natL (val ys * val vs)).length c2]) ∧ OI w' w.heap.size a1 c1 (natL (sumN bl bm (val xs * val vs) (val us * val ys))) ∧ OI w' w.heap.size a2 c2 (natL (val ys * val vs))) ∧ Below w.heap.size w w' := by
  have e0 : Below w.heap.size w (w.alloc (.cells #[.bool false, .slice none 0 0, .slice none 0 0] 53)) := (by repeat (first | exact Below.refl _ _ | refine Below.drew ?_ | refine old_alloc ?_ _ | refine old_trans ?_ (by assumption)))
  have K := Cel3.new w (.bool false) (.slice none 0 0) (.slice none 0 0) 53
  have WH := hd (fun w' => iWhole false none 0 0 w')
  have hpl := hP.1
  have eA := natL_canon dx tx
  have eB := natL_canon dy ty
  have hs1 : sumS false bl (val [] * val ys) (val xs * val (natL 1)) = bl := by
    rw [val_natL, Nat.mul_one]
    unfold sumS
    simp only [val, Nat.zero_mul]
    cases bl
    · rfl
    · rw [if_neg (by simp), if_pos (Nat.pos_of_ne_zero (hbl rfl))]
  have hn1 : sumN false bl (val [] * val ys) (val xs * val (natL 1)) = val xs := by
    rw [val_natL, Nat.mul_one]
    unfold sumN
    simp only [val, Nat.zero_mul]
    cases bl
    · simp
    · rw [if_neg (by simp), if_pos (Nat.pos_of_ne_zero (hbl rfl))]; omega
  have hb1' : val (natL 1) * val ys = val ys := by rw [val_natL, Nat.one_mul]
  have P1 := hd (fun av cv base w' (h : Below w.heap.size w w') (hO : OI w' base av cv (natL 1)) => iPlusR false none av 0 (natL 1).length 0 cv [] (natL 1) bl a b la lb ca cb xs ys w' (ini_nil w') hO.inI (hA.old h) (hB.old h) digs_nil (digs_natL 1) dx dy (by omega) (by rw [natL_one]; simp) la1 lb1)
  simp only [hs1, hn1, hb1', eA, eB] at P1
  obtain rfl : xs.length = la := hA.1
  obtain rfl : ys.length = lb := hB.1
  have P2 := hd (fun a1 c1 a2 c2 base base' w' (h : Below w.heap.size w w') (h1 : OI w' base a1 c1 xs) (h2 : OI w' base' a2 c2 ys) => iPlusR bl a1 a2 xs.length ys.length c1 c2 xs ys bm c d lc ld cc cd us vs w' h1.inI h2.inI (hC.old h) (hD.old h) dx dy du dv la1 lb1 lc1 ld1)
  clear hA hB hC hD dx dy du dv la1 lb1 lc1 ld1 tx ty hbl eA eB hs1 hn1 hb1'
  generalize sumS bl bm (val xs * val vs) (val us * val ys) = s2 at *
  generalize natL (sumN bl bm (val xs * val vs) (val us * val ys)) = tl at *
  generalize natL (val ys * val vs) = ul at *
  generalize natL 1 = ol at *
  generalize xs.length = la at *
  generalize ys.length = lb at *
  go_enter Tryz.func46, Tryz.ntmps46
  go_wp2_with fail
  refine (WH.out _).mono ?_
  rintro e w1 ⟨⟨av1, cv1, rfl, hO1⟩, hb1⟩
  have hB1 := old_trans e0 hb1
  replace K := K.old hb1
  have hn0 := K.1
  have al1 : Below w1.heap.size w1 (w1.alloc (.cells #[.bool false, .slice none 0 0, .slice av1 ol.length cv1] 53)) := old_alloc (Below.refl _ _) _
  have KS := Cel3.new w1 (.bool false) (.slice none 0 0) (.slice av1 ol.length cv1) 53
  replace K := K.old al1
  have hB2 := old_trans hB1 al1
  have O1 := hO1.later al1
  have hs2 := hB1.size
  have hks0 : w.heap.size < w1.heap.size := hn0
  generalize hks : w1.heap.size = ks at *
  generalize hW2 : w1.alloc (.cells #[.bool false, .slice none 0 0, .slice av1 ol.length cv1] 53) = W2 at *
  obtain ⟨x0, x1, x2, x3, x4, x5, x6⟩ := hP.old hB2
  obtain ⟨k1, ⟨k2, k3, k4⟩, k5, k6, k7⟩ := id KS
  clear hb1 al1 e0 WH hO1 hB1
  go_wp2_with fail
  refine wp_loop_rounds 3 ?_
  rw [rounds_succ]
  go_wp2_with fail
  have al3 : Below W2.heap.size W2 (W2.alloc (.cells #[.bool bl, .slice a la ca, .slice b lb cb] 53)) := old_alloc (Below.refl _ _) _
  have hBa3 := old_trans hB2 al3
  have hz3 : ks < (W2.alloc (.cells #[.bool bl, .slice a la ca, .slice b lb cb] 53)).heap.size := Nat.lt_of_lt_of_le KS.1 al3.size
  refine (P1.out _ _ _ _ (old_trans hB2 al3) (O1.later al3)).mono ?_
  rintro e v3 ⟨⟨a3, c3, b3, d3, rfl, hX3, hY3⟩, hb3⟩
  replace K := (((K.old al3).old hb3).far (c := ks) (i := 0) (v := .bool bl) (by omega)).far (c := ks) (i := 1) (v := .slice a3 la c3) (by omega)
  replace K := K.far (c := ks) (i := 2) (v := .slice b3 lb d3) (by omega)
  have KT := (KS.old al3).old hb3
  replace KS := KT.setAll (.bool bl) (.slice a3 la c3) (.slice b3 lb d3)
  have oX3 := oi_set3 (v0 := .bool bl) (v1 := .slice a3 la c3) (v2 := .slice b3 lb d3) hX3 hz3
  have oY3 := oi_set3 (v0 := .bool bl) (v1 := .slice a3 la c3) (v2 := .slice b3 lb d3) hY3 hz3
  have hBs3 : Below w.heap.size w (((v3.setCell ⟨ks, 0, none⟩ (.bool bl)).setCell ⟨ks, 1, none⟩ (.slice a3 la c3)).setCell ⟨ks, 2, none⟩ (.slice b3 lb d3)) := below_set (below_set (below_set (old_trans hBa3 hb3) hs2 _) hs2 _) hs2 _
  have hbase3 := Nat.lt_trans hks0 hz3
  clear x0 x1 x2 x3 x4 x5 x6 k1 k2 k3 k4 k5 k6 k7 hX3 hY3 hb3 al3
  obtain ⟨r1, ⟨r2, r3, r4⟩, r5, r6, r7⟩ := id KT
  clear KT
  generalize hW4 : ((v3.setCell ⟨ks, 0, none⟩ (.bool bl)).setCell ⟨ks, 1, none⟩ (.slice a3 la c3)).setCell ⟨ks, 2, none⟩ (.slice b3 lb d3) = W4 at *
  obtain ⟨x0, x1, x2, x3, x4, x5, x6⟩ := hP.old hBs3
  obtain ⟨k1, ⟨k2, k3, k4⟩, k5, k6, k7⟩ := id KS
  go_wp2_with fail
  clear r1 r2 r3 r4 r5 r6 r7 hW4
  rw [rounds_succ]
  go_wp2_with fail
  have al5 : Below W4.heap.size W4 (W4.alloc (.cells #[.bool bm, .slice c lc cc, .slice d ld cd] 53)) := old_alloc (Below.refl _ _) _
  have hBa5 := old_trans hBs3 al5
  have hz5 : ks < (W4.alloc (.cells #[.bool bm, .slice c lc cc, .slice d ld cd] 53)).heap.size := Nat.lt_of_lt_of_le KS.1 al5.size
  refine (P2.out _ _ _ _ _ _ _ (old_trans hBs3 al5) (oX3.later al5) (oY3.later al5)).mono ?_
  rintro e v5 ⟨⟨a5, c5, b5, d5, rfl, hX5, hY5⟩, hb5⟩
  replace K := (((K.old al5).old hb5).far (c := ks) (i := 0) (v := .bool s2) (by omega)).far (c := ks) (i := 1) (v := .slice a5 tl.length c5) (by omega)
  replace K := K.far (c := ks) (i := 2) (v := .slice b5 ul.length d5) (by omega)
  have KT := (KS.old al5).old hb5
  replace KS := KT.setAll (.bool s2) (.slice a5 tl.length c5) (.slice b5 ul.length d5)
  have oX5 := oi_set3 (v0 := .bool s2) (v1 := .slice a5 tl.length c5) (v2 := .slice b5 ul.length d5) hX5 hz5
  have oY5 := oi_set3 (v0 := .bool s2) (v1 := .slice a5 tl.length c5) (v2 := .slice b5 ul.length d5) hY5 hz5
  have hBs5 : Below w.heap.size w (((v5.setCell ⟨ks, 0, none⟩ (.bool s2)).setCell ⟨ks, 1, none⟩ (.slice a5 tl.length c5)).setCell ⟨ks, 2, none⟩ (.slice b5 ul.length d5)) := below_set (below_set (below_set (old_trans hBa5 hb5) hs2 _) hs2 _) hs2 _
  have hbase5 := Nat.lt_trans hks0 hz5
  clear x0 x1 x2 x3 x4 x5 x6 k1 k2 k3 k4 k5 k6 k7 hX5 hY5 hb5 al5
  obtain ⟨r1, ⟨r2, r3, r4⟩, r5, r6, r7⟩ := id KT
  clear KT
  generalize hW6 : ((v5.setCell ⟨ks, 0, none⟩ (.bool s2)).setCell ⟨ks, 1, none⟩ (.slice a5 tl.length c5)).setCell ⟨ks, 2, none⟩ (.slice b5 ul.length d5) = W6 at *
  obtain ⟨x0, x1, x2, x3, x4, x5, x6⟩ := hP.old hBs5
  obtain ⟨k1, ⟨k2, k3, k4⟩, k5, k6, k7⟩ := id KS
  go_wp2_with fail
  clear r1 r2 r3 r4 r5 r6 r7 hW6
  obtain ⟨m1, ⟨m2, m3, m4⟩, m5, m6, m7⟩ := id K
  have o1 := (oi_set3 (v0 := .bool s2) (v1 := .slice a5 tl.length c5) (v2 := .slice b5 ul.length d5) oX5 hbase5).mono (Nat.le_of_lt hbase5)
  have o2 := (oi_set3 (v0 := .bool s2) (v1 := .slice a5 tl.length c5) (v2 := .slice b5 ul.length d5) oY5 hbase5).mono (Nat.le_of_lt hbase5)
  have hK := K.setAll (.bool s2) (.slice a5 tl.length c5) (.slice b5 ul.length d5)
  rw [rounds_succ]
  go_wp2
  exact bodyPost_ret (resSummed hK rfl) rfl ⟨⟨_, _, _, _, rfl, o1, o2⟩, below_set (below_set (below_set hBs5 (Nat.le_refl _) _) (Nat.le_refl _) _) (Nat.le_refl _) _⟩
end Go.Proofs.YtbcdeddbkckaeaaGreatDoor
