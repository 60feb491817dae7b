/- Sums of four ratios, from nothing on: the program. Conditions: 256 digits at most; a first ratio that is below 0 is not 0. -/
import Derived.Test.YtgoffjpfddmhhaaGreatDoorPK18
namespace Go.Proofs.YtgoffjpfddmhhaaGreatDoor
open Go.RowKit
set_option linter.unusedVariables false
set_option maxRecDepth 100000

/-- twelve cells of a block -/
def Cel12 (w : World) (p : Nat) (v0 v1 v2 v3 v4 v5 v6 v7 v8 v9 v10 v11 : Value) : Prop := p < w.heap.size ∧ w.cell? ⟨p, 0, none⟩ = some v0 ∧ w.cell? ⟨p, 1, none⟩ = some v1 ∧ w.cell? ⟨p, 2, none⟩ = some v2 ∧ w.cell? ⟨p, 3, none⟩ = some v3 ∧ w.cell? ⟨p, 4, none⟩ = some v4 ∧ w.cell? ⟨p, 5, none⟩ = some v5 ∧ w.cell? ⟨p, 6, none⟩ = some v6 ∧ w.cell? ⟨p, 7, none⟩ = some v7 ∧ w.cell? ⟨p, 8, none⟩ = some v8 ∧ w.cell? ⟨p, 9, none⟩ = some v9 ∧ w.cell? ⟨p, 10, none⟩ = some v10 ∧ w.cell? ⟨p, 11, none⟩ = some v11
theorem Cel12.old {w w' : World} {p : Nat} {v0 v1 v2 v3 v4 v5 v6 v7 v8 v9 v10 v11 : Value} (h : Cel12 w p v0 v1 v2 v3 v4 v5 v6 v7 v8 v9 v10 v11) (g : Below w.heap.size w w') : Cel12 w' p v0 v1 v2 v3 v4 v5 v6 v7 v8 v9 v10 v11 := by
  obtain ⟨h0, a0, a1, a2, a3, a4, a5, a6, a7, a8, a9, a10, a11⟩ := h
  exact ⟨Nat.lt_of_lt_of_le h0 g.size, (g.cell (p := ⟨p, 0, none⟩) h0).trans a0, (g.cell (p := ⟨p, 1, none⟩) h0).trans a1, (g.cell (p := ⟨p, 2, none⟩) h0).trans a2, (g.cell (p := ⟨p, 3, none⟩) h0).trans a3, (g.cell (p := ⟨p, 4, none⟩) h0).trans a4, (g.cell (p := ⟨p, 5, none⟩) h0).trans a5, (g.cell (p := ⟨p, 6, none⟩) h0).trans a6, (g.cell (p := ⟨p, 7, none⟩) h0).trans a7, (g.cell (p := ⟨p, 8, none⟩) h0).trans a8, (g.cell (p := ⟨p, 9, none⟩) h0).trans a9, (g.cell (p := ⟨p, 10, none⟩) h0).trans a10, (g.cell (p := ⟨p, 11, none⟩) h0).trans a11⟩
theorem len_mul {a b i j : Nat} (ha : (natL a).length ≤ i) (hb : (natL b).length ≤ j) : (natL (a * b)).length ≤ i + j := by
  rw [natL_len] at *
  rw [Nat.pow_add]
  exact Nat.mul_lt_mul'' ha hb
theorem len_sum {s t : Bool} {a b k : Nat} (ha : (natL a).length ≤ k) (hb : (natL b).length ≤ k) : (natL (sumN s t a b)).length ≤ k + 1 := by
  rw [natL_len] at *
  have e : (65536 : Nat) ^ (k + 1) = 65536 ^ k * 65536 := Nat.pow_succ ..
  unfold sumN
  (repeat' split) <;> omega
theorem len_le {a i j : Nat} (ha : (natL a).length ≤ i) (h : i ≤ j) : (natL a).length ≤ j := Nat.le_trans ha h
/-- the numbers of a sum of four -/
def su2S (b1 b2 : Bool) (A1 B1 A2 B2 : Nat) : Bool := sumS b1 b2 (A1 * B2) (A2 * B1)
def su2N (b1 b2 : Bool) (A1 B1 A2 B2 : Nat) : Nat := sumN b1 b2 (A1 * B2) (A2 * B1)
def su4S (b1 b2 b3 b4 : Bool) (A1 B1 A2 B2 A3 B3 A4 B4 : Nat) : Bool := su2S (su2S (su2S b1 b2 A1 B1 A2 B2) b3 (su2N b1 b2 A1 B1 A2 B2) (B1 * B2) A3 B3) b4 (su2N (su2S b1 b2 A1 B1 A2 B2) b3 (su2N b1 b2 A1 B1 A2 B2) (B1 * B2) A3 B3) (B1 * B2 * B3) A4 B4
def su4N (b1 b2 b3 b4 : Bool) (A1 B1 A2 B2 A3 B3 A4 B4 : Nat) : Nat := su2N (su2S (su2S b1 b2 A1 B1 A2 B2) b3 (su2N b1 b2 A1 B1 A2 B2) (B1 * B2) A3 B3) b4 (su2N (su2S b1 b2 A1 B1 A2 B2) b3 (su2N b1 b2 A1 B1 A2 B2) (B1 * B2) A3 B3) (B1 * B2 * B3) A4 B4
theorem iPlusQ (bl : Bool) (a b : Option Addr) (ca cb A B : Nat) (bm : Bool) (c d : Option Addr) (cc cd A' B' : Nat) (w : World) (hA : InI w a (natL A).length ca (natL A)) (hB : InI w b (natL B).length cb (natL B)) (hC : InI w c (natL A').length cc (natL A')) (hD : InI w d (natL B').length cd (natL B')) (la1 : (natL A).length ≤ 1024) (lb1 : (natL B).length ≤ 1024) (lc1 : (natL A').length ≤ 1024) (ld1 : (natL B').length ≤ 1024) :
    Calls Tryz.prog 167 #[.agg #[.bool bl, .slice a (natL A).length ca, .slice b (natL B).length cb], .agg #[.bool bm, .slice c (natL A').length cc, .slice d (natL B').length cd]] w fun e w' => (∃ a1 c1 a2 c2, e = .returned (.agg #[.bool (su2S bl bm A B A' B'), .slice a1 (natL (su2N bl bm A B A' B')).length c1, .slice a2 (natL (B * B')).length c2]) ∧ OI w' w.heap.size a1 c1 (natL (su2N bl bm A B A' B')) ∧ OI w' w.heap.size a2 c2 (natL (B * B'))) ∧ Below w.heap.size w w' := by
  have h := iPlusR bl a b _ _ ca cb _ _ bm c d _ _ cc cd _ _ w hA hB hC hD (digs_natL A) (digs_natL B) (digs_natL A') (digs_natL B') la1 lb1 lc1 ld1
  simp only [val_natL] at h
  exact h
set_option maxHeartbeats 16000000 in
theorem iSummed4 (b1 : Bool) (x1 y1 : Option Addr) (kk1 ll1 A1 B1 : Nat) (b2 : Bool) (x2 y2 : Option Addr) (kk2 ll2 A2 B2 : Nat) (b3 : Bool) (x3 y3 : Option Addr) (kk3 ll3 A3 B3 : Nat) (b4 : Bool) (x4 y4 : Option Addr) (kk4 ll4 A4 B4 : Nat) (w : World) (p : Nat) (hP : Cel12 w p (.bool b1) (.slice x1 (natL A1).length kk1) (.slice y1 (natL B1).length ll1) (.bool b2) (.slice x2 (natL A2).length kk2) (.slice y2 (natL B2).length ll2) (.bool b3) (.slice x3 (natL A3).length kk3) (.slice y3 (natL B3).length ll3) (.bool b4) (.slice x4 (natL A4).length kk4) (.slice y4 (natL B4).length ll4)) (hA1 : InI w x1 (natL A1).length kk1 (natL A1)) (hB1 : InI w y1 (natL B1).length ll1 (natL B1)) (m1 : (natL A1).length ≤ 256) (n1 : (natL B1).length ≤ 256) (hA2 : InI w x2 (natL A2).length kk2 (natL A2)) (hB2 : InI w y2 (natL B2).length ll2 (natL B2)) (m2 : (natL A2).length ≤ 256) (n2 : (natL B2).length ≤ 256) (hA3 : InI w x3 (natL A3).length kk3 (natL A3)) (hB3 : InI w y3 (natL B3).length ll3 (natL B3)) (m3 : (natL A3).length ≤ 256) (n3 : (natL B3).length ≤ 256) (hA4 : InI w x4 (natL A4).length kk4 (natL A4)) (hB4 : InI w y4 (natL B4).length ll4 (natL B4)) (m4 : (natL A4).length ≤ 256) (n4 : (natL B4).length ≤ 256) (hbl : b1 = true → A1 ≠ 0) :
    Calls Tryz.prog 156 #[.slice (some ⟨p, 0, none⟩) 4 4] w fun e w' => (∃ a1 c1 a2 c2, e = .returned (.agg #[.bool (su4S b1 b2 b3 b4 A1 B1 A2 B2 A3 B3 A4 B4), .slice a1 (natL (su4N b1 b2 b3 b4 A1 B1 A2 B2 A3 B3 A4 B4)).length c1, .slice a2 (natL (B1 * B2 * B3 * B4)).length c2]) ∧ OI w' w.heap.size a1 c1 (natL (su4N b1 b2 b3 b4 A1 B1 A2 B2 A3 B3 A4 B4)) ∧ OI w' w.heap.size a2 c2 (natL (B1 * B2 * B3 * B4))) ∧ Below w.heap.size w w' := by
  have e0 : Below w.heap.size w (w.alloc (.cells #[.bool false, .slice none 0 0, .slice none 0 0] 84)) := (by repeat (first | exact Below.refl _ _ | refine Below.drew ?_ | refine old_alloc ?_ _ | refine old_trans ?_ (by assumption)))
  have K := Cel3.new w (.bool false) (.slice none 0 0) (.slice none 0 0) 84
  have WH := hd (fun w' => iWhole false none 0 0 w')
  have hpl := hP.1
  have hs1 : su2S false b1 0 1 A1 B1 = b1 := by
    unfold su2S sumS
    simp only [Nat.zero_mul, Nat.mul_one]
    cases b1
    · rfl
    · rw [if_neg (by simp), if_pos (Nat.pos_of_ne_zero (hbl rfl))]
  have hn1 : su2N false b1 0 1 A1 B1 = A1 := by
    unfold su2N sumN
    simp only [Nat.zero_mul, Nat.mul_one]
    cases b1
    · simp
    · rw [if_neg (by simp), if_pos (Nat.pos_of_ne_zero (hbl rfl))]; omega
  have q2 : (natL (su2N b1 b2 A1 B1 A2 B2)).length ≤ 513 := len_sum (k := 512) (len_mul m1 n2) (len_mul m2 n1)
  have r2 : (natL (B1 * B2)).length ≤ 512 := len_mul n1 n2
  have q3 : (natL (su2N (su2S b1 b2 A1 B1 A2 B2) b3 (su2N b1 b2 A1 B1 A2 B2) (B1 * B2) A3 B3)).length ≤ 770 := len_sum (k := 769) (len_mul q2 n3) (len_le (len_mul m3 r2) (by omega))
  have r3 : (natL (B1 * B2 * B3)).length ≤ 768 := len_mul r2 n3
  have P1 := hd (fun av cv base w' (h : Below w.heap.size w w') (hO : OI w' base av cv (natL 1)) => iPlusQ false none av 0 cv 0 1 b1 x1 y1 kk1 ll1 A1 B1 w' (by rw [natL_zero]; exact ini_nil w') hO.inI (hA1.old h) (hB1.old h) (by rw [natL_zero]; simp) (by rw [natL_one]; simp) (by omega) (by omega))
  rw [hs1, hn1, Nat.one_mul, natL_zero] at P1
  have P2 := hd (fun a1 c1 a2 c2 base base' w' (h : Below w.heap.size w w') (h1 : OI w' base a1 c1 (natL A1)) (h2 : OI w' base' a2 c2 (natL B1)) => iPlusQ b1 a1 a2 c1 c2 A1 B1 b2 x2 y2 kk2 ll2 A2 B2 w' h1.inI h2.inI (hA2.old h) (hB2.old h) (by omega) (by omega) (by omega) (by omega))
  have P3 := hd (fun a1 c1 a2 c2 base base' w' (h : Below w.heap.size w w') (h1 : OI w' base a1 c1 (natL (su2N b1 b2 A1 B1 A2 B2))) (h2 : OI w' base' a2 c2 (natL (B1 * B2))) => iPlusQ (su2S b1 b2 A1 B1 A2 B2) a1 a2 c1 c2 (su2N b1 b2 A1 B1 A2 B2) (B1 * B2) b3 x3 y3 kk3 ll3 A3 B3 w' h1.inI h2.inI (hA3.old h) (hB3.old h) (by omega) (by omega) (by omega) (by omega))
  have P4 := hd (fun a1 c1 a2 c2 base base' w' (h : Below w.heap.size w w') (h1 : OI w' base a1 c1 (natL (su2N (su2S b1 b2 A1 B1 A2 B2) b3 (su2N b1 b2 A1 B1 A2 B2) (B1 * B2) A3 B3))) (h2 : OI w' base' a2 c2 (natL (B1 * B2 * B3))) => iPlusQ (su2S (su2S b1 b2 A1 B1 A2 B2) b3 (su2N b1 b2 A1 B1 A2 B2) (B1 * B2) A3 B3) a1 a2 c1 c2 (su2N (su2S b1 b2 A1 B1 A2 B2) b3 (su2N b1 b2 A1 B1 A2 B2) (B1 * B2) A3 B3) (B1 * B2 * B3) b4 x4 y4 kk4 ll4 A4 B4 w' h1.inI h2.inI (hA4.old h) (hB4.old h) (by omega) (by omega) (by omega) (by omega))

  unfold su4S su4N
  clear hA1 hB1 m1 n1 hA2 hB2 m2 n2 hA3 hB3 m3 n3 hA4 hB4 m4 n4 hbl q2 r2 q3 r3 hs1 hn1
  generalize su2S (su2S (su2S b1 b2 A1 B1 A2 B2) b3 (su2N b1 b2 A1 B1 A2 B2) (B1 * B2) A3 B3) b4 (su2N (su2S b1 b2 A1 B1 A2 B2) b3 (su2N b1 b2 A1 B1 A2 B2) (B1 * B2) A3 B3) (B1 * B2 * B3) A4 B4 = s4 at *
  generalize su2N (su2S (su2S b1 b2 A1 B1 A2 B2) b3 (su2N b1 b2 A1 B1 A2 B2) (B1 * B2) A3 B3) b4 (su2N (su2S b1 b2 A1 B1 A2 B2) b3 (su2N b1 b2 A1 B1 A2 B2) (B1 * B2) A3 B3) (B1 * B2 * B3) A4 B4 = N4 at *
  generalize su2S (su2S b1 b2 A1 B1 A2 B2) b3 (su2N b1 b2 A1 B1 A2 B2) (B1 * B2) A3 B3 = s3 at *
  generalize su2N (su2S b1 b2 A1 B1 A2 B2) b3 (su2N b1 b2 A1 B1 A2 B2) (B1 * B2) A3 B3 = N3 at *
  generalize su2S b1 b2 A1 B1 A2 B2 = s2 at *
  generalize su2N b1 b2 A1 B1 A2 B2 = N2 at *
  generalize B1 * B2 * B3 * B4 = D4 at *
  generalize B1 * B2 * B3 = D3 at *
  generalize B1 * B2 = D2 at *
  generalize natL N4 = LN4 at *
  generalize natL N3 = LN3 at *
  generalize natL N2 = LN2 at *
  generalize natL D4 = LD4 at *
  generalize natL D3 = LD3 at *
  generalize natL D2 = LD2 at *
  generalize natL 1 = ol at *
  generalize natL A1 = LA1 at *
  generalize natL A2 = LA2 at *
  generalize natL A3 = LA3 at *
  generalize natL A4 = LA4 at *
  generalize natL B1 = LB1 at *
  generalize natL B2 = LB2 at *
  generalize natL B3 = LB3 at *
  generalize natL B4 = LB4 at *
  go_enter Tryz.func156, Tryz.ntmps156
  go_wp2_with fail
  refine (WH.out _).mono ?_
  rintro e w1 ⟨⟨av1, cv1, rfl, hO1⟩, hb1⟩
  have hB1 := old_trans e0 hb1
  replace K := K.old hb1
  have hn0 := K.1
  have al1 : Below w1.heap.size w1 (w1.alloc (.cells #[.bool false, .slice none 0 0, .slice av1 ol.length cv1] 84)) := old_alloc (Below.refl _ _) _
  have KS := Cel3.new w1 (.bool false) (.slice none 0 0) (.slice av1 ol.length cv1) 84
  replace K := K.old al1
  have hB2 := old_trans hB1 al1
  have O1 := hO1.later al1
  have hs2 := hB1.size
  have hks0 : w.heap.size < w1.heap.size := hn0
  generalize hks : w1.heap.size = ks at *
  generalize hW2 : w1.alloc (.cells #[.bool false, .slice none 0 0, .slice av1 ol.length cv1] 84) = W2 at *
  obtain ⟨x0, z0, z1, z2, z3, z4, z5, z6, z7, z8, z9, z10, z11⟩ := hP.old hB2
  obtain ⟨k1, ⟨k2, k3, k4⟩, k5, k6, k7⟩ := id KS
  clear hb1 al1 e0 WH hO1 hB1
  go_wp2_with fail
  refine wp_loop_rounds 5 ?_
  rw [rounds_succ]
  go_wp2_with fail
  have al3 : Below W2.heap.size W2 (W2.alloc (.cells #[.bool b1, .slice x1 LA1.length kk1, .slice y1 LB1.length ll1] 84)) := old_alloc (Below.refl _ _) _
  have hBa3 := old_trans hB2 al3
  have hz3 : ks < (W2.alloc (.cells #[.bool b1, .slice x1 LA1.length kk1, .slice y1 LB1.length ll1] 84)).heap.size := Nat.lt_of_lt_of_le KS.1 al3.size
  refine (P1.out _ _ _ _ (old_trans hB2 al3) (O1.later al3)).mono ?_
  rintro e v3 ⟨⟨a3, c3, b3', d3, rfl, hX3, hY3⟩, hb3⟩
  replace K := (((K.old al3).old hb3).far (c := ks) (i := 0) (v := .bool b1) (by omega)).far (c := ks) (i := 1) (v := .slice a3 LA1.length c3) (by omega)
  replace K := K.far (c := ks) (i := 2) (v := .slice b3' LB1.length d3) (by omega)
  have KT := (KS.old al3).old hb3
  replace KS := KT.setAll (.bool b1) (.slice a3 LA1.length c3) (.slice b3' LB1.length d3)
  have oX3 := oi_set3 (v0 := .bool b1) (v1 := .slice a3 LA1.length c3) (v2 := .slice b3' LB1.length d3) hX3 hz3
  have oY3 := oi_set3 (v0 := .bool b1) (v1 := .slice a3 LA1.length c3) (v2 := .slice b3' LB1.length d3) hY3 hz3
  have hBs3 : Below w.heap.size w (((v3.setCell ⟨ks, 0, none⟩ (.bool b1)).setCell ⟨ks, 1, none⟩ (.slice a3 LA1.length c3)).setCell ⟨ks, 2, none⟩ (.slice b3' LB1.length d3)) := below_set (below_set (below_set (old_trans hBa3 hb3) hs2 _) hs2 _) hs2 _
  have hbase3 := Nat.lt_trans hks0 hz3
  clear x0 z0 z1 z2 z3 z4 z5 z6 z7 z8 z9 z10 z11 k1 k2 k3 k4 k5 k6 k7 hX3 hY3 hb3 al3
  obtain ⟨r1, ⟨r2, r3, r4⟩, r5, r6, r7⟩ := id KT
  clear KT
  generalize hW4 : ((v3.setCell ⟨ks, 0, none⟩ (.bool b1)).setCell ⟨ks, 1, none⟩ (.slice a3 LA1.length c3)).setCell ⟨ks, 2, none⟩ (.slice b3' LB1.length d3) = W4 at *
  obtain ⟨x0, z0, z1, z2, z3, z4, z5, z6, z7, z8, z9, z10, z11⟩ := hP.old hBs3
  obtain ⟨k1, ⟨k2, k3, k4⟩, k5, k6, k7⟩ := id KS
  go_wp2_with fail
  clear r1 r2 r3 r4 r5 r6 r7 hW4
  rw [rounds_succ]
  go_wp2_with fail
  have al5 : Below W4.heap.size W4 (W4.alloc (.cells #[.bool b2, .slice x2 LA2.length kk2, .slice y2 LB2.length ll2] 84)) := old_alloc (Below.refl _ _) _
  have hBa5 := old_trans hBs3 al5
  have hz5 : ks < (W4.alloc (.cells #[.bool b2, .slice x2 LA2.length kk2, .slice y2 LB2.length ll2] 84)).heap.size := Nat.lt_of_lt_of_le KS.1 al5.size
  refine (P2.out _ _ _ _ _ _ _ (old_trans hBs3 al5) (oX3.later al5) (oY3.later al5)).mono ?_
  rintro e v5 ⟨⟨a5, c5, b5', d5, rfl, hX5, hY5⟩, hb5⟩
  replace K := (((K.old al5).old hb5).far (c := ks) (i := 0) (v := .bool s2) (by omega)).far (c := ks) (i := 1) (v := .slice a5 LN2.length c5) (by omega)
  replace K := K.far (c := ks) (i := 2) (v := .slice b5' LD2.length d5) (by omega)
  have KT := (KS.old al5).old hb5
  replace KS := KT.setAll (.bool s2) (.slice a5 LN2.length c5) (.slice b5' LD2.length d5)
  have oX5 := oi_set3 (v0 := .bool s2) (v1 := .slice a5 LN2.length c5) (v2 := .slice b5' LD2.length d5) hX5 hz5
  have oY5 := oi_set3 (v0 := .bool s2) (v1 := .slice a5 LN2.length c5) (v2 := .slice b5' LD2.length d5) hY5 hz5
  have hBs5 : Below w.heap.size w (((v5.setCell ⟨ks, 0, none⟩ (.bool s2)).setCell ⟨ks, 1, none⟩ (.slice a5 LN2.length c5)).setCell ⟨ks, 2, none⟩ (.slice b5' LD2.length d5)) := below_set (below_set (below_set (old_trans hBa5 hb5) hs2 _) hs2 _) hs2 _
  have hbase5 := Nat.lt_trans hks0 hz5
  clear x0 z0 z1 z2 z3 z4 z5 z6 z7 z8 z9 z10 z11 k1 k2 k3 k4 k5 k6 k7 hX5 hY5 hb5 al5
  obtain ⟨r1, ⟨r2, r3, r4⟩, r5, r6, r7⟩ := id KT
  clear KT
  generalize hW6 : ((v5.setCell ⟨ks, 0, none⟩ (.bool s2)).setCell ⟨ks, 1, none⟩ (.slice a5 LN2.length c5)).setCell ⟨ks, 2, none⟩ (.slice b5' LD2.length d5) = W6 at *
  obtain ⟨x0, z0, z1, z2, z3, z4, z5, z6, z7, z8, z9, z10, z11⟩ := hP.old hBs5
  obtain ⟨k1, ⟨k2, k3, k4⟩, k5, k6, k7⟩ := id KS
  go_wp2_with fail
  clear r1 r2 r3 r4 r5 r6 r7 hW6
  rw [rounds_succ]
  go_wp2_with fail
  have al7 : Below W6.heap.size W6 (W6.alloc (.cells #[.bool b3, .slice x3 LA3.length kk3, .slice y3 LB3.length ll3] 84)) := old_alloc (Below.refl _ _) _
  have hBa7 := old_trans hBs5 al7
  have hz7 : ks < (W6.alloc (.cells #[.bool b3, .slice x3 LA3.length kk3, .slice y3 LB3.length ll3] 84)).heap.size := Nat.lt_of_lt_of_le KS.1 al7.size
  refine (P3.out _ _ _ _ _ _ _ (old_trans hBs5 al7) (oX5.later al7) (oY5.later al7)).mono ?_
  rintro e v7 ⟨⟨a7, c7, b7', d7, rfl, hX7, hY7⟩, hb7⟩
  replace K := (((K.old al7).old hb7).far (c := ks) (i := 0) (v := .bool s3) (by omega)).far (c := ks) (i := 1) (v := .slice a7 LN3.length c7) (by omega)
  replace K := K.far (c := ks) (i := 2) (v := .slice b7' LD3.length d7) (by omega)
  have KT := (KS.old al7).old hb7
  replace KS := KT.setAll (.bool s3) (.slice a7 LN3.length c7) (.slice b7' LD3.length d7)
  have oX7 := oi_set3 (v0 := .bool s3) (v1 := .slice a7 LN3.length c7) (v2 := .slice b7' LD3.length d7) hX7 hz7
  have oY7 := oi_set3 (v0 := .bool s3) (v1 := .slice a7 LN3.length c7) (v2 := .slice b7' LD3.length d7) hY7 hz7
  have hBs7 : Below w.heap.size w (((v7.setCell ⟨ks, 0, none⟩ (.bool s3)).setCell ⟨ks, 1, none⟩ (.slice a7 LN3.length c7)).setCell ⟨ks, 2, none⟩ (.slice b7' LD3.length d7)) := below_set (below_set (below_set (old_trans hBa7 hb7) hs2 _) hs2 _) hs2 _
  have hbase7 := Nat.lt_trans hks0 hz7
  clear x0 z0 z1 z2 z3 z4 z5 z6 z7 z8 z9 z10 z11 k1 k2 k3 k4 k5 k6 k7 hX7 hY7 hb7 al7
  obtain ⟨r1, ⟨r2, r3, r4⟩, r5, r6, r7⟩ := id KT
  clear KT
  generalize hW8 : ((v7.setCell ⟨ks, 0, none⟩ (.bool s3)).setCell ⟨ks, 1, none⟩ (.slice a7 LN3.length c7)).setCell ⟨ks, 2, none⟩ (.slice b7' LD3.length d7) = W8 at *
  obtain ⟨x0, z0, z1, z2, z3, z4, z5, z6, z7, z8, z9, z10, z11⟩ := hP.old hBs7
  obtain ⟨k1, ⟨k2, k3, k4⟩, k5, k6, k7⟩ := id KS
  go_wp2_with fail
  clear r1 r2 r3 r4 r5 r6 r7 hW8
  rw [rounds_succ]
  go_wp2_with fail
  have al9 : Below W8.heap.size W8 (W8.alloc (.cells #[.bool b4, .slice x4 LA4.length kk4, .slice y4 LB4.length ll4] 84)) := old_alloc (Below.refl _ _) _
  have hBa9 := old_trans hBs7 al9
  have hz9 : ks < (W8.alloc (.cells #[.bool b4, .slice x4 LA4.length kk4, .slice y4 LB4.length ll4] 84)).heap.size := Nat.lt_of_lt_of_le KS.1 al9.size
  refine (P4.out _ _ _ _ _ _ _ (old_trans hBs7 al9) (oX7.later al9) (oY7.later al9)).mono ?_
  rintro e v9 ⟨⟨a9, c9, b9', d9, rfl, hX9, hY9⟩, hb9⟩
  replace K := (((K.old al9).old hb9).far (c := ks) (i := 0) (v := .bool s4) (by omega)).far (c := ks) (i := 1) (v := .slice a9 LN4.length c9) (by omega)
  replace K := K.far (c := ks) (i := 2) (v := .slice b9' LD4.length d9) (by omega)
  have KT := (KS.old al9).old hb9
  replace KS := KT.setAll (.bool s4) (.slice a9 LN4.length c9) (.slice b9' LD4.length d9)
  have oX9 := oi_set3 (v0 := .bool s4) (v1 := .slice a9 LN4.length c9) (v2 := .slice b9' LD4.length d9) hX9 hz9
  have oY9 := oi_set3 (v0 := .bool s4) (v1 := .slice a9 LN4.length c9) (v2 := .slice b9' LD4.length d9) hY9 hz9
  have hBs9 : Below w.heap.size w (((v9.setCell ⟨ks, 0, none⟩ (.bool s4)).setCell ⟨ks, 1, none⟩ (.slice a9 LN4.length c9)).setCell ⟨ks, 2, none⟩ (.slice b9' LD4.length d9)) := below_set (below_set (below_set (old_trans hBa9 hb9) hs2 _) hs2 _) hs2 _
  have hbase9 := Nat.lt_trans hks0 hz9
  clear x0 z0 z1 z2 z3 z4 z5 z6 z7 z8 z9 z10 z11 k1 k2 k3 k4 k5 k6 k7 hX9 hY9 hb9 al9
  obtain ⟨r1, ⟨r2, r3, r4⟩, r5, r6, r7⟩ := id KT
  clear KT
  generalize hW10 : ((v9.setCell ⟨ks, 0, none⟩ (.bool s4)).setCell ⟨ks, 1, none⟩ (.slice a9 LN4.length c9)).setCell ⟨ks, 2, none⟩ (.slice b9' LD4.length d9) = W10 at *
  obtain ⟨x0, z0, z1, z2, z3, z4, z5, z6, z7, z8, z9, z10, z11⟩ := hP.old hBs9
  obtain ⟨k1, ⟨k2, k3, k4⟩, k5, k6, k7⟩ := id KS
  go_wp2_with fail
  clear r1 r2 r3 r4 r5 r6 r7 hW10
  obtain ⟨m1, ⟨m2, m3, m4⟩, m5, m6, m7⟩ := id K
  have o1 := (oi_set3 (v0 := .bool s4) (v1 := .slice a9 LN4.length c9) (v2 := .slice b9' LD4.length d9) oX9 hbase9).mono (Nat.le_of_lt hbase9)
  have o2 := (oi_set3 (v0 := .bool s4) (v1 := .slice a9 LN4.length c9) (v2 := .slice b9' LD4.length d9) oY9 hbase9).mono (Nat.le_of_lt hbase9)
  have hK := K.setAll (.bool s4) (.slice a9 LN4.length c9) (.slice b9' LD4.length d9)
  rw [rounds_succ]
  go_wp2
  exact bodyPost_ret (resSummed hK rfl) rfl ⟨⟨_, _, _, _, rfl, o1, o2⟩, below_set (below_set (below_set hBs9 (Nat.le_refl _) _) (Nat.le_refl _) _) (Nat.le_refl _) _⟩
end Go.Proofs.YtgoffjpfddmhhaaGreatDoor

/- Sums of fractions: by the program and by the specification. Conditions, of the program: the library's table and its handle of errors hold what their texts lay. -/
namespace Go.Proofs.YtgoffjpfddmhhaaGreatDoor
open Go.RowKit
set_option linter.unusedVariables false
set_option maxRecDepth 100000

theorem add_lenG {a b n : Nat} (h1 : a < 65536 ^ n) (h2 : b < 65536 ^ n) : (natL (a + b)).length ≤ n + 1 := by
  refine natL_len.2 ?_
  rw [Nat.pow_succ]
  omega
theorem sumN_le (bl bm : Bool) (x y : Nat) : sumN bl bm x y ≤ x + y := by
  unfold sumN
  split
  · omega
  · split <;> omega
theorem sumN_len {bl bm : Bool} {x y n : Nat} (h1 : x < 65536 ^ n) (h2 : y < 65536 ^ n) : (natL (sumN bl bm x y)).length ≤ n + 1 := Nat.le_trans (natL_le (sumN_le bl bm x y)) (add_lenG h1 h2)
theorem mul_ltG {a b n m : Nat} (h1 : a < 65536 ^ n) (h2 : b < 65536 ^ m) : a * b < 65536 ^ (n + m) := by
  rw [Nat.pow_add]
  exact Nat.mul_lt_mul'' h1 h2
theorem sumN_lenG {bl bm : Bool} {a b c d n : Nat} (h1 : a < 65536 ^ n) (h2 : b < 65536 ^ n) (h3 : c < 65536 ^ n) (h4 : d < 65536 ^ n) : (natL (sumN bl bm (a * b) (c * d))).length ≤ n + n + 1 := sumN_len (mul_ltG h1 h2) (mul_ltG h3 h4)
theorem sAddN (a b : Option Addr) (ca cb X Y : Nat) (w : World) (hA : InI w a (natL X).length ca (natL X)) (hB : InI w b (natL Y).length cb (natL Y)) (h1 : (natL X).length ≤ 2048) (h2 : (natL Y).length ≤ 2048) :
    Calls Tryz.prog 71 #[.slice a (natL X).length ca, .slice b (natL Y).length cb] w fun e w' => (∃ av cv, e = .returned (.slice av (natL (X + Y)).length cv) ∧ OI w' w.heap.size av cv (natL (X + Y))) ∧ Below w.heap.size w w' := by
  have := sAdd a b _ _ ca cb _ _ w hA hB (digs_natL X) (digs_natL Y) (topped_natL X) (topped_natL Y) (by omega) (by omega)
  rw [val_natL, val_natL] at this
  exact this
theorem sSubN (a b : Option Addr) (ca cb X Y : Nat) (w : World) (hA : InI w a (natL X).length ca (natL X)) (hB : InI w b (natL Y).length cb (natL Y)) (h1 : (natL X).length ≤ 2048) (hle : Y ≤ X) :
    Calls Tryz.prog 73 #[.slice a (natL X).length ca, .slice b (natL Y).length cb] w fun e w' => (∃ av cv, e = .returned (.slice av (natL (X - Y)).length cv) ∧ OI w' w.heap.size av cv (natL (X - Y))) ∧ Below w.heap.size w w' := by
  have := sSub a b _ _ ca cb _ _ w hA hB (digs_natL X) (digs_natL Y) (by omega) (natL_le hle) (by rw [val_natL, val_natL]; exact hle)
  rw [val_natL, val_natL] at this
  exact this
theorem sCmpN (a b : Option Addr) (ca cb X Y : Nat) (w : World) (hA : InI w a (natL X).length ca (natL X)) (hB : InI w b (natL Y).length cb (natL Y)) :
    Calls Tryz.prog 72 #[.slice a (natL X).length ca, .slice b (natL Y).length cb] w fun e w' => e = .returned (.int .i64 (cmpI X Y)) ∧ Below w.heap.size w w' := by
  have := sCmp a b _ _ ca cb _ _ w hA hB (digs_natL X) (digs_natL Y) (topped_natL X) (topped_natL Y)
  rw [val_natL, val_natL] at this
  exact this
set_option maxHeartbeats 16000000 in
theorem sSumSame (bl : Bool) (a b : Option Addr) (la lb ca cb : Nat) (xs ys : List Int) (c d : Option Addr) (lc ld cc cd : Nat) (us vs : List Int) (w : World) (hA : InI w a la ca xs) (hB : InI w b lb cb ys) (hC : InI w c lc cc us) (hD : InI w d ld cd vs) (dx : digs xs) (dy : digs ys) (du : digs us) (dv : digs vs) (la1 : la ≤ 1024) (lb1 : lb ≤ 1024) (lc1 : lc ≤ 1024) (ld1 : ld ≤ 1024) (X Y bt : Nat) (hX : X = val xs * val vs) (hY : Y = val us * val ys) (hbt : bt = val ys * val vs) :
    Calls Tryz.prog 42 #[.agg #[.bool bl, .slice a la ca, .slice b lb cb], .agg #[.bool bl, .slice c lc cc, .slice d ld cd]] w fun e w' => (∃ a1 c1 a2 c2, e = .returned (.tuple #[.bool bl, .slice a1 (natL (X + Y)).length c1, .slice a2 (natL bt).length c2]) ∧ OI w' w.heap.size a1 c1 (natL (X + Y)) ∧ OI w' w.heap.size a2 c2 (natL bt)) ∧ Below w.heap.size w w' := by
  have e0 : Below w.heap.size w ((w.alloc (.cells #[.bool bl, .slice a la ca, .slice b lb cb] 25)).alloc (.cells #[.bool bl, .slice c lc cc, .slice d ld cd] 25)) := (by repeat (first | exact Below.refl _ _ | refine Below.drew ?_ | refine old_alloc ?_ _ | refine old_trans ?_ (by assumption)))
  have K1 := (Cel3.new w (.bool bl) (.slice a la ca) (.slice b lb cb) 25).old (old_alloc (Below.refl _ _) (.cells #[.bool bl, .slice c lc cc, .slice d ld cd] 25))
  have K2 := Cel3.new (w.alloc (.cells #[.bool bl, .slice a la ca, .slice b lb cb] 25)) (.bool bl) (.slice c lc cc) (.slice d ld cd) 25
  simp only [World.size_alloc] at K2
  have T1 := hd (fun w' (h : Below w.heap.size w w') => sMul a d la ld ca cd xs vs w' (hA.old h) (hD.old h) dx dv (by omega) (by omega))
  have T2 := hd (fun w' (h : Below w.heap.size w w') => sMul c b lc lb cc cb us ys w' (hC.old h) (hB.old h) du dy (by omega) (by omega))
  have T3 := hd (fun w' (h : Below w.heap.size w w') => sMul b d lb ld cb cd ys vs w' (hB.old h) (hD.old h) dy dv (by omega) (by omega))
  rw [← hX] at T1
  rw [← hY] at T2
  rw [← hbt] at T3
  have lX : (natL X).length ≤ 2048 := by
    rw [hX]
    have h1 := val_lt dx
    have h2 := val_lt dv
    rw [hA.1] at h1
    rw [hD.1] at h2
    have := mul_lenG h1 h2
    omega
  have lY : (natL Y).length ≤ 2048 := by
    rw [hY]
    have h1 := val_lt du
    have h2 := val_lt dy
    rw [hC.1] at h1
    rw [hB.1] at h2
    have := mul_lenG h1 h2
    omega
  clear hA hB hC hD dx dy du dv la1 lb1 lc1 ld1 hX hY hbt
  go_enter Tryz.func42, Tryz.ntmps42
  go_wp2_with fail
  refine (T1.out _ e0).mono ?_
  rintro e w1 ⟨⟨avL, cvL, rfl, hL⟩, hb1⟩
  have hB1 := old_trans e0 hb1
  replace K1 := K1.old hb1
  replace K2 := K2.old hb1
  clear hb1
  obtain ⟨k1, ⟨k2, k3, k4⟩, -⟩ := id K1
  obtain ⟨j1, ⟨j2, j3, j4⟩, -⟩ := id K2
  go_wp2_with fail
  refine (T2.out _ hB1).mono ?_
  rintro e w2 ⟨⟨avR, cvR, rfl, hR⟩, hb2⟩
  have hB2 := old_trans hB1 hb2
  replace K1 := K1.old hb2
  replace K2 := K2.old hb2
  replace hL := hL.later hb2
  clear hb2 k1 k2 k3 k4 j1 j2 j3 j4
  obtain ⟨k1, ⟨k2, k3, k4⟩, -⟩ := id K1
  obtain ⟨j1, ⟨j2, j3, j4⟩, -⟩ := id K2
  go_wp2_with fail
  refine (T3.out _ hB2).mono ?_
  rintro e w3 ⟨⟨avB, cvB, rfl, hBt⟩, hb3⟩
  have hB3 := old_trans hB2 hb3
  replace K1 := K1.old hb3
  replace K2 := K2.old hb3
  replace hL := hL.later hb3
  replace hR := hR.later hb3
  have hBt' := hBt.mono hB2.size
  clear hb3 k1 k2 k3 k4 j1 j2 j3 j4 T1 T2 T3 hBt
  have hk : w3.cell? ⟨w.heap.size, 0, none⟩ = some (.bool bl) ∧ w3.cell? ⟨w.heap.size, 1, none⟩ = some (.slice a la ca) ∧ w3.cell? ⟨w.heap.size, 2, none⟩ = some (.slice b lb cb) ∧ w3.cell? ⟨w.heap.size + 1, 0, none⟩ = some (.bool bl) ∧ w3.cell? ⟨w.heap.size + 1, 1, none⟩ = some (.slice c lc cc) ∧ w3.cell? ⟨w.heap.size + 1, 2, none⟩ = some (.slice d ld cd) := ⟨K1.c0, K1.c1, K1.c2, K2.c0, K2.c1, K2.c2⟩
  obtain ⟨k0, k1, k2, k3, k4, k5⟩ := id hk
  have U4 := hd (fun w' (hS : w'.cell? ⟨w.heap.size, 0, none⟩ = some (.bool bl) ∧ w'.cell? ⟨w.heap.size, 1, none⟩ = some (.slice a la ca) ∧ w'.cell? ⟨w.heap.size, 2, none⟩ = some (.slice b lb cb) ∧ w'.cell? ⟨w.heap.size + 1, 0, none⟩ = some (.bool bl) ∧ w'.cell? ⟨w.heap.size + 1, 1, none⟩ = some (.slice c lc cc) ∧ w'.cell? ⟨w.heap.size + 1, 2, none⟩ = some (.slice d ld cd)) (h : Below w3.heap.size w3 w') => (sAddN avL avR cvL cvR X Y w' (hL.later h).inI (hR.later h).inI lX lY).mono (fun e w'' (k : _ ∧ _) => (⟨k, six_old hS k.2⟩ : (_ ∧ _) ∧ (w''.cell? ⟨w.heap.size, 0, none⟩ = some (.bool bl) ∧ w''.cell? ⟨w.heap.size, 1, none⟩ = some (.slice a la ca) ∧ w''.cell? ⟨w.heap.size, 2, none⟩ = some (.slice b lb cb) ∧ w''.cell? ⟨w.heap.size + 1, 0, none⟩ = some (.bool bl) ∧ w''.cell? ⟨w.heap.size + 1, 1, none⟩ = some (.slice c lc cc) ∧ w''.cell? ⟨w.heap.size + 1, 2, none⟩ = some (.slice d ld cd)))))
  go_wp2_with fail
  go_region_held3 (fun w' => w'.cell? ⟨w.heap.size, 0, none⟩ = some (.bool bl) ∧ w'.cell? ⟨w.heap.size, 1, none⟩ = some (.slice a la ca) ∧ w'.cell? ⟨w.heap.size, 2, none⟩ = some (.slice b lb cb) ∧ w'.cell? ⟨w.heap.size + 1, 0, none⟩ = some (.bool bl) ∧ w'.cell? ⟨w.heap.size + 1, 1, none⟩ = some (.slice c lc cc) ∧ w'.cell? ⟨w.heap.size + 1, 2, none⟩ = some (.slice d ld cd)) (go_keep) (first | (go_at_call 71; refine (U4.out _ (by assumption) (by repeat (first | exact Below.refl _ _ | refine Below.drew ?_ | refine old_trans ?_ (by assumption)))).mono ?_; rintro e w8 ⟨⟨⟨avP, cvP, rfl, hP⟩, hb8⟩, hc8⟩))
  all_goals
    have o1 := hP.mono (show w.heap.size ≤ _ from hB3.size)
    have o2 := hBt'.drew.later hb8
    have hBF : Below w.heap.size w w8 := old_trans hB3.drew hb8
    clear hP hL hR U4
    go_wp2
    go_ret3
    exact ⟨⟨_, _, _, _, rfl, o1, o2⟩, hBF⟩
set_option maxHeartbeats 16000000 in
theorem sSumLess (bl : Bool) (a b : Option Addr) (la lb ca cb : Nat) (xs ys : List Int) (c d : Option Addr) (lc ld cc cd : Nat) (us vs : List Int) (w : World) (hA : InI w a la ca xs) (hB : InI w b lb cb ys) (hC : InI w c lc cc us) (hD : InI w d ld cd vs) (dx : digs xs) (dy : digs ys) (du : digs us) (dv : digs vs) (la1 : la ≤ 1024) (lb1 : lb ≤ 1024) (lc1 : lc ≤ 1024) (ld1 : ld ≤ 1024) (X Y bt : Nat) (hX : X = val xs * val vs) (hY : Y = val us * val ys) (hbt : bt = val ys * val vs) (hlt : X < Y) :
    Calls Tryz.prog 42 #[.agg #[.bool bl, .slice a la ca, .slice b lb cb], .agg #[.bool (!bl), .slice c lc cc, .slice d ld cd]] w fun e w' => (∃ a1 c1 a2 c2, e = .returned (.tuple #[.bool (!bl), .slice a1 (natL (Y - X)).length c1, .slice a2 (natL bt).length c2]) ∧ OI w' w.heap.size a1 c1 (natL (Y - X)) ∧ OI w' w.heap.size a2 c2 (natL bt)) ∧ Below w.heap.size w w' := by
  have e0 : Below w.heap.size w ((w.alloc (.cells #[.bool bl, .slice a la ca, .slice b lb cb] 25)).alloc (.cells #[.bool (!bl), .slice c lc cc, .slice d ld cd] 25)) := (by repeat (first | exact Below.refl _ _ | refine Below.drew ?_ | refine old_alloc ?_ _ | refine old_trans ?_ (by assumption)))
  have K1 := (Cel3.new w (.bool bl) (.slice a la ca) (.slice b lb cb) 25).old (old_alloc (Below.refl _ _) (.cells #[.bool (!bl), .slice c lc cc, .slice d ld cd] 25))
  have K2 := Cel3.new (w.alloc (.cells #[.bool bl, .slice a la ca, .slice b lb cb] 25)) (.bool (!bl)) (.slice c lc cc) (.slice d ld cd) 25
  simp only [World.size_alloc] at K2
  have T1 := hd (fun w' (h : Below w.heap.size w w') => sMul a d la ld ca cd xs vs w' (hA.old h) (hD.old h) dx dv (by omega) (by omega))
  have T2 := hd (fun w' (h : Below w.heap.size w w') => sMul c b lc lb cc cb us ys w' (hC.old h) (hB.old h) du dy (by omega) (by omega))
  have T3 := hd (fun w' (h : Below w.heap.size w w') => sMul b d lb ld cb cd ys vs w' (hB.old h) (hD.old h) dy dv (by omega) (by omega))
  rw [← hX] at T1
  rw [← hY] at T2
  rw [← hbt] at T3
  have lX : (natL X).length ≤ 2048 := by
    rw [hX]
    have h1 := val_lt dx
    have h2 := val_lt dv
    rw [hA.1] at h1
    rw [hD.1] at h2
    have := mul_lenG h1 h2
    omega
  have lY : (natL Y).length ≤ 2048 := by
    rw [hY]
    have h1 := val_lt du
    have h2 := val_lt dy
    rw [hC.1] at h1
    rw [hB.1] at h2
    have := mul_lenG h1 h2
    omega
  clear hA hB hC hD dx dy du dv la1 lb1 lc1 ld1 hX hY hbt
  go_enter Tryz.func42, Tryz.ntmps42
  go_wp2_with fail
  refine (T1.out _ e0).mono ?_
  rintro e w1 ⟨⟨avL, cvL, rfl, hL⟩, hb1⟩
  have hB1 := old_trans e0 hb1
  replace K1 := K1.old hb1
  replace K2 := K2.old hb1
  clear hb1
  obtain ⟨k1, ⟨k2, k3, k4⟩, -⟩ := id K1
  obtain ⟨j1, ⟨j2, j3, j4⟩, -⟩ := id K2
  go_wp2_with fail
  refine (T2.out _ hB1).mono ?_
  rintro e w2 ⟨⟨avR, cvR, rfl, hR⟩, hb2⟩
  have hB2 := old_trans hB1 hb2
  replace K1 := K1.old hb2
  replace K2 := K2.old hb2
  replace hL := hL.later hb2
  clear hb2 k1 k2 k3 k4 j1 j2 j3 j4
  obtain ⟨k1, ⟨k2, k3, k4⟩, -⟩ := id K1
  obtain ⟨j1, ⟨j2, j3, j4⟩, -⟩ := id K2
  go_wp2_with fail
  refine (T3.out _ hB2).mono ?_
  rintro e w3 ⟨⟨avB, cvB, rfl, hBt⟩, hb3⟩
  have hB3 := old_trans hB2 hb3
  replace K1 := K1.old hb3
  replace K2 := K2.old hb3
  replace hL := hL.later hb3
  replace hR := hR.later hb3
  have hBt' := hBt.mono hB2.size
  clear hb3 k1 k2 k3 k4 j1 j2 j3 j4 T1 T2 T3 hBt
  have hk : w3.cell? ⟨w.heap.size, 0, none⟩ = some (.bool bl) ∧ w3.cell? ⟨w.heap.size, 1, none⟩ = some (.slice a la ca) ∧ w3.cell? ⟨w.heap.size, 2, none⟩ = some (.slice b lb cb) ∧ w3.cell? ⟨w.heap.size + 1, 0, none⟩ = some (.bool (!bl)) ∧ w3.cell? ⟨w.heap.size + 1, 1, none⟩ = some (.slice c lc cc) ∧ w3.cell? ⟨w.heap.size + 1, 2, none⟩ = some (.slice d ld cd) := ⟨K1.c0, K1.c1, K1.c2, K2.c0, K2.c1, K2.c2⟩
  obtain ⟨k0, k1, k2, k3, k4, k5⟩ := id hk
  have AG := hd (sCmpN avL avR cvL cvR X Y w3 hL.inI hR.inI)
  rw [cmpI_lt hlt] at AG
  go_wp2_with fail
  refine AG.out.mono ?_
  rintro e w7 ⟨rfl, hb7⟩
  clear AG k0 k1 k2 k3 k4 k5 hk
  replace hB3 := old_trans hB3 hb7
  replace hL := hL.later hb7
  replace hR := hR.later hb7
  replace hBt' := hBt'.later hb7
  replace K1 := K1.old hb7
  replace K2 := K2.old hb7
  clear hb7
  have hk : w7.cell? ⟨w.heap.size, 0, none⟩ = some (.bool bl) ∧ w7.cell? ⟨w.heap.size, 1, none⟩ = some (.slice a la ca) ∧ w7.cell? ⟨w.heap.size, 2, none⟩ = some (.slice b lb cb) ∧ w7.cell? ⟨w.heap.size + 1, 0, none⟩ = some (.bool (!bl)) ∧ w7.cell? ⟨w.heap.size + 1, 1, none⟩ = some (.slice c lc cc) ∧ w7.cell? ⟨w.heap.size + 1, 2, none⟩ = some (.slice d ld cd) := ⟨K1.c0, K1.c1, K1.c2, K2.c0, K2.c1, K2.c2⟩
  obtain ⟨k0, k1, k2, k3, k4, k5⟩ := id hk
  have U4 := hd (fun w' (hS : w'.cell? ⟨w.heap.size, 0, none⟩ = some (.bool bl) ∧ w'.cell? ⟨w.heap.size, 1, none⟩ = some (.slice a la ca) ∧ w'.cell? ⟨w.heap.size, 2, none⟩ = some (.slice b lb cb) ∧ w'.cell? ⟨w.heap.size + 1, 0, none⟩ = some (.bool (!bl)) ∧ w'.cell? ⟨w.heap.size + 1, 1, none⟩ = some (.slice c lc cc) ∧ w'.cell? ⟨w.heap.size + 1, 2, none⟩ = some (.slice d ld cd)) (h : Below w7.heap.size w7 w') => (sSubN avR avL cvR cvL Y X w' (hR.later h).inI (hL.later h).inI lY (Nat.le_of_lt hlt)).mono (fun e w'' (k : _ ∧ _) => (⟨k, six_old hS k.2⟩ : (_ ∧ _) ∧ (w''.cell? ⟨w.heap.size, 0, none⟩ = some (.bool bl) ∧ w''.cell? ⟨w.heap.size, 1, none⟩ = some (.slice a la ca) ∧ w''.cell? ⟨w.heap.size, 2, none⟩ = some (.slice b lb cb) ∧ w''.cell? ⟨w.heap.size + 1, 0, none⟩ = some (.bool (!bl)) ∧ w''.cell? ⟨w.heap.size + 1, 1, none⟩ = some (.slice c lc cc) ∧ w''.cell? ⟨w.heap.size + 1, 2, none⟩ = some (.slice d ld cd)))))
  go_wp2_with fail
  go_region_held3 (fun w' => w'.cell? ⟨w.heap.size, 0, none⟩ = some (.bool bl) ∧ w'.cell? ⟨w.heap.size, 1, none⟩ = some (.slice a la ca) ∧ w'.cell? ⟨w.heap.size, 2, none⟩ = some (.slice b lb cb) ∧ w'.cell? ⟨w.heap.size + 1, 0, none⟩ = some (.bool (!bl)) ∧ w'.cell? ⟨w.heap.size + 1, 1, none⟩ = some (.slice c lc cc) ∧ w'.cell? ⟨w.heap.size + 1, 2, none⟩ = some (.slice d ld cd)) (go_keep) (first | (go_at_call 73; refine (U4.out _ (by assumption) (by repeat (first | exact Below.refl _ _ | refine Below.drew ?_ | refine old_trans ?_ (by assumption)))).mono ?_; rintro e w8 ⟨⟨⟨avP, cvP, rfl, hP⟩, hb8⟩, hc8⟩))
  all_goals
    have o1 := hP.mono (show w.heap.size ≤ _ from hB3.size)
    have o2 := hBt'.drew.later hb8
    have hBF : Below w.heap.size w w8 := old_trans hB3.drew hb8
    clear hP hL hR U4
    go_wp2
    go_ret3
    exact ⟨⟨_, _, _, _, rfl, o1, o2⟩, hBF⟩
set_option maxHeartbeats 16000000 in
theorem sSumMore (bl : Bool) (a b : Option Addr) (la lb ca cb : Nat) (xs ys : List Int) (c d : Option Addr) (lc ld cc cd : Nat) (us vs : List Int) (w : World) (hA : InI w a la ca xs) (hB : InI w b lb cb ys) (hC : InI w c lc cc us) (hD : InI w d ld cd vs) (dx : digs xs) (dy : digs ys) (du : digs us) (dv : digs vs) (la1 : la ≤ 1024) (lb1 : lb ≤ 1024) (lc1 : lc ≤ 1024) (ld1 : ld ≤ 1024) (X Y bt : Nat) (hX : X = val xs * val vs) (hY : Y = val us * val ys) (hbt : bt = val ys * val vs) (hge : Y ≤ X) (cz : Int) (hcz : cmpI X Y = cz) (hc0 : 0 ≤ cz) :
    Calls Tryz.prog 42 #[.agg #[.bool bl, .slice a la ca, .slice b lb cb], .agg #[.bool (!bl), .slice c lc cc, .slice d ld cd]] w fun e w' => (∃ a1 c1 a2 c2, e = .returned (.tuple #[.bool bl, .slice a1 (natL (X - Y)).length c1, .slice a2 (natL bt).length c2]) ∧ OI w' w.heap.size a1 c1 (natL (X - Y)) ∧ OI w' w.heap.size a2 c2 (natL bt)) ∧ Below w.heap.size w w' := by
  have e0 : Below w.heap.size w ((w.alloc (.cells #[.bool bl, .slice a la ca, .slice b lb cb] 25)).alloc (.cells #[.bool (!bl), .slice c lc cc, .slice d ld cd] 25)) := (by repeat (first | exact Below.refl _ _ | refine Below.drew ?_ | refine old_alloc ?_ _ | refine old_trans ?_ (by assumption)))
  have K1 := (Cel3.new w (.bool bl) (.slice a la ca) (.slice b lb cb) 25).old (old_alloc (Below.refl _ _) (.cells #[.bool (!bl), .slice c lc cc, .slice d ld cd] 25))
  have K2 := Cel3.new (w.alloc (.cells #[.bool bl, .slice a la ca, .slice b lb cb] 25)) (.bool (!bl)) (.slice c lc cc) (.slice d ld cd) 25
  simp only [World.size_alloc] at K2
  have T1 := hd (fun w' (h : Below w.heap.size w w') => sMul a d la ld ca cd xs vs w' (hA.old h) (hD.old h) dx dv (by omega) (by omega))
  have T2 := hd (fun w' (h : Below w.heap.size w w') => sMul c b lc lb cc cb us ys w' (hC.old h) (hB.old h) du dy (by omega) (by omega))
  have T3 := hd (fun w' (h : Below w.heap.size w w') => sMul b d lb ld cb cd ys vs w' (hB.old h) (hD.old h) dy dv (by omega) (by omega))
  rw [← hX] at T1
  rw [← hY] at T2
  rw [← hbt] at T3
  have lX : (natL X).length ≤ 2048 := by
    rw [hX]
    have h1 := val_lt dx
    have h2 := val_lt dv
    rw [hA.1] at h1
    rw [hD.1] at h2
    have := mul_lenG h1 h2
    omega
  have lY : (natL Y).length ≤ 2048 := by
    rw [hY]
    have h1 := val_lt du
    have h2 := val_lt dy
    rw [hC.1] at h1
    rw [hB.1] at h2
    have := mul_lenG h1 h2
    omega
  clear hA hB hC hD dx dy du dv la1 lb1 lc1 ld1 hX hY hbt
  go_enter Tryz.func42, Tryz.ntmps42
  go_wp2_with fail
  refine (T1.out _ e0).mono ?_
  rintro e w1 ⟨⟨avL, cvL, rfl, hL⟩, hb1⟩
  have hB1 := old_trans e0 hb1
  replace K1 := K1.old hb1
  replace K2 := K2.old hb1
  clear hb1
  obtain ⟨k1, ⟨k2, k3, k4⟩, -⟩ := id K1
  obtain ⟨j1, ⟨j2, j3, j4⟩, -⟩ := id K2
  go_wp2_with fail
  refine (T2.out _ hB1).mono ?_
  rintro e w2 ⟨⟨avR, cvR, rfl, hR⟩, hb2⟩
  have hB2 := old_trans hB1 hb2
  replace K1 := K1.old hb2
  replace K2 := K2.old hb2
  replace hL := hL.later hb2
  clear hb2 k1 k2 k3 k4 j1 j2 j3 j4
  obtain ⟨k1, ⟨k2, k3, k4⟩, -⟩ := id K1
  obtain ⟨j1, ⟨j2, j3, j4⟩, -⟩ := id K2
  go_wp2_with fail
  refine (T3.out _ hB2).mono ?_
  rintro e w3 ⟨⟨avB, cvB, rfl, hBt⟩, hb3⟩
  have hB3 := old_trans hB2 hb3
  replace K1 := K1.old hb3
  replace K2 := K2.old hb3
  replace hL := hL.later hb3
  replace hR := hR.later hb3
  have hBt' := hBt.mono hB2.size
  clear hb3 k1 k2 k3 k4 j1 j2 j3 j4 T1 T2 T3 hBt
  have hk : w3.cell? ⟨w.heap.size, 0, none⟩ = some (.bool bl) ∧ w3.cell? ⟨w.heap.size, 1, none⟩ = some (.slice a la ca) ∧ w3.cell? ⟨w.heap.size, 2, none⟩ = some (.slice b lb cb) ∧ w3.cell? ⟨w.heap.size + 1, 0, none⟩ = some (.bool (!bl)) ∧ w3.cell? ⟨w.heap.size + 1, 1, none⟩ = some (.slice c lc cc) ∧ w3.cell? ⟨w.heap.size + 1, 2, none⟩ = some (.slice d ld cd) := ⟨K1.c0, K1.c1, K1.c2, K2.c0, K2.c1, K2.c2⟩
  obtain ⟨k0, k1, k2, k3, k4, k5⟩ := id hk
  have AG := hd (sCmpN avL avR cvL cvR X Y w3 hL.inI hR.inI)
  rw [hcz] at AG
  go_wp2_with fail
  refine AG.out.mono ?_
  rintro e w7 ⟨rfl, hb7⟩
  clear AG k0 k1 k2 k3 k4 k5 hk
  replace hB3 := old_trans hB3 hb7
  replace hL := hL.later hb7
  replace hR := hR.later hb7
  replace hBt' := hBt'.later hb7
  replace K1 := K1.old hb7
  replace K2 := K2.old hb7
  clear hb7
  have hk : w7.cell? ⟨w.heap.size, 0, none⟩ = some (.bool bl) ∧ w7.cell? ⟨w.heap.size, 1, none⟩ = some (.slice a la ca) ∧ w7.cell? ⟨w.heap.size, 2, none⟩ = some (.slice b lb cb) ∧ w7.cell? ⟨w.heap.size + 1, 0, none⟩ = some (.bool (!bl)) ∧ w7.cell? ⟨w.heap.size + 1, 1, none⟩ = some (.slice c lc cc) ∧ w7.cell? ⟨w.heap.size + 1, 2, none⟩ = some (.slice d ld cd) := ⟨K1.c0, K1.c1, K1.c2, K2.c0, K2.c1, K2.c2⟩
  obtain ⟨k0, k1, k2, k3, k4, k5⟩ := id hk
  have U4 := hd (fun w' (hS : w'.cell? ⟨w.heap.size, 0, none⟩ = some (.bool bl) ∧ w'.cell? ⟨w.heap.size, 1, none⟩ = some (.slice a la ca) ∧ w'.cell? ⟨w.heap.size, 2, none⟩ = some (.slice b lb cb) ∧ w'.cell? ⟨w.heap.size + 1, 0, none⟩ = some (.bool (!bl)) ∧ w'.cell? ⟨w.heap.size + 1, 1, none⟩ = some (.slice c lc cc) ∧ w'.cell? ⟨w.heap.size + 1, 2, none⟩ = some (.slice d ld cd)) (h : Below w7.heap.size w7 w') => (sSubN avL avR cvL cvR X Y w' (hL.later h).inI (hR.later h).inI lX hge).mono (fun e w'' (k : _ ∧ _) => (⟨k, six_old hS k.2⟩ : (_ ∧ _) ∧ (w''.cell? ⟨w.heap.size, 0, none⟩ = some (.bool bl) ∧ w''.cell? ⟨w.heap.size, 1, none⟩ = some (.slice a la ca) ∧ w''.cell? ⟨w.heap.size, 2, none⟩ = some (.slice b lb cb) ∧ w''.cell? ⟨w.heap.size + 1, 0, none⟩ = some (.bool (!bl)) ∧ w''.cell? ⟨w.heap.size + 1, 1, none⟩ = some (.slice c lc cc) ∧ w''.cell? ⟨w.heap.size + 1, 2, none⟩ = some (.slice d ld cd)))))
  go_wp2_with fail
  go_region_held3 (fun w' => w'.cell? ⟨w.heap.size, 0, none⟩ = some (.bool bl) ∧ w'.cell? ⟨w.heap.size, 1, none⟩ = some (.slice a la ca) ∧ w'.cell? ⟨w.heap.size, 2, none⟩ = some (.slice b lb cb) ∧ w'.cell? ⟨w.heap.size + 1, 0, none⟩ = some (.bool (!bl)) ∧ w'.cell? ⟨w.heap.size + 1, 1, none⟩ = some (.slice c lc cc) ∧ w'.cell? ⟨w.heap.size + 1, 2, none⟩ = some (.slice d ld cd)) (go_keep) (first | (go_at_call 73; refine (U4.out _ (by assumption) (by repeat (first | exact Below.refl _ _ | refine Below.drew ?_ | refine old_trans ?_ (by assumption)))).mono ?_; rintro e w8 ⟨⟨⟨avP, cvP, rfl, hP⟩, hb8⟩, hc8⟩))
  all_goals
    have o1 := hP.mono (show w.heap.size ≤ _ from hB3.size)
    have o2 := hBt'.drew.later hb8
    have hBF : Below w.heap.size w w8 := old_trans hB3.drew hb8
    clear hP hL hR U4
    go_wp2
    go_ret3
    exact ⟨⟨_, _, _, _, rfl, o1, o2⟩, hBF⟩
theorem sL6Sum (bl : Bool) (a b : Option Addr) (la lb ca cb : Nat) (xs ys : List Int) (bm : Bool) (c d : Option Addr) (lc ld cc cd : Nat) (us vs : List Int) (w : World) (hA : InI w a la ca xs) (hB : InI w b lb cb ys) (hC : InI w c lc cc us) (hD : InI w d ld cd vs) (dx : digs xs) (dy : digs ys) (du : digs us) (dv : digs vs) (la1 : la ≤ 1024) (lb1 : lb ≤ 1024) (lc1 : lc ≤ 1024) (ld1 : ld ≤ 1024) :
    Calls Tryz.prog 42 #[.agg #[.bool bl, .slice a la ca, .slice b lb cb], .agg #[.bool bm, .slice c lc cc, .slice d ld cd]] w fun e w' => (∃ a1 c1 a2 c2, e = .returned (.tuple #[.bool (sumS bl bm (val xs * val vs) (val us * val ys)), .slice a1 (natL (sumN bl bm (val xs * val vs) (val us * val ys))).length c1, .slice a2 (natL (val ys * val vs)).length c2]) ∧ OI w' w.heap.size a1 c1 (natL (sumN bl bm (val xs * val vs) (val us * val ys))) ∧ OI w' w.heap.size a2 c2 (natL (val ys * val vs))) ∧ Below w.heap.size w w' := by
  by_cases h : bl = bm
  · subst h
    have := sSumSame bl a b la lb ca cb xs ys c d lc ld cc cd us vs w hA hB hC hD dx dy du dv la1 lb1 lc1 ld1 _ _ _ rfl rfl rfl
    unfold sumS sumN
    rw [if_pos rfl, if_pos rfl]
    exact this
  · obtain rfl : bm = !bl := by cases bl <;> cases bm <;> simp_all
    unfold sumS sumN
    rw [if_neg h, if_neg h]
    by_cases hlt : val xs * val vs < val us * val ys
    · rw [if_pos hlt, if_pos hlt]
      exact sSumLess bl a b la lb ca cb xs ys c d lc ld cc cd us vs w hA hB hC hD dx dy du dv la1 lb1 lc1 ld1 _ _ _ rfl rfl rfl hlt
    · rw [if_neg hlt, if_neg hlt]
      refine sSumMore bl a b la lb ca cb xs ys c d lc ld cc cd us vs w hA hB hC hD dx dy du dv la1 lb1 lc1 ld1 _ _ _ rfl rfl rfl (by omega) _ rfl ?_
      unfold cmpI
      rw [if_neg hlt]
      split <;> omega
end Go.Proofs.YtgoffjpfddmhhaaGreatDoor

/- Sums of fractions: the specification. No condition. -/
namespace Go.Proofs.YtgoffjpfddmhhaaGreatDoor
open Go.RowKit
set_option linter.unusedVariables false
set_option maxRecDepth 100000

theorem resFracAddS {W : World} {b : Nat} {v0 v1 v2 r : Value} {tmps : Array Value} (h : Cel3 W b v0 v1 v2) (ht : tmps[4]? = some (.pointer (some ⟨b, 0, none⟩))) (h3 : tmps[5]? = some r) : (results Tryz.f28 tmps).run Tryz.prog W = .ok (.tuple #[.agg #[v0, v1, v2], r]) W := by
  obtain ⟨h1, ⟨a0, a1, a2⟩, -⟩ := h
  simp [results, Tryz.results28, go_sem, a0, a1, a2, ht, h3]
set_option maxHeartbeats 8000000 in
theorem sFracAdd (bl : Bool) (a b : Option Addr) (la lb ca cb : Nat) (xs ys : List Int) (bm : Bool) (c d : Option Addr) (lc ld cc cd : Nat) (us vs : List Int) (w : World) (hA : InI w a la ca xs) (hB : InI w b lb cb ys) (hC : InI w c lc cc us) (hD : InI w d ld cd vs) :
    Calls Tryz.prog 28 #[.agg #[.bool bl, .slice a la ca, .slice b lb cb], .agg #[.bool bm, .slice c lc cc, .slice d ld cd]] w fun e w' => FRes w' w.heap.size e (fracOk bl xs ys && (fracOk bm us vs && lowB (sumN bl bm (val xs * val vs) (val us * val ys)) (val ys * val vs))) (sumS bl bm (val xs * val vs) (val us * val ys)) (sumN bl bm (val xs * val vs) (val us * val ys)) (val ys * val vs) ∧ Below w.heap.size w w' := by
  have e0 : Below w.heap.size w (((w.alloc (.cells #[.bool bl, .slice a la ca, .slice b lb cb] 25)).alloc (.cells #[.bool bm, .slice c lc cc, .slice d ld cd] 25)).alloc (.cells #[.bool false, .slice none 0 0, .slice none 0 0] 25)) := (by repeat (first | exact Below.refl _ _ | refine Below.drew ?_ | refine old_alloc ?_ _ | refine old_trans ?_ (by assumption)))
  have K1 := ((Cel3.new w (.bool bl) (.slice a la ca) (.slice b lb cb) 25).old (old_alloc (Below.refl _ _) (.cells #[.bool bm, .slice c lc cc, .slice d ld cd] 25))).old (old_alloc (Below.refl _ _) (.cells #[.bool false, .slice none 0 0, .slice none 0 0] 25))
  have K2 := (Cel3.new (w.alloc (.cells #[.bool bl, .slice a la ca, .slice b lb cb] 25)) (.bool bm) (.slice c lc cc) (.slice d ld cd) 25).old (old_alloc (Below.refl _ _) (.cells #[.bool false, .slice none 0 0, .slice none 0 0] 25))
  have K3 := Cel3.new ((w.alloc (.cells #[.bool bl, .slice a la ca, .slice b lb cb] 25)).alloc (.cells #[.bool bm, .slice c lc cc, .slice d ld cd] 25)) (.bool false) (.slice none 0 0) (.slice none 0 0) 25
  simp only [World.size_alloc] at K2 K3
  have O1 := hd (sFracOk bl a b la lb ca cb xs ys _ (hA.old e0) (hB.old e0))
  have O2 := hd (fun w' (h : Below w.heap.size w w') => sFracOk bm c d lc ld cc cd us vs w' (hC.old h) (hD.old h))
  cases hf : fracOk bl xs ys
  · rw [hf] at O1
    show Calls _ _ _ _ fun e w' => FRes w' w.heap.size e false (sumS bl bm (val xs * val vs) (val us * val ys)) (sumN bl bm (val xs * val vs) (val us * val ys)) (val ys * val vs) ∧ Below w.heap.size w w'
    clear hf O2
    go_enter Tryz.func28, Tryz.ntmps28
    go_wp2_with fail
    refine O1.out.mono ?_
    rintro e w1 ⟨rfl, hb1⟩
    replace K3 := K3.old hb1
    have hB1 := old_trans e0 hb1
    obtain ⟨m1, ⟨m2, m3, m4⟩, m5, m6, m7⟩ := id K3
    go_wp2
    exact bodyPost_ret (resFracAddS (K3.setAll (.bool false) (.slice none 0 0) (.slice none 0 0)) rfl rfl) rfl ⟨FRes.no _ _ _ _ _, below_set (below_set (below_set hB1 (by omega) _) (by omega) _) (by omega) _⟩
  rw [hf] at O1
  cases hg : fracOk bm us vs
  · rw [hg] at O2
    show Calls _ _ _ _ fun e w' => FRes w' w.heap.size e false (sumS bl bm (val xs * val vs) (val us * val ys)) (sumN bl bm (val xs * val vs) (val us * val ys)) (val ys * val vs) ∧ Below w.heap.size w w'
    clear hf hg
    go_enter Tryz.func28, Tryz.ntmps28
    go_wp2_with fail
    refine O1.out.mono ?_
    rintro e w1 ⟨rfl, hb1⟩
    replace K2 := K2.old hb1
    replace K3 := K3.old hb1
    have hB1 := old_trans e0 hb1
    obtain ⟨k1, ⟨k2, k3, k4⟩, -⟩ := id K2
    go_wp2_with fail
    refine (O2.out _ hB1).mono ?_
    rintro e w2 ⟨rfl, hb2⟩
    replace K3 := K3.old hb2
    have hB2 := old_trans hB1 hb2
    obtain ⟨m1, ⟨m2, m3, m4⟩, m5, m6, m7⟩ := id K3
    go_wp2
    exact bodyPost_ret (resFracAddS (K3.setAll (.bool false) (.slice none 0 0) (.slice none 0 0)) rfl rfl) rfl ⟨FRes.no _ _ _ _ _, below_set (below_set (below_set hB2 (by omega) _) (by omega) _) (by omega) _⟩
  rw [hg] at O2
  have q := fracOk_in hf
  have r := fracOk_in hg
  have q1 := natOk_in q.1
  have q2 := natOk_in q.2.1
  have r1 := natOk_in r.1
  have r2 := natOk_in r.2.1
  have pA := hA.1
  have pB := hB.1
  have pC := hC.1
  have pD := hD.1
  have lT := sumN_lenG (bl := bl) (bm := bm) (natOk_lt q.1) (natOk_lt r.2.1) (natOk_lt r.1) (natOk_lt q.2.1)
  have lU := mul_len4 q.2.1 r.2.1
  have hnz : val ys * val vs ≠ 0 := Nat.mul_ne_zero (lowB_in (fracOk_low hf).1).1 (lowB_in (fracOk_low hg).1).1
  show Calls _ _ _ _ fun e w' => FRes w' w.heap.size e (lowB (sumN bl bm (val xs * val vs) (val us * val ys)) (val ys * val vs)) (sumS bl bm (val xs * val vs) (val us * val ys)) (sumN bl bm (val xs * val vs) (val us * val ys)) (val ys * val vs) ∧ Below w.heap.size w w'
  have SM := hd (fun w' (h : Below w.heap.size w w') => sL6Sum bl a b la lb ca cb xs ys bm c d lc ld cc cd us vs w' (hA.old h) (hB.old h) (hC.old h) (hD.old h) q1.2.1 q2.2.1 r1.2.1 r2.2.1 (by omega) (by omega) (by omega) (by omega))
  clear hA hB hC hD q r q1 q2 r1 r2 pA pB pC pD hf hg
  generalize sumN bl bm (val xs * val vs) (val us * val ys) = A at *
  generalize sumS bl bm (val xs * val vs) (val us * val ys) = s2 at *
  generalize val ys * val vs = B at *
  have MK := hd (fun av av' cv cv' w' (h1 : InI w' av (natL A).length cv (natL A)) (h2 : InI w' av' (natL B).length cv' (natL B)) => sL6Make s2 av av' cv cv' A B w' h1 h2 (by omega) (by omega) hnz)
  clear lT lU hnz
  generalize lowB A B = okk at *
  go_enter Tryz.func28, Tryz.ntmps28
  go_wp2_with fail
  refine O1.out.mono ?_
  rintro e w1 ⟨rfl, hb1⟩
  replace K1 := K1.old hb1
  replace K2 := K2.old hb1
  replace K3 := K3.old hb1
  have hB1 := old_trans e0 hb1
  obtain ⟨k1, ⟨k2, k3, k4⟩, -⟩ := id K2
  clear hb1 e0
  go_wp2_with fail
  refine (O2.out _ hB1).mono ?_
  rintro e w2 ⟨rfl, hb2⟩
  replace K1 := K1.old hb2
  replace K2 := K2.old hb2
  replace K3 := K3.old hb2
  have hB2 := old_trans hB1 hb2
  clear hb2 hB1 k1 k2 k3 k4 O1 O2
  obtain ⟨k1, ⟨k2, k3, k4⟩, -⟩ := id K1
  obtain ⟨j1, ⟨j2, j3, j4⟩, -⟩ := id K2
  go_wp2_with fail
  refine (SM.out _ hB2).mono ?_
  rintro e w4 ⟨⟨a1, c1, a2, c2, rfl, hO1, hO2⟩, hb4⟩
  replace K3 := K3.old hb4
  have hB4 := old_trans hB2 hb4
  have hs0 := K3.1
  clear k1 k2 k3 k4 j1 j2 j3 j4 hb4
  go_wp2_with fail
  refine (MK.out _ _ _ _ _ hO1.inI hO2.inI).mono ?_
  rintro e w6 ⟨⟨av, cv, av', cv', rfl, hO, hO', hS⟩, hb6⟩
  replace K3 := K3.old hb6
  have hB6 := old_trans hB4 hb6
  obtain ⟨m1, ⟨m2, m3, m4⟩, m5, m6, m7⟩ := id K3
  have hfin := hd (FRes.put (w' := w6) (s := s2) (base := w.heap.size) hO hO' hS hB4.size hs0)
  have hK := K3.setAll (.bool (fS okk s2 A)) (.slice av (fT okk A B).length cv) (.slice av' (fU okk A B).length cv')
  have hBG := below_set (below_set (below_set hB6 (show w.heap.size ≤ w.heap.size + 1 + 1 by omega) (i := 0) (.bool (fS okk s2 A))) (show w.heap.size ≤ w.heap.size + 1 + 1 by omega) (i := 1) (.slice av (fT okk A B).length cv)) (show w.heap.size ≤ w.heap.size + 1 + 1 by omega) (i := 2) (.slice av' (fU okk A B).length cv')
  clear hO hO' hO1 hO2 hS
  generalize fS okk s2 A = sg at *
  go_wp2
  exact bodyPost_ret (resFracAddS hK rfl rfl) rfl ⟨hfin.out, hBG⟩
end Go.Proofs.YtgoffjpfddmhhaaGreatDoor
