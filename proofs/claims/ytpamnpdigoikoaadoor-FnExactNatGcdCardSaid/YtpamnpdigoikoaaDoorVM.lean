/- Rests by the highest digits: the program's search for how often both numbers are taken in them. Conditions: two numbers below 2^48, the first not below the second. -/
import Derived.Test.YtpamnpdigoikoaaDoorVL
namespace Go.Proofs.YtpamnpdigoikoaaDoor
open Go.RowKit
set_option linter.unusedVariables false
set_option maxRecDepth 100000

/-- a block of four numbers of one's own -/
def Loc4 (w : World) (b : Nat) (p0 p1 q0 q1 : Int) : Prop := b < w.heap.size ∧ (w.cell? ⟨b, 0, none⟩ = some (.int .i64 p0) ∧ w.cell? ⟨b, 1, none⟩ = some (.int .i64 p1) ∧ w.cell? ⟨b, 2, none⟩ = some (.int .i64 q0) ∧ w.cell? ⟨b, 3, none⟩ = some (.int .i64 q1)) ∧ w.frozen? ⟨b, 0, none⟩ = false ∧ w.frozen? ⟨b, 1, none⟩ = false ∧ w.frozen? ⟨b, 2, none⟩ = false ∧ w.frozen? ⟨b, 3, none⟩ = false
theorem Loc4.old {w w' : World} {b : Nat} {p0 p1 q0 q1 : Int} (h : Loc4 w b p0 p1 q0 q1) (g : Below w.heap.size w w') : Loc4 w' b p0 p1 q0 q1 := by
  obtain ⟨h1, ⟨a, b', c, d⟩, e, f, g', i⟩ := h
  exact ⟨Nat.lt_of_lt_of_le h1 g.size, ⟨(g.cell (p := ⟨b, 0, none⟩) h1).trans a, (g.cell (p := ⟨b, 1, none⟩) h1).trans b', (g.cell (p := ⟨b, 2, none⟩) h1).trans c, (g.cell (p := ⟨b, 3, none⟩) h1).trans d⟩, (g.frozen (p := ⟨b, 0, none⟩) h1).trans e, (g.frozen (p := ⟨b, 1, none⟩) h1).trans f, (g.frozen (p := ⟨b, 2, none⟩) h1).trans g', (g.frozen (p := ⟨b, 3, none⟩) h1).trans i⟩
theorem Loc4.new (w : World) (p0 p1 q0 q1 : Int) (t : TypeId) : Loc4 (w.alloc (.cells #[.int .i64 p0, .int .i64 p1, .int .i64 q0, .int .i64 q1] t)) w.heap.size p0 p1 q0 q1 := by
  refine ⟨by simp, ⟨?_, ?_, ?_, ?_⟩, ?_, ?_, ?_, ?_⟩ <;> simp [go_sem]
theorem Loc4.set {W : World} {b : Nat} {v0 v1 v2 v3 : Int} (h : Loc4 W b v0 v1 v2 v3) (p0 p1 q0 q1 : Int) : Loc4 ((((W.setCell ⟨b, 0, none⟩ (.int .i64 p0)).setCell ⟨b, 1, none⟩ (.int .i64 p1)).setCell ⟨b, 2, none⟩ (.int .i64 q0)).setCell ⟨b, 3, none⟩ (.int .i64 q1)) b p0 p1 q0 q1 := by
  obtain ⟨h1, ⟨a0, a1, a2, a3⟩, f0, f1, f2, f3⟩ := h
  have o : ∀ (w : World) (i j : Nat) (v : Value), i ≠ j → (w.setCell ⟨b, j, none⟩ v).cell? ⟨b, i, none⟩ = w.cell? ⟨b, i, none⟩ := fun w i j v hn => World.cell?_setCell_other _ _ _ _ (by intro h; injection h with _ h2; omega)
  refine ⟨by simpa [World.setCell] using h1, ⟨?_, ?_, ?_, ?_⟩, by simpa using f0, by simpa using f1, by simpa using f2, by simpa using f3⟩
  · rw [o _ 0 3 _ (by omega), o _ 0 2 _ (by omega), o _ 0 1 _ (by omega)]
    exact World.cell?_setCell_same _ _ _ a0
  · rw [o _ 1 3 _ (by omega), o _ 1 2 _ (by omega)]
    exact World.cell?_setCell_same _ _ _ ((o _ 1 0 _ (by omega)).trans a1)
  · rw [o _ 2 3 _ (by omega)]
    exact World.cell?_setCell_same _ _ _ ((o _ 2 1 _ (by omega)).trans ((o _ 2 0 _ (by omega)).trans a2))
  · exact World.cell?_setCell_same _ _ _ ((o _ 3 2 _ (by omega)).trans ((o _ 3 1 _ (by omega)).trans ((o _ 3 0 _ (by omega)).trans a3)))
theorem Loc4.far1 {W : World} {b c i : Nat} {v0 v1 v2 v3 : Int} {v : Value} (h : Loc4 W b v0 v1 v2 v3) (hn : b ≠ c) : Loc4 (W.setCell ⟨c, i, none⟩ v) b v0 v1 v2 v3 := by
  obtain ⟨h1, ⟨a0, a1, a2, a3⟩, f0, f1, f2, f3⟩ := h
  have o : ∀ (j : Nat), (W.setCell ⟨c, i, none⟩ v).cell? ⟨b, j, none⟩ = W.cell? ⟨b, j, none⟩ := fun j => World.cell?_setCell_other _ _ _ _ (by intro h; injection h with h2 _; omega)
  exact ⟨by simpa [World.setCell] using h1, ⟨(o 0).trans a0, (o 1).trans a1, (o 2).trans a2, (o 3).trans a3⟩, by simpa using f0, by simpa using f1, by simpa using f2, by simpa using f3⟩
theorem set4_below {n : Nat} {a W : World} (h : Below n a W) {b : Nat} (hb : n ≤ b) (v0 v1 v2 v3 : Value) : Below n a ((((W.setCell ⟨b, 0, none⟩ v0).setCell ⟨b, 1, none⟩ v1).setCell ⟨b, 2, none⟩ v2).setCell ⟨b, 3, none⟩ v3) :=
  (((h.setCell (p := ⟨b, 0, none⟩) hb _).setCell (p := ⟨b, 1, none⟩) hb _).setCell (p := ⟨b, 2, none⟩) hb _).setCell (p := ⟨b, 3, none⟩) hb _
theorem res4 {W : World} {b : Nat} {p0 p1 q0 q1 : Int} {tmps : Array Value} (h : Loc4 W b p0 p1 q0 q1) (ht : tmps[4]? = some (.pointer (some ⟨b, 0, none⟩))) : (results Tryd.f96 tmps).run Tryd.prog W = .ok (.agg #[.int .i64 p0, .int .i64 p1, .int .i64 q0, .int .i64 q1]) W := by
  obtain ⟨h1, ⟨a0, a1, a2, a3⟩, -⟩ := h
  simp [results, Tryd.results96, go_sem, a0, a1, a2, a3, ht]
set_option maxHeartbeats 4000000 in
theorem iSure (x0 y0 : Int) (w : World) (hx : 0 ≤ x0 ∧ x0 < 281474976710656) (hy : 0 ≤ y0 ∧ y0 < 281474976710656) (hxy : y0 ≤ x0) :
    Calls Tryd.prog 96 #[.int .i64 x0, .int .i64 y0] w fun e w' => (∃ p0 p1 q0 q1, e = .returned (.agg #[.int .i64 p0, .int .i64 p1, .int .i64 q0, .int .i64 q1]) ∧ GoodRests x0 y0 p0 p1 q0 q1) ∧ Below w.heap.size w w' := by
  have NR := hd iNoRests
  go_enter Tryd.func96, Tryd.ntmps96
  go_wp2_with fail
  refine (NR.out _).mono ?_
  rintro e w1 ⟨rfl, hb1⟩
  go_wp2_with fail
  have L4 := (Loc4.new w 0 0 0 0 111).old hb1
  have hB1 : Below w.heap.size w w1 := old_trans (old_alloc (Below.refl _ w) _) hb1
  have L5 := Loc4.new w1 1 0 0 1 111
  have L4' := L4.old (old_alloc (Below.refl _ w1) (.cells #[.int .i64 1, .int .i64 0, .int .i64 0, .int .i64 1] 111))
  have hB2 := old_alloc hB1 (.cells #[.int .i64 1, .int .i64 0, .int .i64 0, .int .i64 1] 111)
  have hne : w.heap.size < w1.heap.size := by have := hb1.size; simp at this; omega
  clear L4 hb1 hB1
  generalize hrb : w1.heap.size = rb at *
  generalize w1.alloc (.cells #[.int .i64 1, .int .i64 0, .int .i64 0, .int .i64 1] 111) = w2 at *
  clear hrb
  go_loopg [0, 1] y0.toNat (fun k s t wr => ∃ (x y p0 p1 q0 q1 : Int), s = .int .i64 x ∧ t = .int .i64 y ∧ (y + q0).toNat = k ∧ LemR x0 y0 p0 p1 q0 q1 x y ∧ Loc4 wr w.heap.size 0 0 0 0 ∧ Loc4 wr rb p0 p1 q0 q1 ∧ Below w.heap.size w wr)
  case atStart => exact ⟨x0, y0, 1, 0, 0, 1, rfl, rfl, by simp, LemR.start hx.1 hy.1, L4', L5, hB2⟩
  case round =>
    clear L4' L5 hB2
    obtain ⟨x, y, p0, p1, q0, q1, rfl, rfl, hk, hL, Lo, Lr, hB⟩ := hrel
    obtain ⟨s1, ⟨s2, s3, s4, s5⟩, s6, s7, s8, s9⟩ := Lr
    obtain ⟨⟨⟨z1, z2⟩, ⟨z3, z4⟩, ⟨z5, z6⟩, ⟨z7, z8⟩⟩, ⟨a1, a2⟩, ⟨a3, a4⟩, ⟨a5, a6⟩, a7, a8⟩ := hL.bd hx hy hxy
    have hL' := hd hL
    clear hL
    go_wp2_with fail
    go_region_held3 (fun w' => (w'.cell? ⟨rb, 0, none⟩ = some (.int .i64 p0) ∧ w'.cell? ⟨rb, 1, none⟩ = some (.int .i64 p1) ∧ w'.cell? ⟨rb, 2, none⟩ = some (.int .i64 q0) ∧ w'.cell? ⟨rb, 3, none⟩ = some (.int .i64 q1))) (go_keep) (fail)
    · have hs := hB.size
      have hBW : Below wr.heap.size wr (((wr.alloc (.cells #[.int .i64 p0, .int .i64 p1] 109)).alloc (.cells #[.int .i64 q0, .int .i64 q1] 109)).drew) := (old_alloc (old_alloc (Below.refl _ wr) _) _).drew
      have Lo2 := Lo.old hBW
      have Lr2 := (show Loc4 wr rb p0 p1 q0 q1 from ⟨s1, ⟨s2, s3, s4, s5⟩, s6, s7, s8, s9⟩).old hBW
      have hB2 := old_trans hB hBW
      have e1 : (((wr.alloc (.cells #[.int .i64 p0, .int .i64 p1] 109)).alloc (.cells #[.int .i64 q0, .int .i64 q1] 109)).drew).cell? ⟨wr.heap.size, 0, none⟩ = some (.int .i64 p0) := by simp [go_sem]
      have e2 : (((wr.alloc (.cells #[.int .i64 p0, .int .i64 p1] 109)).alloc (.cells #[.int .i64 q0, .int .i64 q1] 109)).drew).cell? ⟨wr.heap.size, 1, none⟩ = some (.int .i64 p1) := by simp [go_sem]
      have e3 : (((wr.alloc (.cells #[.int .i64 p0, .int .i64 p1] 109)).alloc (.cells #[.int .i64 q0, .int .i64 q1] 109)).drew).cell? ⟨wr.heap.size + 1, 0, none⟩ = some (.int .i64 q0) := by simp [go_sem]
      have e4 : (((wr.alloc (.cells #[.int .i64 p0, .int .i64 p1] 109)).alloc (.cells #[.int .i64 q0, .int .i64 q1] 109)).drew).cell? ⟨wr.heap.size + 1, 1, none⟩ = some (.int .i64 q1) := by simp [go_sem]
      obtain ⟨m1, ⟨m2, m3, m4, m5⟩, m6, m7, m8, m9⟩ := Lo2
      obtain ⟨n1, ⟨n2, n3, n4, n5⟩, n6, n7, n8, n9⟩ := Lr2
      clear hBW s1 s2 s3 s4 s5 s6 s7 s8 s9 Lo
      generalize hLB : wr.heap.size = lb at *
      generalize hNB : wr.heap.size + 1 = nb at *
      generalize ((wr.alloc (.cells #[.int .i64 p0, .int .i64 p1] 109)).alloc (.cells #[.int .i64 q0, .int .i64 q1] 109)).drew = W at *
      clear hLB hNB
      by_cases hz0 : y + q0 = 0
      · have hzb : (y + q0 == 0) = true := by simpa using hz0
        have hG := hd hL'.out.good
        clear hL'
        go_wp2
        refine bodyPost_ret (res4 ((show Loc4 W w.heap.size 0 0 0 0 from ⟨m1, ⟨m2, m3, m4, m5⟩, m6, m7, m8, m9⟩).set p0 p1 q0 q1) rfl) rfl ⟨⟨_, _, _, _, rfl, hG.out⟩, set4_below hB2 (Nat.le_refl _) _ _ _ _⟩
      · have hzb : (y + q0 == 0) = false := by simpa using hz0
        by_cases hz1 : y + q1 = 0
        · have hzc : (y + q1 == 0) = true := by simpa using hz1
          have hG := hd hL'.out.good
          clear hL'
          go_wp2
          refine bodyPost_ret (res4 ((show Loc4 W w.heap.size 0 0 0 0 from ⟨m1, ⟨m2, m3, m4, m5⟩, m6, m7, m8, m9⟩).set p0 p1 q0 q1) rfl) rfl ⟨⟨_, _, _, _, rfl, hG.out⟩, set4_below hB2 (Nat.le_refl _) _ _ _ _⟩
        · have hzc : (y + q1 == 0) = false := by simpa using hz1
          have t0 : (x + p0).tdiv (y + q0) = (x + p0) / (y + q0) := Int.tdiv_eq_ediv_of_nonneg a1
          have t1 : (x + p1).tdiv (y + q1) = (x + p1) / (y + q1) := Int.tdiv_eq_ediv_of_nonneg a3
          have g0 : 0 ≤ (x + p0) / (y + q0) := Int.ediv_nonneg a1 a5
          have g1 : 0 ≤ (x + p1) / (y + q1) := Int.ediv_nonneg a3 a7
          have g2 : (x + p0) / (y + q0) ≤ 281474976710656 := Int.le_trans (Int.ediv_le_self _ a1) a2
          have g3 : (x + p1) / (y + q1) ≤ 281474976710656 := Int.le_trans (Int.ediv_le_self _ a3) a4
          by_cases hq : (x + p0) / (y + q0) = (x + p1) / (y + q1)
          · have hS := hL'.out.step hx hy (by omega) (by omega) rfl hq
            obtain ⟨⟨⟨w1, w2⟩, ⟨w3, w4⟩, ⟨w5, w6⟩, ⟨w7, w8⟩⟩, ⟨b1, b2⟩, ⟨b3, b4⟩, ⟨b5, b6⟩, b7, b8⟩ := hS.1.bd hx hy hxy
            rw [← hq] at t1
            have hS' := hd hS
            clear hS hL' g1 g3 hq
            generalize (x + p0) / (y + q0) = kk at *
            have h1 : -33554432 ≤ kk * q0 ∧ kk * q0 ≤ 33554432 := by omega
            have h2 : -33554432 ≤ kk * q1 ∧ kk * q1 ≤ 33554432 := by omega
            have h3 : -1125899906842624 ≤ kk * y ∧ kk * y ≤ 1125899906842624 := by omega
            go_wp2
            go_roundg ((x - kk * y) + (p0 - kk * q0)).toNat
            case measure =>
              have h9 := hS'.out.2
              omega
            case rel => exact ⟨y, x - kk * y, q0, q1, p0 - kk * q0, p1 - kk * q1, rfl, rfl, rfl, hS'.out.1, ((((show Loc4 W w.heap.size 0 0 0 0 from ⟨m1, ⟨m2, m3, m4, m5⟩, m6, m7, m8, m9⟩).far1 (by omega)).far1 (by omega)).far1 (by omega)).far1 (by omega), (show Loc4 W rb p0 p1 q0 q1 from ⟨n1, ⟨n2, n3, n4, n5⟩, n6, n7, n8, n9⟩).set q0 q1 (p0 - kk * q0) (p1 - kk * q1), set4_below hB2 (by omega) _ _ _ _⟩
          · have hG := hd hL'.out.good
            clear hL'
            generalize (x + p0) / (y + q0) = kk at *
            generalize (x + p1) / (y + q1) = kl at *
            have hqb : (kk == kl) = false := by simpa using hq
            go_wp2
            refine bodyPost_ret (res4 ((show Loc4 W w.heap.size 0 0 0 0 from ⟨m1, ⟨m2, m3, m4, m5⟩, m6, m7, m8, m9⟩).set p0 p1 q0 q1) rfl) rfl ⟨⟨_, _, _, _, rfl, hG.out⟩, set4_below hB2 (Nat.le_refl _) _ _ _ _⟩
    · have hs := hB.size
      have hBW : Below wr.heap.size wr (((wr.alloc (.cells #[.int .i64 q0, .int .i64 q1] 109)).alloc (.cells #[.int .i64 p0, .int .i64 p1] 109)).drew) := (old_alloc (old_alloc (Below.refl _ wr) _) _).drew
      have Lo2 := Lo.old hBW
      have Lr2 := (show Loc4 wr rb p0 p1 q0 q1 from ⟨s1, ⟨s2, s3, s4, s5⟩, s6, s7, s8, s9⟩).old hBW
      have hB2 := old_trans hB hBW
      have e1 : (((wr.alloc (.cells #[.int .i64 q0, .int .i64 q1] 109)).alloc (.cells #[.int .i64 p0, .int .i64 p1] 109)).drew).cell? ⟨wr.heap.size + 1, 0, none⟩ = some (.int .i64 p0) := by simp [go_sem]
      have e2 : (((wr.alloc (.cells #[.int .i64 q0, .int .i64 q1] 109)).alloc (.cells #[.int .i64 p0, .int .i64 p1] 109)).drew).cell? ⟨wr.heap.size + 1, 1, none⟩ = some (.int .i64 p1) := by simp [go_sem]
      have e3 : (((wr.alloc (.cells #[.int .i64 q0, .int .i64 q1] 109)).alloc (.cells #[.int .i64 p0, .int .i64 p1] 109)).drew).cell? ⟨wr.heap.size, 0, none⟩ = some (.int .i64 q0) := by simp [go_sem]
      have e4 : (((wr.alloc (.cells #[.int .i64 q0, .int .i64 q1] 109)).alloc (.cells #[.int .i64 p0, .int .i64 p1] 109)).drew).cell? ⟨wr.heap.size, 1, none⟩ = some (.int .i64 q1) := by simp [go_sem]
      obtain ⟨m1, ⟨m2, m3, m4, m5⟩, m6, m7, m8, m9⟩ := Lo2
      obtain ⟨n1, ⟨n2, n3, n4, n5⟩, n6, n7, n8, n9⟩ := Lr2
      clear hBW s1 s2 s3 s4 s5 s6 s7 s8 s9 Lo
      generalize hLB : wr.heap.size + 1 = lb at *
      generalize hNB : wr.heap.size = nb at *
      generalize ((wr.alloc (.cells #[.int .i64 q0, .int .i64 q1] 109)).alloc (.cells #[.int .i64 p0, .int .i64 p1] 109)).drew = W at *
      clear hLB hNB
      by_cases hz0 : y + q0 = 0
      · have hzb : (y + q0 == 0) = true := by simpa using hz0
        have hG := hd hL'.out.good
        clear hL'
        go_wp2
        refine bodyPost_ret (res4 ((show Loc4 W w.heap.size 0 0 0 0 from ⟨m1, ⟨m2, m3, m4, m5⟩, m6, m7, m8, m9⟩).set p0 p1 q0 q1) rfl) rfl ⟨⟨_, _, _, _, rfl, hG.out⟩, set4_below hB2 (Nat.le_refl _) _ _ _ _⟩
      · have hzb : (y + q0 == 0) = false := by simpa using hz0
        by_cases hz1 : y + q1 = 0
        · have hzc : (y + q1 == 0) = true := by simpa using hz1
          have hG := hd hL'.out.good
          clear hL'
          go_wp2
          refine bodyPost_ret (res4 ((show Loc4 W w.heap.size 0 0 0 0 from ⟨m1, ⟨m2, m3, m4, m5⟩, m6, m7, m8, m9⟩).set p0 p1 q0 q1) rfl) rfl ⟨⟨_, _, _, _, rfl, hG.out⟩, set4_below hB2 (Nat.le_refl _) _ _ _ _⟩
        · have hzc : (y + q1 == 0) = false := by simpa using hz1
          have t0 : (x + p0).tdiv (y + q0) = (x + p0) / (y + q0) := Int.tdiv_eq_ediv_of_nonneg a1
          have t1 : (x + p1).tdiv (y + q1) = (x + p1) / (y + q1) := Int.tdiv_eq_ediv_of_nonneg a3
          have g0 : 0 ≤ (x + p0) / (y + q0) := Int.ediv_nonneg a1 a5
          have g1 : 0 ≤ (x + p1) / (y + q1) := Int.ediv_nonneg a3 a7
          have g2 : (x + p0) / (y + q0) ≤ 281474976710656 := Int.le_trans (Int.ediv_le_self _ a1) a2
          have g3 : (x + p1) / (y + q1) ≤ 281474976710656 := Int.le_trans (Int.ediv_le_self _ a3) a4
          by_cases hq : (x + p0) / (y + q0) = (x + p1) / (y + q1)
          · have hS := hL'.out.step hx hy (by omega) (by omega) rfl hq
            obtain ⟨⟨⟨w1, w2⟩, ⟨w3, w4⟩, ⟨w5, w6⟩, ⟨w7, w8⟩⟩, ⟨b1, b2⟩, ⟨b3, b4⟩, ⟨b5, b6⟩, b7, b8⟩ := hS.1.bd hx hy hxy
            rw [← hq] at t1
            have hS' := hd hS
            clear hS hL' g1 g3 hq
            generalize (x + p0) / (y + q0) = kk at *
            have h1 : -33554432 ≤ kk * q0 ∧ kk * q0 ≤ 33554432 := by omega
            have h2 : -33554432 ≤ kk * q1 ∧ kk * q1 ≤ 33554432 := by omega
            have h3 : -1125899906842624 ≤ kk * y ∧ kk * y ≤ 1125899906842624 := by omega
            go_wp2
            go_roundg ((x - kk * y) + (p0 - kk * q0)).toNat
            case measure =>
              have h9 := hS'.out.2
              omega
            case rel => exact ⟨y, x - kk * y, q0, q1, p0 - kk * q0, p1 - kk * q1, rfl, rfl, rfl, hS'.out.1, ((((show Loc4 W w.heap.size 0 0 0 0 from ⟨m1, ⟨m2, m3, m4, m5⟩, m6, m7, m8, m9⟩).far1 (by omega)).far1 (by omega)).far1 (by omega)).far1 (by omega), (show Loc4 W rb p0 p1 q0 q1 from ⟨n1, ⟨n2, n3, n4, n5⟩, n6, n7, n8, n9⟩).set q0 q1 (p0 - kk * q0) (p1 - kk * q1), set4_below hB2 (by omega) _ _ _ _⟩
          · have hG := hd hL'.out.good
            clear hL'
            generalize (x + p0) / (y + q0) = kk at *
            generalize (x + p1) / (y + q1) = kl at *
            have hqb : (kk == kl) = false := by simpa using hq
            go_wp2
            refine bodyPost_ret (res4 ((show Loc4 W w.heap.size 0 0 0 0 from ⟨m1, ⟨m2, m3, m4, m5⟩, m6, m7, m8, m9⟩).set p0 p1 q0 q1) rfl) rfl ⟨⟨_, _, _, _, rfl, hG.out⟩, set4_below hB2 (Nat.le_refl _) _ _ _ _⟩
end Go.Proofs.YtpamnpdigoikoaaDoor
