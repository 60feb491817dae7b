/- The value of a finite float of either width as a fraction times a power of two, by the program: the size of the wide float without the twos in it. Condition: the library's table holds what its text lays. -/
import Derived.Test.YtmhifokmncfgeaaGreatDoorXB
import Derived.Test.YtmhifokmncfgeaaGreatDoorXA
import Derived.Test.YtmhifokmncfgeaaGreatDoorFU
namespace Go.Proofs.YtmhifokmncfgeaaGreatDoor
open Go.RowKit
set_option linter.unusedVariables false
set_option maxRecDepth 100000

/-- a block of four values -/
structure C4 (w : World) (b : Nat) (x y z u : Value) : Prop where
  cells : w.cell? ⟨b, 0, none⟩ = some x ∧ w.cell? ⟨b, 1, none⟩ = some y ∧ w.cell? ⟨b, 2, none⟩ = some z ∧ w.cell? ⟨b, 3, none⟩ = some u
  froz : w.frozen? ⟨b, 0, none⟩ = false ∧ w.frozen? ⟨b, 1, none⟩ = false ∧ w.frozen? ⟨b, 2, none⟩ = false ∧ w.frozen? ⟨b, 3, none⟩ = false
  lt : b < w.heap.size
theorem C4.old {w w1 : World} {b : Nat} {x y z u : Value} (h : C4 w b x y z u) (hb : Below w.heap.size w w1) : C4 w1 b x y z u := by
  obtain ⟨⟨h1, h2, h3, h4⟩, ⟨g1, g2, g3, g4⟩, h5⟩ := h
  exact ⟨⟨(hb.cell (p := ⟨b, 0, none⟩) h5).trans h1, (hb.cell (p := ⟨b, 1, none⟩) h5).trans h2, (hb.cell (p := ⟨b, 2, none⟩) h5).trans h3, (hb.cell (p := ⟨b, 3, none⟩) h5).trans h4⟩, ⟨(hb.frozen (p := ⟨b, 0, none⟩) h5).trans g1, (hb.frozen (p := ⟨b, 1, none⟩) h5).trans g2, (hb.frozen (p := ⟨b, 2, none⟩) h5).trans g3, (hb.frozen (p := ⟨b, 3, none⟩) h5).trans g4⟩, Nat.lt_of_lt_of_le h5 hb.size⟩
theorem C4.drew {w : World} {b : Nat} {x y z u : Value} (h : C4 w b x y z u) : C4 w.drew b x y z u := ⟨h.cells, h.froz, h.lt⟩
theorem C4.new (w : World) (x y z u : Value) (t : TypeId) : C4 (w.alloc (.cells #[x, y, z, u] t)) w.heap.size x y z u := by
  refine ⟨⟨?_, ?_, ?_, ?_⟩, ⟨?_, ?_, ?_, ?_⟩, by simp⟩ <;> simp [go_sem]
theorem C4.far {w : World} {b c i : Nat} {x y z u v : Value} (h : C4 w b x y z u) (hn : b ≠ c) : C4 (w.setCell ⟨c, i, none⟩ v) b x y z u := by
  obtain ⟨⟨a0, a1, a2, a3⟩, ⟨f0, f1, f2, f3⟩, h1⟩ := h
  have o : ∀ (j : Nat), (w.setCell ⟨c, i, none⟩ v).cell? ⟨b, j, none⟩ = w.cell? ⟨b, j, none⟩ := fun j => World.cell?_setCell_other _ _ _ _ (by intro h; injection h with h2 _; omega)
  exact ⟨⟨(o 0).trans a0, (o 1).trans a1, (o 2).trans a2, (o 3).trans a3⟩, ⟨by simpa using f0, by simpa using f1, by simpa using f2, by simpa using f3⟩, by simpa [World.setCell] using h1⟩
theorem C4.stored {w : World} {b : Nat} {x y z u : Value} (h : C4 w b x y z u) (v0 v1 v2 v3 : Value) : C4 ((((w.setCell ⟨b, 0, none⟩ v0).setCell ⟨b, 1, none⟩ v1).setCell ⟨b, 2, none⟩ v2).setCell ⟨b, 3, none⟩ v3) b v0 v1 v2 v3 := by
  obtain ⟨⟨a0, a1, a2, a3⟩, ⟨f0, f1, f2, f3⟩, h1⟩ := h
  refine ⟨⟨?_, ?_, ?_, ?_⟩, ⟨by simpa using f0, by simpa using f1, by simpa using f2, by simpa using f3⟩, by simpa [World.setCell] using h1⟩
  · rw [setO _ _ _ _ _ (by omega), setO _ _ _ _ _ (by omega), setO _ _ _ _ _ (by omega)]; exact World.cell?_setCell_same _ _ _ a0
  · rw [setO _ _ _ _ _ (by omega), setO _ _ _ _ _ (by omega)]; exact World.cell?_setCell_same _ _ _ ((setO _ _ _ _ _ (by omega)).trans a1)
  · rw [setO _ _ _ _ _ (by omega)]; exact World.cell?_setCell_same _ _ _ ((setO _ _ _ _ _ (by omega)).trans ((setO _ _ _ _ _ (by omega)).trans a2))
  · exact World.cell?_setCell_same _ _ _ ((setO _ _ _ _ _ (by omega)).trans ((setO _ _ _ _ _ (by omega)).trans ((setO _ _ _ _ _ (by omega)).trans a3)))
theorem three_later {w w1 : World} {p : Nat} {x y z : Value} (h : w.cell? ⟨p, 0, none⟩ = some x ∧ w.cell? ⟨p, 1, none⟩ = some y ∧ w.cell? ⟨p, 2, none⟩ = some z) (hb : Below w.heap.size w w1) :
    w1.cell? ⟨p, 0, none⟩ = some x ∧ w1.cell? ⟨p, 1, none⟩ = some y ∧ w1.cell? ⟨p, 2, none⟩ = some z :=
  ⟨cell_later hb h.1, cell_later hb h.2.1, cell_later hb h.2.2⟩

theorem tz_zero (w : World) : Calls Tryz.prog 148 #[.int .u64 0] w fun e w' => e = .returned (.int .i64 64) ∧ w' = w := by
  go_enter Tryz.func148, Tryz.ntmps148
  go_wp2
  go_ret
  exact ⟨rfl, rfl⟩
/-- the twos of a size, and what is left of it -/
theorem twos_size (s : Nat) (h : s < 9007199254740992) : ∃ o ee : Nat, s = o * 2 ^ ee ∧ ee ≤ 64 ∧ s / 2 ^ ee = o ∧ o < 18446744073709551616 ∧ ∀ w, Tab w → Calls Tryz.prog 148 #[.int .u64 (s : Int)] w fun e w' => e = .returned (.int .i64 (ee : Int)) ∧ w' = w := by
  by_cases h0 : s = 0
  · subst h0
    exact ⟨0, 64, by simp, by omega, by simp, by omega, fun w _ => tz_zero w⟩
  · obtain ⟨o, ho, e⟩ := twosOf_ex h0
    have hle : o ≤ s := by rw [e]; exact Nat.le_mul_of_pos_right _ (Nat.pow_pos (by omega))
    have hz : twosOf s ≤ 64 := by
      apply Nat.le_of_not_lt
      intro hlt
      have h1 : 2 ^ 64 ≤ 2 ^ twosOf s := Nat.pow_le_pow_right (by omega) (by omega)
      have h2 : 2 ^ twosOf s ≤ s := by
        have : 2 ^ twosOf s ≤ o * 2 ^ twosOf s := Nat.le_mul_of_pos_left _ (by omega)
        omega
      have : (2 : Nat) ^ 64 = 18446744073709551616 := by decide
      omega
    refine ⟨o, twosOf s, e, hz, ?_, by omega, fun w hT => ?_⟩
    · have h1 : o * 2 ^ twosOf s / 2 ^ twosOf s = o := Nat.mul_div_cancel _ (Nat.pow_pos (by omega))
      rw [← e] at h1
      exact h1
    · have C := ntz_any o (twosOf s) w ho (by rw [← e]; have : (2 : Nat) ^ 64 = 18446744073709551616 := by decide
                                              omega) hT
      rw [← e] at C
      exact C
theorem div_pow {s ee o : Nat} (he : s / 2 ^ ee = o) : (s : Int) / 2 ^ ee = (o : Int) := by
  rw [← he]
  rw [Int.natCast_ediv, Int.natCast_pow]
  rfl
theorem shr_u64 (s ee o : Nat) (he : s / 2 ^ ee = o) (hz : ee ≤ 64) : Op.shift .shr .u64 (s : Int) .i64 (ee : Int) = pure (.int .u64 (o : Int)) := by
  have h := shift_shr_u64 (yk := .i64) (x := (s : Int)) (y := (ee : Int)) (by omega) (by omega)
  rw [Int.toNat_natCast, div_pow he] at h
  exact h
theorem resVal32 {W : World} {b : Nat} {v0 v1 v2 v3 : Value} {tmps : Array Value} (h : C4 W b v0 v1 v2 v3) (ht : tmps[4]? = some (.pointer (some ⟨b, 0, none⟩))) : (results Tryz.f169 tmps).run Tryz.prog W = .ok (.agg #[v0, v1, v2, v3]) W := by
  obtain ⟨⟨a0, a1, a2, a3⟩, -, -⟩ := h
  simp [results, Tryz.results169, go_sem, a0, a1, a2, a3, ht]
set_option maxHeartbeats 4000000 in
theorem value_core32 (v : Value) (n N p : Int) (b X s o ee : Nat) (g q : Bool) (w : World) (hT : Tab w)
    (FL : Hid (∀ w, Calls Tryz.prog 177 #[v, .int .i64 n] w fun e w' => e = .returned (.float .f32 b) ∧ Below w.heap.size w w'))
    (cv : ∀ w, (convert 223 228 (.float .f32 b)).run Tryz.prog w = .ok (.float .f64 X) w)
    (BO : Hid (∀ w, Calls Tryz.prog 175 #[.int .i64 64, .int .u64 (X : Int)] w fun e w' => e = .returned (.tuple #[.int .i64 N, .bool q]) ∧ Below w.heap.size w w'))
    (PT : Hid (∀ w, Calls Tryz.prog 44 #[.int .i64 64, .int .i64 N] w fun e w' => e = .returned (.tuple #[.agg #[.bool g, .int .u64 (s : Int), .int .i64 p], .bool true]) ∧ Below w.heap.size w w'))
    (TZ : Hid (∀ w, Tab w → Calls Tryz.prog 148 #[.int .u64 (s : Int)] w fun e w' => e = .returned (.int .i64 (ee : Int)) ∧ w' = w))
    (hsh : Op.shift .shr .u64 (s : Int) .i64 (ee : Int) = pure (.int .u64 (o : Int))) (hdv : (s : Int) / 2 ^ ee = (o : Int)) (ho : o < 18446744073709551616) (he : (ee : Int) ≤ 64) (hp : -2000 ≤ p ∧ p ≤ 2000) :
    Calls Tryz.prog 169 #[v, .int .i64 n] w fun e w' => (∃ av cv bv dv, e = .returned (.agg #[.bool g, .slice av (natL o).length cv, .slice bv (natL 1).length dv, .int .i64 (p + ee)]) ∧ OI w' w.heap.size av cv (natL o) ∧ OI w' w.heap.size bv dv (natL 1)) ∧ Below w.heap.size w w' := by
  have c64 := bits64 X
  have NO := hd (iNatOf o ho)
  have WH := hd (fun a l k w => iWhole g a l k w)
  have e0 : Below w.heap.size w (w.alloc (.cells #[.bool false, .slice none 0 0, .slice none 0 0, .int .i64 0] 84)) := (by repeat (first | exact Below.refl _ _ | refine Below.drew ?_ | refine old_alloc ?_ _ | refine old_trans ?_ (by assumption)))
  have K := C4.new w (.bool false) (.slice none 0 0) (.slice none 0 0) (.int .i64 0) 84
  have hs0 := K.lt
  generalize natL 1 = ol at *
  generalize natL o = tl at *
  clear ho
  go_enter Tryz.func169, Tryz.ntmps169
  go_wp2_with fail
  refine (FL.out _).mono ?_
  rintro e w1 ⟨rfl, hb1⟩
  replace K := K.old hb1
  have hB := old_trans e0 hb1
  clear hb1 FL
  go_wp2_with fail
  refine (BO.out _).mono ?_
  rintro e w2 ⟨rfl, hb2⟩
  replace K := K.old hb2
  replace hB := old_trans hB hb2
  clear hb2 BO
  go_wp2_with fail
  refine (PT.out _).mono ?_
  rintro e w3 ⟨rfl, hb3⟩
  replace K := K.old hb3
  replace hB := old_trans hB hb3
  clear hb3 PT
  have hlt := K.lt
  have ha : Below w3.heap.size w3 (w3.alloc (.cells #[.bool g, .int .u64 (s : Int), .int .i64 p] 63)) := old_alloc (Below.refl _ _) _
  have hB4 := old_trans hB ha
  have K4 := K.old ha
  have P3 := Cel3.new w3 (.bool g) (.int .u64 (s : Int)) (.int .i64 p) 63
  go_wp2_with fail
  refine (TZ.out _ (hT.old hB4)).mono ?_
  rintro e w4 ⟨rfl, rfl⟩
  clear TZ hT ha hB K
  have hS : (w3.alloc (.cells #[.bool g, .int .u64 (s : Int), .int .i64 p] 63)).cell? ⟨w3.heap.size, 0, none⟩ = some (.bool g) ∧ (w3.alloc (.cells #[.bool g, .int .u64 (s : Int), .int .i64 p] 63)).cell? ⟨w3.heap.size, 1, none⟩ = some (.int .u64 (s : Int)) ∧ (w3.alloc (.cells #[.bool g, .int .u64 (s : Int), .int .i64 p] 63)).cell? ⟨w3.heap.size, 2, none⟩ = some (.int .i64 p) := P3.2.1
  generalize w3.alloc (.cells #[.bool g, .int .u64 (s : Int), .int .i64 p] 63) = W at *
  generalize w3.heap.size = PB at *
  have CN := hd (fun w' (hS : w'.cell? ⟨PB, 0, none⟩ = some (.bool g) ∧ w'.cell? ⟨PB, 1, none⟩ = some (.int .u64 (s : Int)) ∧ w'.cell? ⟨PB, 2, none⟩ = some (.int .i64 p)) => (NO.out w').mono (fun e w'' (k : _ ∧ _) => (⟨k, three_later hS k.2⟩ : (_ ∧ _) ∧ (w''.cell? ⟨PB, 0, none⟩ = some (.bool g) ∧ w''.cell? ⟨PB, 1, none⟩ = some (.int .u64 (s : Int)) ∧ w''.cell? ⟨PB, 2, none⟩ = some (.int .i64 p)))))
  have CW := hd (fun a l k w' (hS : w'.cell? ⟨PB, 0, none⟩ = some (.bool g) ∧ w'.cell? ⟨PB, 1, none⟩ = some (.int .u64 (s : Int)) ∧ w'.cell? ⟨PB, 2, none⟩ = some (.int .i64 p)) => (WH.out a l k w').mono (fun e w'' (k : _ ∧ _) => (⟨k, three_later hS k.2⟩ : (_ ∧ _) ∧ (w''.cell? ⟨PB, 0, none⟩ = some (.bool g) ∧ w''.cell? ⟨PB, 1, none⟩ = some (.int .u64 (s : Int)) ∧ w''.cell? ⟨PB, 2, none⟩ = some (.int .i64 p)))))
  clear NO WH P3
  obtain ⟨h0, h1, h2⟩ := id hS
  have z1 : w.heap.size ≠ PB := by omega
  have z2 := z1.symm
  have hwr : IntKind.i64.wrap (p + (ee : Int)) = p + ee := by simp [IntKind.wrap, IntKind.bits, IntKind.signed]; omega
  go_wp2_with fail
  go_region_held3 (fun w' => w'.cell? ⟨PB, 0, none⟩ = some (.bool g) ∧ w'.cell? ⟨PB, 1, none⟩ = some (.int .u64 (s : Int)) ∧ w'.cell? ⟨PB, 2, none⟩ = some (.int .i64 p)) (go_keep) (first | (go_at_call 179; refine (CN.out _ (by assumption)).mono ?_; rintro e wx ⟨⟨⟨av, cvv, rfl, A⟩, hbx⟩, hcx⟩; have hBx := (by first | exact old_trans hB4 hbx | exact old_trans (Below.drew hB4) hbx : Below w.heap.size w wx); have Kx := (by first | exact K4.old hbx | exact K4.drew.old hbx : C4 wx _ _ _ _ _)) | (go_at_call 178; refine (CW.out _ _ _ _ (by assumption)).mono ?_; rintro e wy ⟨⟨⟨bv, dv, rfl, B⟩, hby⟩, hcy⟩; have hBy := (by first | exact old_trans hBx hby | exact old_trans (Below.drew hBx) hby : Below w.heap.size w wy); have Ky := (by first | exact Kx.old hby | exact Kx.drew.old hby : C4 wy _ _ _ _ _); have A2 := (by first | exact A.later hby | exact OI.later (w := World.drew _) A hby : OI wy _ _ _ _); obtain ⟨⟨y0, y1, y2, y3⟩, ⟨f0, f1, f2, f3⟩, yz⟩ := id Ky))
  all_goals
    go_wp2
    have q1 : w.heap.size < W.heap.size := K4.lt
    have q3 : w.heap.size < wx.heap.size := Kx.lt
    exact bodyPost_ret (resVal32 (by first | with_reducible exact Ky.stored _ _ _ _ | with_reducible exact (Ky.stored _ _ _ _).drew | exact Ky.stored _ _ _ _ | exact (Ky.stored _ _ _ _).drew) rfl) rfl ⟨⟨_, _, _, _, rfl, OI.mono (by exact oi_setFar (oi_setFar (oi_setFar (oi_setFar A2 (by exact q1)) (by exact q1)) (by exact q1)) (by exact q1)) (by exact Nat.le_of_lt q1), OI.mono (by exact oi_setFar (oi_setFar (oi_setFar (oi_setFar B (by exact q3)) (by exact q3)) (by exact q3)) (by exact q3)) (by exact Nat.le_of_lt q3)⟩, (by exact below_set (below_set (below_set (below_set hBy (Nat.le_refl _) _) (Nat.le_refl _) _) (Nat.le_refl _) _) (Nat.le_refl _) _)⟩
theorem resVal64 {W : World} {b : Nat} {v0 v1 v2 v3 : Value} {tmps : Array Value} (h : C4 W b v0 v1 v2 v3) (ht : tmps[4]? = some (.pointer (some ⟨b, 0, none⟩))) : (results Tryz.f196 tmps).run Tryz.prog W = .ok (.agg #[v0, v1, v2, v3]) W := by
  obtain ⟨⟨a0, a1, a2, a3⟩, -, -⟩ := h
  simp [results, Tryz.results196, go_sem, a0, a1, a2, a3, ht]
set_option maxHeartbeats 4000000 in
theorem value_core64 (v : Value) (n N p : Int) (X s o ee : Nat) (g q : Bool) (w : World) (hT : Tab w)
    (FL : Hid (∀ w, Calls Tryz.prog 194 #[v, .int .i64 n] w fun e w' => e = .returned (.float .f64 X) ∧ Below w.heap.size w w'))
    (BO : Hid (∀ w, Calls Tryz.prog 175 #[.int .i64 64, .int .u64 (X : Int)] w fun e w' => e = .returned (.tuple #[.int .i64 N, .bool q]) ∧ Below w.heap.size w w'))
    (PT : Hid (∀ w, Calls Tryz.prog 44 #[.int .i64 64, .int .i64 N] w fun e w' => e = .returned (.tuple #[.agg #[.bool g, .int .u64 (s : Int), .int .i64 p], .bool true]) ∧ Below w.heap.size w w'))
    (TZ : Hid (∀ w, Tab w → Calls Tryz.prog 148 #[.int .u64 (s : Int)] w fun e w' => e = .returned (.int .i64 (ee : Int)) ∧ w' = w))
    (hsh : Op.shift .shr .u64 (s : Int) .i64 (ee : Int) = pure (.int .u64 (o : Int))) (hdv : (s : Int) / 2 ^ ee = (o : Int)) (ho : o < 18446744073709551616) (he : (ee : Int) ≤ 64) (hp : -2000 ≤ p ∧ p ≤ 2000) :
    Calls Tryz.prog 196 #[v, .int .i64 n] w fun e w' => (∃ av cv bv dv, e = .returned (.agg #[.bool g, .slice av (natL o).length cv, .slice bv (natL 1).length dv, .int .i64 (p + ee)]) ∧ OI w' w.heap.size av cv (natL o) ∧ OI w' w.heap.size bv dv (natL 1)) ∧ Below w.heap.size w w' := by
  have c64 := bits64 X
  have NO := hd (iNatOf o ho)
  have WH := hd (fun a l k w => iWhole g a l k w)
  have e0 : Below w.heap.size w (w.alloc (.cells #[.bool false, .slice none 0 0, .slice none 0 0, .int .i64 0] 84)) := (by repeat (first | exact Below.refl _ _ | refine Below.drew ?_ | refine old_alloc ?_ _ | refine old_trans ?_ (by assumption)))
  have K := C4.new w (.bool false) (.slice none 0 0) (.slice none 0 0) (.int .i64 0) 84
  have hs0 := K.lt
  generalize natL 1 = ol at *
  generalize natL o = tl at *
  clear ho
  go_enter Tryz.func196, Tryz.ntmps196
  go_wp2_with fail
  refine (FL.out _).mono ?_
  rintro e w1 ⟨rfl, hb1⟩
  replace K := K.old hb1
  have hB := old_trans e0 hb1
  clear hb1 FL
  go_wp2_with fail
  refine (BO.out _).mono ?_
  rintro e w2 ⟨rfl, hb2⟩
  replace K := K.old hb2
  replace hB := old_trans hB hb2
  clear hb2 BO
  go_wp2_with fail
  refine (PT.out _).mono ?_
  rintro e w3 ⟨rfl, hb3⟩
  replace K := K.old hb3
  replace hB := old_trans hB hb3
  clear hb3 PT
  have hlt := K.lt
  have ha : Below w3.heap.size w3 (w3.alloc (.cells #[.bool g, .int .u64 (s : Int), .int .i64 p] 63)) := old_alloc (Below.refl _ _) _
  have hB4 := old_trans hB ha
  have K4 := K.old ha
  have P3 := Cel3.new w3 (.bool g) (.int .u64 (s : Int)) (.int .i64 p) 63
  go_wp2_with fail
  refine (TZ.out _ (hT.old hB4)).mono ?_
  rintro e w4 ⟨rfl, rfl⟩
  clear TZ hT ha hB K
  have hS : (w3.alloc (.cells #[.bool g, .int .u64 (s : Int), .int .i64 p] 63)).cell? ⟨w3.heap.size, 0, none⟩ = some (.bool g) ∧ (w3.alloc (.cells #[.bool g, .int .u64 (s : Int), .int .i64 p] 63)).cell? ⟨w3.heap.size, 1, none⟩ = some (.int .u64 (s : Int)) ∧ (w3.alloc (.cells #[.bool g, .int .u64 (s : Int), .int .i64 p] 63)).cell? ⟨w3.heap.size, 2, none⟩ = some (.int .i64 p) := P3.2.1
  generalize w3.alloc (.cells #[.bool g, .int .u64 (s : Int), .int .i64 p] 63) = W at *
  generalize w3.heap.size = PB at *
  have CN := hd (fun w' (hS : w'.cell? ⟨PB, 0, none⟩ = some (.bool g) ∧ w'.cell? ⟨PB, 1, none⟩ = some (.int .u64 (s : Int)) ∧ w'.cell? ⟨PB, 2, none⟩ = some (.int .i64 p)) => (NO.out w').mono (fun e w'' (k : _ ∧ _) => (⟨k, three_later hS k.2⟩ : (_ ∧ _) ∧ (w''.cell? ⟨PB, 0, none⟩ = some (.bool g) ∧ w''.cell? ⟨PB, 1, none⟩ = some (.int .u64 (s : Int)) ∧ w''.cell? ⟨PB, 2, none⟩ = some (.int .i64 p)))))
  have CW := hd (fun a l k w' (hS : w'.cell? ⟨PB, 0, none⟩ = some (.bool g) ∧ w'.cell? ⟨PB, 1, none⟩ = some (.int .u64 (s : Int)) ∧ w'.cell? ⟨PB, 2, none⟩ = some (.int .i64 p)) => (WH.out a l k w').mono (fun e w'' (k : _ ∧ _) => (⟨k, three_later hS k.2⟩ : (_ ∧ _) ∧ (w''.cell? ⟨PB, 0, none⟩ = some (.bool g) ∧ w''.cell? ⟨PB, 1, none⟩ = some (.int .u64 (s : Int)) ∧ w''.cell? ⟨PB, 2, none⟩ = some (.int .i64 p)))))
  clear NO WH P3
  obtain ⟨h0, h1, h2⟩ := id hS
  have z1 : w.heap.size ≠ PB := by omega
  have z2 := z1.symm
  have hwr : IntKind.i64.wrap (p + (ee : Int)) = p + ee := by simp [IntKind.wrap, IntKind.bits, IntKind.signed]; omega
  go_wp2_with fail
  go_region_held3 (fun w' => w'.cell? ⟨PB, 0, none⟩ = some (.bool g) ∧ w'.cell? ⟨PB, 1, none⟩ = some (.int .u64 (s : Int)) ∧ w'.cell? ⟨PB, 2, none⟩ = some (.int .i64 p)) (go_keep) (first | (go_at_call 179; refine (CN.out _ (by assumption)).mono ?_; rintro e wx ⟨⟨⟨av, cvv, rfl, A⟩, hbx⟩, hcx⟩; have hBx := (by first | exact old_trans hB4 hbx | exact old_trans (Below.drew hB4) hbx : Below w.heap.size w wx); have Kx := (by first | exact K4.old hbx | exact K4.drew.old hbx : C4 wx _ _ _ _ _)) | (go_at_call 178; refine (CW.out _ _ _ _ (by assumption)).mono ?_; rintro e wy ⟨⟨⟨bv, dv, rfl, B⟩, hby⟩, hcy⟩; have hBy := (by first | exact old_trans hBx hby | exact old_trans (Below.drew hBx) hby : Below w.heap.size w wy); have Ky := (by first | exact Kx.old hby | exact Kx.drew.old hby : C4 wy _ _ _ _ _); have A2 := (by first | exact A.later hby | exact OI.later (w := World.drew _) A hby : OI wy _ _ _ _); obtain ⟨⟨y0, y1, y2, y3⟩, ⟨f0, f1, f2, f3⟩, yz⟩ := id Ky))
  all_goals
    go_wp2
    have q1 : w.heap.size < W.heap.size := K4.lt
    have q3 : w.heap.size < wx.heap.size := Kx.lt
    exact bodyPost_ret (resVal64 (by first | with_reducible exact Ky.stored _ _ _ _ | with_reducible exact (Ky.stored _ _ _ _).drew | exact Ky.stored _ _ _ _ | exact (Ky.stored _ _ _ _).drew) rfl) rfl ⟨⟨_, _, _, _, rfl, OI.mono (by exact oi_setFar (oi_setFar (oi_setFar (oi_setFar A2 (by exact q1)) (by exact q1)) (by exact q1)) (by exact q1)) (by exact Nat.le_of_lt q1), OI.mono (by exact oi_setFar (oi_setFar (oi_setFar (oi_setFar B (by exact q3)) (by exact q3)) (by exact q3)) (by exact q3)) (by exact Nat.le_of_lt q3)⟩, (by exact below_set (below_set (below_set (below_set hBy (Nat.le_refl _) _) (Nat.le_refl _) _) (Nat.le_refl _) _) (Nat.le_refl _) _)⟩
end Go.Proofs.YtmhifokmncfgeaaGreatDoor
