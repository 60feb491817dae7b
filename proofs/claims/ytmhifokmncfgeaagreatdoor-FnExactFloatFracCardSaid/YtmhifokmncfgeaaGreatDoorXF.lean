/- The value of a float as a fraction in lowest terms, by the program: FloatFrac. Conditions: the library's table and its handle of errors hold what their texts lay. -/
import Derived.Test.YtmhifokmncfgeaaGreatDoorXE
import Derived.Test.YtmhifokmncfgeaaGreatDoorFH
namespace Go.Proofs.YtmhifokmncfgeaaGreatDoor
open Go.RowKit
set_option linter.unusedVariables false
set_option maxRecDepth 100000

theorem two_bd {k e : Nat} (h : k ≤ e) : 2 ^ k ≤ 2 ^ e := Nat.pow_le_pow_right (by omega) h
theorem p16 (k : Nat) : 65536 ^ k = 2 ^ (16 * k) := by rw [Nat.pow_mul]
theorem vA_lt {o e : Nat} {p : Int} (ho : o < 2 ^ 53) (he : p.toNat + 53 ≤ e) : vA o p < 2 ^ e := by
  refine Nat.lt_of_lt_of_le ?_ (two_bd he)
  unfold vA
  rw [Nat.pow_add]
  have h0 : 0 < 2 ^ p.toNat := Nat.pow_pos (by omega)
  split
  · exact Nat.mul_lt_mul_of_pos_left ho h0
  · exact Nat.lt_of_lt_of_le ho (Nat.le_mul_of_pos_left _ h0)
theorem vB_lt {e : Nat} {p : Int} (he : (-p).toNat < e) : vB p < 2 ^ e := by
  unfold vB
  split
  · exact Nat.one_lt_two_pow (by omega)
  · exact Nat.pow_lt_pow_right (by omega) he
theorem natL_len2 {v k : Nat} (h : v < 2 ^ (16 * k)) : (natL v).length ≤ k := natL_len.2 (by rw [p16]; exact h)
theorem vA_lenk {o k : Nat} {p : Int} (ho : o < 2 ^ 53) (hp : p.toNat + 53 ≤ 16 * k) : (natL (vA o p)).length ≤ k := natL_len2 (vA_lt ho hp)
theorem vB_lenk {k : Nat} {p : Int} (hp : (-p).toNat < 16 * k) : (natL (vB p)).length ≤ k := natL_len2 (vB_lt hp)
theorem vA_len {o : Nat} {p : Int} (ho : o < 9007199254740992) (hp : p ≤ 2000) : (natL (vA o p)).length ≤ 1024 :=
  vA_lenk ho (by omega)
theorem vB_len {p : Int} (hp : -2000 ≤ p) : (natL (vB p)).length ≤ 1024 :=
  vB_lenk (by omega)
theorem resFF {W : World} {b : Nat} {v0 v1 v2 r : Value} {tmps : Array Value} (h : Cel3 W b v0 v1 v2) (ht : tmps[4]? = some (.pointer (some ⟨b, 0, none⟩))) (h3 : tmps[5]? = some r) : (results Tryz.f13 tmps).run Tryz.prog W = .ok (.tuple #[.agg #[v0, v1, v2], r]) W := by
  obtain ⟨-, ⟨a0, a1, a2⟩, -⟩ := h
  simp [results, Tryz.results13, go_sem, a0, a1, a2, ht, h3]
theorem meth_value_32 (v : Value) (w : World) : (method 355 123 v "loop.example/pinfold/impl.value").run Tryz.prog w = .ok (169, v) w := by kernel_rfl
set_option maxHeartbeats 1000000 in
theorem iValuesOf32 (w : World) :
    Calls Tryz.prog 43 #[.int .i64 32] w fun e w' => (∃ b, e = .returned (.tuple #[.iface 123 (.pointer (some ⟨b, 0, none⟩)), .bool true])) ∧ Below w.heap.size w w' := by
  go_enter Tryz.func43, Tryz.ntmps43
  go_wp2
  go_ret2
  exact ⟨⟨_, rfl⟩, (by repeat (first | exact Below.refl _ _ | refine Below.drew ?_ | refine old_alloc ?_ _ | refine old_trans ?_ (by assumption)))⟩
set_option maxHeartbeats 4000000 in
theorem iFloatFrac32 (n : Int) (h1 : -2139095040 < n) (h2 : n < 2139095040) (w : World) (hT : Tab w) (hE : ET w) :
    Calls Tryz.prog 13 #[.int .i64 32, .int .i64 n] w fun e w' => FRes w' w.heap.size e (lowB (vA (sz 8388608 n.natAbs) (pw 8388608 (-149) n.natAbs)) (vB (pw 8388608 (-149) n.natAbs))) (decide (n < 0)) (vA (sz 8388608 n.natAbs) (pw 8388608 (-149) n.natAbs)) (vB (pw 8388608 (-149) n.natAbs)) ∧ Below w.heap.size w w' := by
  have m1 := meth_value_32
  have VO := hd iValuesOf32
  have PT := hd (fun w => iPart_32 n h1 h2 w)
  have VA := hd (fun v w hT => iValue32 v n h1 h2 w hT)
  unfold partV at PT
  generalize pSize 8388608 (absI n) = ps at *
  generalize pPow 8388608 (-149) (absI n) = pp at *
  generalize decide (n < 0) = g at *
  generalize (vA (sz 8388608 n.natAbs) (pw 8388608 (-149) n.natAbs)) = A at *
  generalize (vB (pw 8388608 (-149) n.natAbs)) = B at *
  have K := Cel3.new w (.bool false) (.slice none 0 0) (.slice none 0 0) 24
  have hB : Below w.heap.size w (w.alloc (.cells #[.bool false, .slice none 0 0, .slice none 0 0] 24)) := (by repeat (first | exact Below.refl _ _ | refine Below.drew ?_ | refine old_alloc ?_ _ | refine old_trans ?_ (by assumption)))
  clear h1 h2
  go_enter Tryz.func13, Tryz.ntmps13
  go_wp2_with fail
  refine (VO.out _).mono ?_
  rintro e w1 ⟨⟨b, rfl⟩, hb1⟩
  replace K := K.old hb1
  replace hB := old_trans hB hb1
  clear hb1 VO
  go_wp2_with fail
  refine (PT.out _).mono ?_
  rintro e w2 ⟨rfl, hb2⟩
  replace K := K.old hb2
  replace hB := old_trans hB hb2
  clear hb2 PT
  have ha : Below w2.heap.size w2 (w2.alloc (.cells #[.bool g, .int .u64 ps, .int .i64 pp] 63)) := old_alloc (Below.refl _ _) _
  have K3 := K.old ha
  have hB3 := old_trans hB ha
  clear K hB ha
  go_wp2_with fail
  refine (VA.out _ _ (hT.old hB3)).mono ?_
  rintro e w3 ⟨⟨o, p, av, bv, cv, dv, rfl, O1, O2, ho, hp, hSm⟩, hb3⟩
  have K := K3.old hb3
  have hB := old_trans hB3 hb3
  clear hb3 VA K3 hB3 m1
  go_wp2_with fail
  refine (iUnscaled g av bv cv dv o p _ O1.inI O2.inI ho hp).mono ?_
  rintro e w4 ⟨⟨av, cv, bv, dv, rfl, I1, I2⟩, hb4⟩
  replace K := K.old hb4
  replace hB := old_trans hB hb4
  clear hb4 O1 O2
  have l1 := vA_len ho hp.2
  have l2 := vB_len hp.1
  go_wp2_with fail
  refine (iLowest g av bv cv dv (vA o p) (vB p) _ I1 I2 l1 l2 (hT.old hB)).mono ?_
  have hlt := K.1
  rintro e w4' ⟨hlow, hb4⟩
  replace K := K.old hb4
  replace hB := old_trans hB hb4
  clear hb4 I1 I2 l1 l2 ho hp hT
  rcases hlow with ⟨hl, av, cv, av', cv', rfl, O1, O2, Sp⟩ | ⟨hl, s, rfl⟩
  · generalize hsg : (g && decide (vA o p ≠ 0)) = sg
    go_wp2_with fail
    refine (iAnsNil _ _ _ (sl _ _ _) (sl _ _ _) _).mono ?_
    rintro e w5 ⟨rfl, hb5⟩
    replace K := K.old hb5
    replace hB := old_trans hB hb5
    obtain ⟨m1, ⟨m2, m3, m4⟩, m5, m6, m7⟩ := id K
    have hK := K.setAll (.bool sg) (.slice av (lowT (vA o p) (vB p)).length cv) (.slice av' (lowU (vA o p) (vB p)).length cv')
    have hBF := below_set (below_set (below_set hB (Nat.le_refl w.heap.size) (i := 0) (.bool sg)) (Nat.le_refl w.heap.size) (i := 1) (.slice av (lowT (vA o p) (vB p)).length cv)) (Nat.le_refl w.heap.size) (i := 2) (.slice av' (lowU (vA o p) (vB p)).length cv')
    have R : FRes (((w5.setCell ⟨w.heap.size, 0, none⟩ (.bool sg)).setCell ⟨w.heap.size, 1, none⟩ (.slice av (lowT (vA o p) (vB p)).length cv)).setCell ⟨w.heap.size, 2, none⟩ (.slice av' (lowU (vA o p) (vB p)).length cv')) w.heap.size (.returned (.tuple #[.agg #[.bool sg, .slice av (lowT (vA o p) (vB p)).length cv, .slice av' (lowU (vA o p) (vB p)).length cv'], .bool true])) (lowB (vA o p) (vB p)) g (vA o p) (vB p) := by
      rw [hl]
      rw [← hsg]
      exact FRes.yes ((oi_set3 (O1.later hb5) hlt).mono (Nat.le_of_lt hlt)) ((oi_set3 (O2.later hb5) hlt).mono (Nat.le_of_lt hlt)) Sp
    replace R := hd (hSm.res R)
    clear hb5 hSm
    go_wp2
    exact bodyPost_ret (resFF hK rfl rfl) rfl ⟨R.out, hBF⟩
  · go_wp2_with fail
    refine (iAnsFault _ _ _ (sl _ _ _) (sl _ _ _) _ _ (hE.old hB)).mono ?_
    rintro e w5 ⟨rfl, hb5⟩
    replace K := K.old hb5
    replace hB := old_trans hB hb5
    obtain ⟨m1, ⟨m2, m3, m4⟩, m5, m6, m7⟩ := id K
    have hK := K.setAll (.bool false) (.slice none 0 0) (.slice none 0 0)
    have hBF := below_set (below_set (below_set hB (Nat.le_refl w.heap.size) (i := 0) (.bool false)) (Nat.le_refl w.heap.size) (i := 1) (.slice none 0 0)) (Nat.le_refl w.heap.size) (i := 2) (.slice none 0 0)
    have R : FRes (((w5.setCell ⟨w.heap.size, 0, none⟩ (.bool false)).setCell ⟨w.heap.size, 1, none⟩ (.slice none 0 0)).setCell ⟨w.heap.size, 2, none⟩ (.slice none 0 0)) w.heap.size (.returned (.tuple #[.agg #[.bool false, .slice none 0 0, .slice none 0 0], .bool false])) (lowB (vA o p) (vB p)) g (vA o p) (vB p) := by
      rw [hl]
      exact FRes.no _ _ _ _ _
    replace R := hd (hSm.res R)
    clear hb5 hSm
    go_wp2
    exact bodyPost_ret (resFF hK rfl rfl) rfl ⟨R.out, hBF⟩
theorem meth_value_64 (v : Value) (w : World) : (method 355 126 v "loop.example/pinfold/impl.value").run Tryz.prog w = .ok (196, v) w := by kernel_rfl
set_option maxHeartbeats 1000000 in
theorem iValuesOf64 (w : World) :
    Calls Tryz.prog 43 #[.int .i64 64] w fun e w' => (∃ b, e = .returned (.tuple #[.iface 126 (.pointer (some ⟨b, 0, none⟩)), .bool true])) ∧ Below w.heap.size w w' := by
  go_enter Tryz.func43, Tryz.ntmps43
  go_wp2
  go_ret2
  exact ⟨⟨_, rfl⟩, (by repeat (first | exact Below.refl _ _ | refine Below.drew ?_ | refine old_alloc ?_ _ | refine old_trans ?_ (by assumption)))⟩
set_option maxHeartbeats 4000000 in
theorem iFloatFrac64 (n : Int) (h1 : -9218868437227405312 < n) (h2 : n < 9218868437227405312) (w : World) (hT : Tab w) (hE : ET w) :
    Calls Tryz.prog 13 #[.int .i64 64, .int .i64 n] w fun e w' => FRes w' w.heap.size e (lowB (vA (sz 4503599627370496 n.natAbs) (pw 4503599627370496 (-1074) n.natAbs)) (vB (pw 4503599627370496 (-1074) n.natAbs))) (decide (n < 0)) (vA (sz 4503599627370496 n.natAbs) (pw 4503599627370496 (-1074) n.natAbs)) (vB (pw 4503599627370496 (-1074) n.natAbs)) ∧ Below w.heap.size w w' := by
  have m1 := meth_value_64
  have VO := hd iValuesOf64
  have PT := hd (fun w => iPart_64 n h1 h2 w)
  have VA := hd (fun v w hT => iValue64 v n h1 h2 w hT)
  unfold partV at PT
  generalize pSize 4503599627370496 (absI n) = ps at *
  generalize pPow 4503599627370496 (-1074) (absI n) = pp at *
  generalize decide (n < 0) = g at *
  generalize (vA (sz 4503599627370496 n.natAbs) (pw 4503599627370496 (-1074) n.natAbs)) = A at *
  generalize (vB (pw 4503599627370496 (-1074) n.natAbs)) = B at *
  have K := Cel3.new w (.bool false) (.slice none 0 0) (.slice none 0 0) 24
  have hB : Below w.heap.size w (w.alloc (.cells #[.bool false, .slice none 0 0, .slice none 0 0] 24)) := (by repeat (first | exact Below.refl _ _ | refine Below.drew ?_ | refine old_alloc ?_ _ | refine old_trans ?_ (by assumption)))
  clear h1 h2
  go_enter Tryz.func13, Tryz.ntmps13
  go_wp2_with fail
  refine (VO.out _).mono ?_
  rintro e w1 ⟨⟨b, rfl⟩, hb1⟩
  replace K := K.old hb1
  replace hB := old_trans hB hb1
  clear hb1 VO
  go_wp2_with fail
  refine (PT.out _).mono ?_
  rintro e w2 ⟨rfl, hb2⟩
  replace K := K.old hb2
  replace hB := old_trans hB hb2
  clear hb2 PT
  have ha : Below w2.heap.size w2 (w2.alloc (.cells #[.bool g, .int .u64 ps, .int .i64 pp] 63)) := old_alloc (Below.refl _ _) _
  have K3 := K.old ha
  have hB3 := old_trans hB ha
  clear K hB ha
  go_wp2_with fail
  refine (VA.out _ _ (hT.old hB3)).mono ?_
  rintro e w3 ⟨⟨o, p, av, bv, cv, dv, rfl, O1, O2, ho, hp, hSm⟩, hb3⟩
  have K := K3.old hb3
  have hB := old_trans hB3 hb3
  clear hb3 VA K3 hB3 m1
  go_wp2_with fail
  refine (iUnscaled g av bv cv dv o p _ O1.inI O2.inI ho hp).mono ?_
  rintro e w4 ⟨⟨av, cv, bv, dv, rfl, I1, I2⟩, hb4⟩
  replace K := K.old hb4
  replace hB := old_trans hB hb4
  clear hb4 O1 O2
  have l1 := vA_len ho hp.2
  have l2 := vB_len hp.1
  go_wp2_with fail
  refine (iLowest g av bv cv dv (vA o p) (vB p) _ I1 I2 l1 l2 (hT.old hB)).mono ?_
  have hlt := K.1
  rintro e w4' ⟨hlow, hb4⟩
  replace K := K.old hb4
  replace hB := old_trans hB hb4
  clear hb4 I1 I2 l1 l2 ho hp hT
  rcases hlow with ⟨hl, av, cv, av', cv', rfl, O1, O2, Sp⟩ | ⟨hl, s, rfl⟩
  · generalize hsg : (g && decide (vA o p ≠ 0)) = sg
    go_wp2_with fail
    refine (iAnsNil _ _ _ (sl _ _ _) (sl _ _ _) _).mono ?_
    rintro e w5 ⟨rfl, hb5⟩
    replace K := K.old hb5
    replace hB := old_trans hB hb5
    obtain ⟨m1, ⟨m2, m3, m4⟩, m5, m6, m7⟩ := id K
    have hK := K.setAll (.bool sg) (.slice av (lowT (vA o p) (vB p)).length cv) (.slice av' (lowU (vA o p) (vB p)).length cv')
    have hBF := below_set (below_set (below_set hB (Nat.le_refl w.heap.size) (i := 0) (.bool sg)) (Nat.le_refl w.heap.size) (i := 1) (.slice av (lowT (vA o p) (vB p)).length cv)) (Nat.le_refl w.heap.size) (i := 2) (.slice av' (lowU (vA o p) (vB p)).length cv')
    have R : FRes (((w5.setCell ⟨w.heap.size, 0, none⟩ (.bool sg)).setCell ⟨w.heap.size, 1, none⟩ (.slice av (lowT (vA o p) (vB p)).length cv)).setCell ⟨w.heap.size, 2, none⟩ (.slice av' (lowU (vA o p) (vB p)).length cv')) w.heap.size (.returned (.tuple #[.agg #[.bool sg, .slice av (lowT (vA o p) (vB p)).length cv, .slice av' (lowU (vA o p) (vB p)).length cv'], .bool true])) (lowB (vA o p) (vB p)) g (vA o p) (vB p) := by
      rw [hl]
      rw [← hsg]
      exact FRes.yes ((oi_set3 (O1.later hb5) hlt).mono (Nat.le_of_lt hlt)) ((oi_set3 (O2.later hb5) hlt).mono (Nat.le_of_lt hlt)) Sp
    replace R := hd (hSm.res R)
    clear hb5 hSm
    go_wp2
    exact bodyPost_ret (resFF hK rfl rfl) rfl ⟨R.out, hBF⟩
  · go_wp2_with fail
    refine (iAnsFault _ _ _ (sl _ _ _) (sl _ _ _) _ _ (hE.old hB)).mono ?_
    rintro e w5 ⟨rfl, hb5⟩
    replace K := K.old hb5
    replace hB := old_trans hB hb5
    obtain ⟨m1, ⟨m2, m3, m4⟩, m5, m6, m7⟩ := id K
    have hK := K.setAll (.bool false) (.slice none 0 0) (.slice none 0 0)
    have hBF := below_set (below_set (below_set hB (Nat.le_refl w.heap.size) (i := 0) (.bool false)) (Nat.le_refl w.heap.size) (i := 1) (.slice none 0 0)) (Nat.le_refl w.heap.size) (i := 2) (.slice none 0 0)
    have R : FRes (((w5.setCell ⟨w.heap.size, 0, none⟩ (.bool false)).setCell ⟨w.heap.size, 1, none⟩ (.slice none 0 0)).setCell ⟨w.heap.size, 2, none⟩ (.slice none 0 0)) w.heap.size (.returned (.tuple #[.agg #[.bool false, .slice none 0 0, .slice none 0 0], .bool false])) (lowB (vA o p) (vB p)) g (vA o p) (vB p) := by
      rw [hl]
      exact FRes.no _ _ _ _ _
    replace R := hd (hSm.res R)
    clear hb5 hSm
    go_wp2
    exact bodyPost_ret (resFF hK rfl rfl) rfl ⟨R.out, hBF⟩
end Go.Proofs.YtmhifokmncfgeaaGreatDoor
