/- The value of a float as a fraction in lowest terms, by the specification; both at every number and every width. Conditions, of the program: the library's table and its handle of errors hold what their texts lay. -/
import Derived.Test.YtmhifokmncfgeaaGreatDoorXG
namespace Go.Proofs.YtmhifokmncfgeaaGreatDoor
open Go.RowKit
set_option linter.unusedVariables false
set_option maxRecDepth 100000

theorem resFFS {W : World} {b : Nat} {v0 v1 v2 r : Value} {tmps : Array Value} (h : Cel3 W b v0 v1 v2) (ht : tmps[4]? = some (.pointer (some ⟨b, 0, none⟩))) (h3 : tmps[5]? = some r) : (results Tryz.f12 tmps).run Tryz.prog W = .ok (.tuple #[.agg #[v0, v1, v2], r]) W := by
  obtain ⟨-, ⟨a0, a1, a2⟩, -⟩ := h
  simp [results, Tryz.results12, go_sem, a0, a1, a2, ht, h3]
theorem vA_len6 {o : Nat} {p : Int} (ho : o < 9007199254740992) (hp : p ≤ 2000) : (natL (vA o p)).length ≤ 65536 := Nat.le_trans (vA_len ho hp) (by omega)
theorem vB_len6 {p : Int} (hp : -2000 ≤ p) : (natL (vB p)).length ≤ 65536 := Nat.le_trans (vB_len hp) (by omega)
set_option maxHeartbeats 4000000 in
theorem sFF (wd n p : Int) (s : Nat) (g : Bool) (hs : s < 9007199254740992) (hp : -1100 ≤ p ∧ p ≤ 1100) (w : World)
    (PT : Hid (∀ w, Calls Tryz.prog 40 #[.int .i64 wd, .int .i64 n] w fun e w' => e = .returned (.tuple #[.agg #[.bool g, .int .u64 (s : Int), .int .i64 p], .bool true]) ∧ Below w.heap.size w w')) :
    Calls Tryz.prog 12 #[.int .i64 wd, .int .i64 n] w fun e w' => FRes w' w.heap.size e (lowB (vA s p) (vB p)) g (vA s p) (vB p) ∧ Below w.heap.size w w' := by
  have LO := hd (fun w => l8_cut wd n p s g hs hp w PT)
  have l1 := vA_len6 hs (show p ≤ 2000 by omega)
  have l2 := vB_len6 (show -2000 ≤ p by omega)
  have nz := vB_ne p
  have K := Cel3.new w (.bool false) (.slice none 0 0) (.slice none 0 0) 24
  have hB : Below w.heap.size w (w.alloc (.cells #[.bool false, .slice none 0 0, .slice none 0 0] 24)) := (by repeat (first | exact Below.refl _ _ | refine Below.drew ?_ | refine old_alloc ?_ _ | refine old_trans ?_ (by assumption)))
  generalize vA s p = A at *
  generalize vB p = B at *
  have MK := hd (fun a b ca cb w hA hB => sL6Make g a b ca cb A B w hA hB l1 l2 nz)
  clear l1 l2 nz
  generalize lowB A B = okk at *
  go_enter Tryz.func12, Tryz.ntmps12
  go_wp2_with fail
  refine (PT.out _).mono ?_
  rintro e w1 ⟨rfl, hb1⟩
  replace K := K.old hb1
  replace hB := old_trans hB hb1
  clear hb1 PT
  have ha : Below w1.heap.size w1 (w1.alloc (.cells #[.bool g, .int .u64 (s : Int), .int .i64 p] 63)) := old_alloc (Below.refl _ _) _
  replace K := K.old ha
  replace hB := old_trans hB ha
  go_wp2_with fail
  refine (LO.out _).mono ?_
  rintro e w2 ⟨⟨av, cv, bv, dv, rfl, IA, IB⟩, hb2⟩
  replace K := K.old hb2
  replace hB := old_trans hB hb2
  clear hb2 LO ha
  have ha : Below w2.heap.size w2 (w2.alloc (.cells #[.bool g, .slice av (natL A).length cv, .slice bv (natL B).length dv] 67)) := old_alloc (Below.refl _ _) _
  replace K := K.old ha
  replace hB := old_trans hB ha
  replace IA := IA.old ha
  replace IB := IB.old ha
  clear ha
  have hlt := K.1
  go_wp2_with fail
  refine (MK.out _ _ _ _ _ IA IB).mono ?_
  rintro e w3 ⟨⟨av', cv', bv', dv', rfl, O1, O2, Sp⟩, hb3⟩
  replace K := K.old hb3
  replace hB := old_trans hB hb3
  obtain ⟨m1, ⟨m2, m3, m4⟩, m5, m6, m7⟩ := id K
  have hfin := hd (FRes.put (w' := w3) (s := g) (base := w.heap.size) O1 O2 Sp (Nat.le_of_lt hlt) hlt)
  generalize hsg : fS okk g A = sg at *
  have hK := K.setAll (.bool sg) (.slice av' (fT okk A B).length cv') (.slice bv' (fU okk A B).length dv')
  have hBF := below_set (below_set (below_set hB (Nat.le_refl w.heap.size) (i := 0) (.bool sg)) (Nat.le_refl w.heap.size) (i := 1) (.slice av' (fT okk A B).length cv')) (Nat.le_refl w.heap.size) (i := 2) (.slice bv' (fU okk A B).length dv')
  clear O1 O2 Sp hb3 MK
  go_wp2
  exact bodyPost_ret (resFFS hK rfl rfl) rfl ⟨hfin.out, hBF⟩
set_option maxHeartbeats 4000000 in
theorem sFloatFrac32 (n : Int) (h1 : -2139095040 < n) (h2 : n < 2139095040) (w : World) :
    Calls Tryz.prog 12 #[.int .i64 32, .int .i64 n] w fun e w' => FRes w' w.heap.size e (lowB (vA (sz 8388608 n.natAbs) (pw 8388608 (-149) n.natAbs)) (vB (pw 8388608 (-149) n.natAbs))) (decide (n < 0)) (vA (sz 8388608 n.natAbs) (pw 8388608 (-149) n.natAbs)) (vB (pw 8388608 (-149) n.natAbs)) ∧ Below w.heap.size w w' := by
  have hm : n.natAbs < 2139095040 := by omega
  have hs : sz 8388608 n.natAbs < 9007199254740992 := (Nat.lt_of_lt_of_le sz_bd32 (by omega))
  have hp := pw_bd32 hm
  have PT := fun w => sPart_32 n h1 h2 w
  unfold partV at PT
  rw [absI_nat, show (8388608 : Int) = ((8388608 : Nat) : Int) from rfl, pSize_nat, pPow_nat] at PT
  exact sFF 32 n _ _ _ hs (by omega) w (hd PT)
set_option maxHeartbeats 4000000 in
theorem sFloatFrac64 (n : Int) (h1 : -9218868437227405312 < n) (h2 : n < 9218868437227405312) (w : World) :
    Calls Tryz.prog 12 #[.int .i64 64, .int .i64 n] w fun e w' => FRes w' w.heap.size e (lowB (vA (sz 4503599627370496 n.natAbs) (pw 4503599627370496 (-1074) n.natAbs)) (vB (pw 4503599627370496 (-1074) n.natAbs))) (decide (n < 0)) (vA (sz 4503599627370496 n.natAbs) (pw 4503599627370496 (-1074) n.natAbs)) (vB (pw 4503599627370496 (-1074) n.natAbs)) ∧ Below w.heap.size w w' := by
  have hm : n.natAbs < 9218868437227405312 := by omega
  have hs : sz 4503599627370496 n.natAbs < 9007199254740992 := sz_bd
  have hp := pw_bd hm
  have PT := fun w => sPart_64 n h1 h2 w
  unfold partV at PT
  rw [absI_nat, show (4503599627370496 : Int) = ((4503599627370496 : Nat) : Int) from rfl, pSize_nat, pPow_nat] at PT
  exact sFF 64 n _ _ _ hs (by omega) w (hd PT)

set_option maxHeartbeats 2000000 in
theorem sFFno (wd n : Int) (s : Bool) (w : World) (PT : Hid (∀ w, Calls Tryz.prog 40 #[.int .i64 wd, .int .i64 n] w fun e w' => e = .returned partNo ∧ Below w.heap.size w w')) :
    Calls Tryz.prog 12 #[.int .i64 wd, .int .i64 n] w fun e w' => FRes w' w.heap.size e false s 0 0 ∧ Below w.heap.size w w' := by
  have K := Cel3.new w (.bool false) (.slice none 0 0) (.slice none 0 0) 24
  have hB : Below w.heap.size w (w.alloc (.cells #[.bool false, .slice none 0 0, .slice none 0 0] 24)) := (by repeat (first | exact Below.refl _ _ | refine Below.drew ?_ | refine old_alloc ?_ _ | refine old_trans ?_ (by assumption)))
  unfold partNo at PT
  go_enter Tryz.func12, Tryz.ntmps12
  go_wp2_with fail
  refine (PT.out _).mono ?_
  rintro e w1 ⟨rfl, hb1⟩
  replace K := K.old hb1
  replace hB := old_trans hB hb1
  clear hb1 PT
  obtain ⟨m1, ⟨m2, m3, m4⟩, m5, m6, m7⟩ := id K
  have z1 := Nat.ne_of_lt m1
  have z2 := Nat.ne_of_gt m1
  have hK2 := (K.setAll (.bool false) (.slice none 0 0) (.slice none 0 0)).alloc (.cells #[.bool false, .int .u64 0, .int .i64 0] 63)
  have hBF := old_alloc (below_set (below_set (below_set hB (Nat.le_refl w.heap.size) (i := 0) (.bool false)) (Nat.le_refl w.heap.size) (i := 1) (.slice none 0 0)) (Nat.le_refl w.heap.size) (i := 2) (.slice none 0 0)) (.cells #[.bool false, .int .u64 0, .int .i64 0] 63)
  go_wp2
  exact bodyPost_ret (resFFS hK2 rfl rfl) rfl ⟨FRes.no _ _ _ _ _, hBF⟩
set_option maxHeartbeats 1000000 in
theorem iValuesOfNo (wd : Int) (g1 : wd ≠ 32) (g2 : wd ≠ 64) (w : World) :
    Calls Tryz.prog 43 #[.int .i64 wd] w fun e w' => e = .returned (.tuple #[.nilIface, .bool false]) ∧ Below w.heap.size w w' := by
  have d1 : (wd == 32) = false := by simpa using g1
  have d2 : (wd == 64) = false := by simpa using g2
  go_enter Tryz.func43, Tryz.ntmps43
  go_wp2
  go_ret2
  exact ⟨rfl, (by repeat (first | exact Below.refl _ _ | refine Below.drew ?_ | refine old_alloc ?_ _ | refine old_trans ?_ (by assumption)))⟩
set_option maxHeartbeats 2000000 in
theorem iFFno32 (n : Int) (h : ¬ (-2139095040 < n ∧ n < 2139095040)) (s : Bool) (w : World) :
    Calls Tryz.prog 13 #[.int .i64 32, .int .i64 n] w fun e w' => FRes w' w.heap.size e false s 0 0 ∧ Below w.heap.size w w' := by
  have K := Cel3.new w (.bool false) (.slice none 0 0) (.slice none 0 0) 24
  have hB : Below w.heap.size w (w.alloc (.cells #[.bool false, .slice none 0 0, .slice none 0 0] 24)) := (by repeat (first | exact Below.refl _ _ | refine Below.drew ?_ | refine old_alloc ?_ _ | refine old_trans ?_ (by assumption)))
  have PT := hd (fun w => iPart_32_not n h w)
  unfold partNo at PT
  have VO := hd (fun w => iValuesOf32 w)
  go_enter Tryz.func13, Tryz.ntmps13
  go_wp2_with fail
  refine (VO.out _).mono ?_
  rintro e w1 ⟨⟨b, rfl⟩, hb1⟩
  replace K := K.old hb1
  replace hB := old_trans hB hb1
  clear hb1 VO
  go_wp2_with fail
  refine (PT.out _).mono ?_
  rintro e w2 ⟨rfl, hb2⟩
  replace K := K.old hb2
  replace hB := old_trans hB hb2
  clear hb2 PT
  obtain ⟨m1, ⟨m2, m3, m4⟩, m5, m6, m7⟩ := id K
  have z1 := Nat.ne_of_lt m1
  have z2 := Nat.ne_of_gt m1
  have hK2 := (K.setAll (.bool false) (.slice none 0 0) (.slice none 0 0)).alloc (.cells #[.bool false, .int .u64 0, .int .i64 0] 63)
  have hBF := old_alloc (below_set (below_set (below_set hB (Nat.le_refl w.heap.size) (i := 0) (.bool false)) (Nat.le_refl w.heap.size) (i := 1) (.slice none 0 0)) (Nat.le_refl w.heap.size) (i := 2) (.slice none 0 0)) (.cells #[.bool false, .int .u64 0, .int .i64 0] 63)
  go_wp2
  exact bodyPost_ret (resFF hK2 rfl rfl) rfl ⟨FRes.no _ _ _ _ _, hBF⟩
set_option maxHeartbeats 2000000 in
theorem iFFno64 (n : Int) (h : ¬ (-9218868437227405312 < n ∧ n < 9218868437227405312)) (s : Bool) (w : World) :
    Calls Tryz.prog 13 #[.int .i64 64, .int .i64 n] w fun e w' => FRes w' w.heap.size e false s 0 0 ∧ Below w.heap.size w w' := by
  have K := Cel3.new w (.bool false) (.slice none 0 0) (.slice none 0 0) 24
  have hB : Below w.heap.size w (w.alloc (.cells #[.bool false, .slice none 0 0, .slice none 0 0] 24)) := (by repeat (first | exact Below.refl _ _ | refine Below.drew ?_ | refine old_alloc ?_ _ | refine old_trans ?_ (by assumption)))
  have PT := hd (fun w => iPart_64_not n h w)
  unfold partNo at PT
  have VO := hd (fun w => iValuesOf64 w)
  go_enter Tryz.func13, Tryz.ntmps13
  go_wp2_with fail
  refine (VO.out _).mono ?_
  rintro e w1 ⟨⟨b, rfl⟩, hb1⟩
  replace K := K.old hb1
  replace hB := old_trans hB hb1
  clear hb1 VO
  go_wp2_with fail
  refine (PT.out _).mono ?_
  rintro e w2 ⟨rfl, hb2⟩
  replace K := K.old hb2
  replace hB := old_trans hB hb2
  clear hb2 PT
  obtain ⟨m1, ⟨m2, m3, m4⟩, m5, m6, m7⟩ := id K
  have z1 := Nat.ne_of_lt m1
  have z2 := Nat.ne_of_gt m1
  have hK2 := (K.setAll (.bool false) (.slice none 0 0) (.slice none 0 0)).alloc (.cells #[.bool false, .int .u64 0, .int .i64 0] 63)
  have hBF := old_alloc (below_set (below_set (below_set hB (Nat.le_refl w.heap.size) (i := 0) (.bool false)) (Nat.le_refl w.heap.size) (i := 1) (.slice none 0 0)) (Nat.le_refl w.heap.size) (i := 2) (.slice none 0 0)) (.cells #[.bool false, .int .u64 0, .int .i64 0] 63)
  go_wp2
  exact bodyPost_ret (resFF hK2 rfl rfl) rfl ⟨FRes.no _ _ _ _ _, hBF⟩
set_option maxHeartbeats 2000000 in
theorem iFFno (wd n : Int) (g1 : wd ≠ 32) (g2 : wd ≠ 64) (s : Bool) (w : World) :
    Calls Tryz.prog 13 #[.int .i64 wd, .int .i64 n] w fun e w' => FRes w' w.heap.size e false s 0 0 ∧ Below w.heap.size w w' := by
  have K := Cel3.new w (.bool false) (.slice none 0 0) (.slice none 0 0) 24
  have hB : Below w.heap.size w (w.alloc (.cells #[.bool false, .slice none 0 0, .slice none 0 0] 24)) := (by repeat (first | exact Below.refl _ _ | refine Below.drew ?_ | refine old_alloc ?_ _ | refine old_trans ?_ (by assumption)))
  have PT := hd (fun w => iPart_no wd n g1 g2 w)
  unfold partNo at PT
  have VO := hd (fun w => iValuesOfNo wd g1 g2 w)
  go_enter Tryz.func13, Tryz.ntmps13
  go_wp2_with fail
  refine (VO.out _).mono ?_
  rintro e w1 ⟨rfl, hb1⟩
  replace K := K.old hb1
  replace hB := old_trans hB hb1
  clear hb1 VO
  go_wp2_with fail
  refine (PT.out _).mono ?_
  rintro e w2 ⟨rfl, hb2⟩
  replace K := K.old hb2
  replace hB := old_trans hB hb2
  clear hb2 PT
  obtain ⟨m1, ⟨m2, m3, m4⟩, m5, m6, m7⟩ := id K
  have z1 := Nat.ne_of_lt m1
  have z2 := Nat.ne_of_gt m1
  have hK2 := (K.setAll (.bool false) (.slice none 0 0) (.slice none 0 0)).alloc (.cells #[.bool false, .int .u64 0, .int .i64 0] 63)
  have hBF := old_alloc (below_set (below_set (below_set hB (Nat.le_refl w.heap.size) (i := 0) (.bool false)) (Nat.le_refl w.heap.size) (i := 1) (.slice none 0 0)) (Nat.le_refl w.heap.size) (i := 2) (.slice none 0 0)) (.cells #[.bool false, .int .u64 0, .int .i64 0] 63)
  go_wp2
  exact bodyPost_ret (resFF hK2 rfl rfl) rfl ⟨FRes.no _ _ _ _ _, hBF⟩
/-- both answer the same -/
theorem ffBoth (wd n : Int) : ∃ (ok s : Bool) (A B : Nat), (ok = true → lowB A B = true) ∧
    (∀ w, Calls Tryz.prog 12 #[.int .i64 wd, .int .i64 n] w fun e w' => FRes w' w.heap.size e ok s A B ∧ Below w.heap.size w w') ∧
    (∀ w, Tab w ∧ ET w → Calls Tryz.prog 13 #[.int .i64 wd, .int .i64 n] w fun e w' => FRes w' w.heap.size e ok s A B ∧ Below w.heap.size w w') := by
  by_cases c1 : wd = 32
  · subst c1
    by_cases h : -2139095040 < n ∧ n < 2139095040
    · exact ⟨_, _, _, _, fun h => h, fun w => sFloatFrac32 n h.1 h.2 w, fun w hT => iFloatFrac32 n h.1 h.2 w hT.1 hT.2⟩
    · exact ⟨false, false, 0, 0, fun h => absurd h (by simp), fun w => sFFno 32 n false w (hd (fun w => sPart_32_not n h w)), fun w _ => iFFno32 n h false w⟩
  by_cases c2 : wd = 64
  · subst c2
    by_cases h : -9218868437227405312 < n ∧ n < 9218868437227405312
    · exact ⟨_, _, _, _, fun h => h, fun w => sFloatFrac64 n h.1 h.2 w, fun w hT => iFloatFrac64 n h.1 h.2 w hT.1 hT.2⟩
    · exact ⟨false, false, 0, 0, fun h => absurd h (by simp), fun w => sFFno 64 n false w (hd (fun w => sPart_64_not n h w)), fun w _ => iFFno64 n h false w⟩
  exact ⟨false, false, 0, 0, fun h => absurd h (by simp), fun w => sFFno wd n false w (hd (fun w => sPart_no wd n c1 c2 w)), fun w _ => iFFno wd n c1 c2 false w⟩
end Go.Proofs.YtmhifokmncfgeaaGreatDoor
