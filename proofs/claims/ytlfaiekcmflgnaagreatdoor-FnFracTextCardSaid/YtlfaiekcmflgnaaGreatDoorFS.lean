/- Whole numbers as fractions: by the program and by the specification. No condition. -/
import Derived.Test.YtlfaiekcmflgnaaGreatDoorFH
namespace Go.Proofs.YtlfaiekcmflgnaaGreatDoor
open Go.RowKit
set_option linter.unusedVariables false
set_option maxRecDepth 100000

theorem resFracIntS {W : World} {b : Nat} {v0 v1 v2 : Value} {tmps : Array Value} (h : Cel3 W b v0 v1 v2) (ht : tmps[2]? = some (.pointer (some ⟨b, 0, none⟩))) : (results Tryz.f55 tmps).run Tryz.prog W = .ok (.agg #[v0, v1, v2]) W := by
  obtain ⟨h1, ⟨a0, a1, a2⟩, -⟩ := h
  simp [results, Tryz.results55, go_sem, a0, a1, a2, ht]
set_option maxHeartbeats 2000000 in
theorem sFracIntN (m : Nat) (h0 : 0 < m) (h1 : m ≤ 9223372036854775808) (w : World) : Calls Tryz.prog 55 #[.int .i64 (-(m : Int))] w fun e w' => (∃ av cv av' cv', e = .returned (.agg #[.bool true, .slice av (natL m).length cv, .slice av' (natL 1).length cv']) ∧ OI w' w.heap.size av cv (natL m) ∧ OI w' w.heap.size av' cv' (natL 1) ∧ Sep av av') ∧ Below w.heap.size w w' := by
  rw [natL_one]
  have e0 : Below w.heap.size w (((w.alloc (.cells #[.bool false, .slice none 0 0, .slice none 0 0] 24)).alloc (.cells #[.int .i64 1] 3)).alloc (.cells #[.bool true, .slice none 0 0, .slice (some ⟨w.heap.size + 1, 0, none⟩) 1 1] 24)) := (by repeat (first | exact Below.refl _ _ | refine Below.drew ?_ | refine old_alloc ?_ _ | refine old_trans ?_ (by assumption)))
  have K := ((Cel3.new w (.bool false) (.slice none 0 0) (.slice none 0 0) 24).old (old_alloc (Below.refl _ _) (.cells #[.int .i64 1] 3))).old (old_alloc (Below.refl _ _) (.cells #[.bool true, .slice none 0 0, .slice (some ⟨w.heap.size + 1, 0, none⟩) 1 1] 24))
  have V := Cel3.new ((w.alloc (.cells #[.bool false, .slice none 0 0, .slice none 0 0] 24)).alloc (.cells #[.int .i64 1] 3)) (.bool true) (.slice none 0 0) (.slice (some ⟨w.heap.size + 1, 0, none⟩) 1 1) 24
  simp only [World.size_alloc] at V
  have hr : IRow (((w.alloc (.cells #[.bool false, .slice none 0 0, .slice none 0 0] 24)).alloc (.cells #[.int .i64 1] 3)).alloc (.cells #[.bool true, .slice none 0 0, .slice (some ⟨w.heap.size + 1, 0, none⟩) 1 1] 24)) (w.heap.size + 1) [1] := (show IRow ((w.alloc (.cells #[.bool false, .slice none 0 0, .slice none 0 0] 24)).alloc (.cells #[.int .i64 1] 3)) (w.heap.size + 1) [1] from ⟨by simp, fun i hi => by
    obtain rfl : i = 0 := by simp at hi; omega
    simp⟩).old (old_alloc (Below.refl _ _) (.cells #[.bool true, .slice none 0 0, .slice (some ⟨w.heap.size + 1, 0, none⟩) 1 1] 24))
  have hO' : OI (((w.alloc (.cells #[.bool false, .slice none 0 0, .slice none 0 0] 24)).alloc (.cells #[.int .i64 1] 3)).alloc (.cells #[.bool true, .slice none 0 0, .slice (some ⟨w.heap.size + 1, 0, none⟩) 1 1] 24)) (w.heap.size + 1) (some ⟨w.heap.size + 1, 0, none⟩) 1 [1] := ⟨fun x hx => by simp at hx; subst hx; omega, Nat.le_refl _, by unfold maxLen; omega, .inr ⟨_, rfl, Nat.le_refl _, hr⟩⟩
  have N := hd (fun w' => sNatOf m (by omega) w')
  have hm : -((m : Nat) : Int) < 0 := by omega
  have hw : IntKind.u64.wrap (-(IntKind.u64.wrap (-(m : Int)))) = (m : Int) := by rw [IntKind.wrap_u64, IntKind.wrap_u64]; omega
  have hm0 : 0 < (m : Int) := by omega
  have hm1 : (m : Int) ≤ 9223372036854775808 := by omega
  generalize natL m = ml at *
  generalize hM : (m : Int) = M at *
  clear hr
  go_enter Tryz.func55, Tryz.ntmps55
  go_wp2_with fail
  refine (N.out _).mono ?_
  rintro e w1 ⟨⟨av, cv, rfl, hO⟩, hb1⟩
  have hsz : w.heap.size + 3 ≤ (((w.alloc (.cells #[.bool false, .slice none 0 0, .slice none 0 0] 24)).alloc (.cells #[.int .i64 1] 3)).alloc (.cells #[.bool true, .slice none 0 0, .slice (some ⟨w.heap.size + 1, 0, none⟩) 1 1] 24)).heap.size := by simp
  have hsep := (OI.sepOf hO' hO (Nat.le_refl _)).symm
  replace K := (K.old hb1).far (c := w.heap.size + 1 + 1) (i := 1) (v := .slice av ml.length cv) (by omega)
  have V1 := (V.old hb1)
  replace V := V1.set1 (.slice av ml.length cv)
  have q1 := oi_setFar hO (b := w.heap.size + 1 + 1) (i := 1) (v := .slice av ml.length cv) (by omega)
  have q2 := (hO'.later hb1).kept (grown_set (grown_refl w1 (some (w.heap.size + 1 + 1))) 1 (.slice av ml.length cv)) (fun q e e2 => by
    injection e with e
    subst e
    injection e2 with e2
    simp at e2)
  have hB1 : Below w.heap.size w (w1.setCell ⟨w.heap.size + 1 + 1, 1, none⟩ (.slice av ml.length cv)) := below_set (old_trans e0 hb1) (by omega) _
  obtain ⟨n1, ⟨n2, n3, n4⟩, n5, n6, n7⟩ := id V1
  clear hO hO' hb1 V1
  generalize hW7 : w1.setCell ⟨w.heap.size + 1 + 1, 1, none⟩ (.slice av ml.length cv) = W7 at *
  obtain ⟨p1, ⟨p2, p3, p4⟩, -⟩ := id V
  obtain ⟨r1, ⟨r2, r3, r4⟩, r5, r6, r7⟩ := id K
  have o1 := (oi_set3 (b := w.heap.size) (v0 := .bool true) (v1 := .slice av ml.length cv) (v2 := .slice (some ⟨w.heap.size + 1, 0, none⟩) 1 1) q1 (by omega)).mono e0.size
  have o2 := (oi_set3 (b := w.heap.size) (v0 := .bool true) (v1 := .slice av ml.length cv) (v2 := .slice (some ⟨w.heap.size + 1, 0, none⟩) 1 1) q2 (by omega)).mono (show w.heap.size ≤ w.heap.size + 1 by omega)
  go_wp2
  exact bodyPost_ret (resFracIntS (K.setAll (.bool true) (.slice av ml.length cv) (.slice (some ⟨w.heap.size + 1, 0, none⟩) 1 1)) rfl) rfl ⟨⟨av, cv, some ⟨w.heap.size + 1, 0, none⟩, 1, rfl, o1, o2, hsep⟩, below_set (below_set (below_set hB1 (by omega) _) (by omega) _) (by omega) _⟩
set_option maxHeartbeats 2000000 in
theorem sFracIntP (m : Nat) (h1 : m < 9223372036854775808) (w : World) : Calls Tryz.prog 55 #[.int .i64 ((m : Int))] w fun e w' => (∃ av cv av' cv', e = .returned (.agg #[.bool false, .slice av (natL m).length cv, .slice av' (natL 1).length cv']) ∧ OI w' w.heap.size av cv (natL m) ∧ OI w' w.heap.size av' cv' (natL 1) ∧ Sep av av') ∧ Below w.heap.size w w' := by
  rw [natL_one]
  have e0 : Below w.heap.size w (((w.alloc (.cells #[.bool false, .slice none 0 0, .slice none 0 0] 24)).alloc (.cells #[.int .i64 1] 3)).alloc (.cells #[.bool false, .slice none 0 0, .slice (some ⟨w.heap.size + 1, 0, none⟩) 1 1] 24)) := (by repeat (first | exact Below.refl _ _ | refine Below.drew ?_ | refine old_alloc ?_ _ | refine old_trans ?_ (by assumption)))
  have K := ((Cel3.new w (.bool false) (.slice none 0 0) (.slice none 0 0) 24).old (old_alloc (Below.refl _ _) (.cells #[.int .i64 1] 3))).old (old_alloc (Below.refl _ _) (.cells #[.bool false, .slice none 0 0, .slice (some ⟨w.heap.size + 1, 0, none⟩) 1 1] 24))
  have V := Cel3.new ((w.alloc (.cells #[.bool false, .slice none 0 0, .slice none 0 0] 24)).alloc (.cells #[.int .i64 1] 3)) (.bool false) (.slice none 0 0) (.slice (some ⟨w.heap.size + 1, 0, none⟩) 1 1) 24
  simp only [World.size_alloc] at V
  have hr : IRow (((w.alloc (.cells #[.bool false, .slice none 0 0, .slice none 0 0] 24)).alloc (.cells #[.int .i64 1] 3)).alloc (.cells #[.bool false, .slice none 0 0, .slice (some ⟨w.heap.size + 1, 0, none⟩) 1 1] 24)) (w.heap.size + 1) [1] := (show IRow ((w.alloc (.cells #[.bool false, .slice none 0 0, .slice none 0 0] 24)).alloc (.cells #[.int .i64 1] 3)) (w.heap.size + 1) [1] from ⟨by simp, fun i hi => by
    obtain rfl : i = 0 := by simp at hi; omega
    simp⟩).old (old_alloc (Below.refl _ _) (.cells #[.bool false, .slice none 0 0, .slice (some ⟨w.heap.size + 1, 0, none⟩) 1 1] 24))
  have hO' : OI (((w.alloc (.cells #[.bool false, .slice none 0 0, .slice none 0 0] 24)).alloc (.cells #[.int .i64 1] 3)).alloc (.cells #[.bool false, .slice none 0 0, .slice (some ⟨w.heap.size + 1, 0, none⟩) 1 1] 24)) (w.heap.size + 1) (some ⟨w.heap.size + 1, 0, none⟩) 1 [1] := ⟨fun x hx => by simp at hx; subst hx; omega, Nat.le_refl _, by unfold maxLen; omega, .inr ⟨_, rfl, Nat.le_refl _, hr⟩⟩
  have N := hd (fun w' => sNatOf m (by omega) w')
  have hm : ¬ ((m : Nat) : Int) < 0 := by omega
  have hm0 : 0 ≤ (m : Int) := by omega
  have hm1 : (m : Int) < 9223372036854775808 := by omega
  generalize natL m = ml at *
  generalize hM : (m : Int) = M at *
  clear hr
  go_enter Tryz.func55, Tryz.ntmps55
  go_wp2_with fail
  refine (N.out _).mono ?_
  rintro e w1 ⟨⟨av, cv, rfl, hO⟩, hb1⟩
  have hsz : w.heap.size + 3 ≤ (((w.alloc (.cells #[.bool false, .slice none 0 0, .slice none 0 0] 24)).alloc (.cells #[.int .i64 1] 3)).alloc (.cells #[.bool false, .slice none 0 0, .slice (some ⟨w.heap.size + 1, 0, none⟩) 1 1] 24)).heap.size := by simp
  have hsep := (OI.sepOf hO' hO (Nat.le_refl _)).symm
  replace K := (K.old hb1).far (c := w.heap.size + 1 + 1) (i := 1) (v := .slice av ml.length cv) (by omega)
  have V1 := (V.old hb1)
  replace V := V1.set1 (.slice av ml.length cv)
  have q1 := oi_setFar hO (b := w.heap.size + 1 + 1) (i := 1) (v := .slice av ml.length cv) (by omega)
  have q2 := (hO'.later hb1).kept (grown_set (grown_refl w1 (some (w.heap.size + 1 + 1))) 1 (.slice av ml.length cv)) (fun q e e2 => by
    injection e with e
    subst e
    injection e2 with e2
    simp at e2)
  have hB1 : Below w.heap.size w (w1.setCell ⟨w.heap.size + 1 + 1, 1, none⟩ (.slice av ml.length cv)) := below_set (old_trans e0 hb1) (by omega) _
  obtain ⟨n1, ⟨n2, n3, n4⟩, n5, n6, n7⟩ := id V1
  clear hO hO' hb1 V1
  generalize hW7 : w1.setCell ⟨w.heap.size + 1 + 1, 1, none⟩ (.slice av ml.length cv) = W7 at *
  obtain ⟨p1, ⟨p2, p3, p4⟩, -⟩ := id V
  obtain ⟨r1, ⟨r2, r3, r4⟩, r5, r6, r7⟩ := id K
  have o1 := (oi_set3 (b := w.heap.size) (v0 := .bool false) (v1 := .slice av ml.length cv) (v2 := .slice (some ⟨w.heap.size + 1, 0, none⟩) 1 1) q1 (by omega)).mono e0.size
  have o2 := (oi_set3 (b := w.heap.size) (v0 := .bool false) (v1 := .slice av ml.length cv) (v2 := .slice (some ⟨w.heap.size + 1, 0, none⟩) 1 1) q2 (by omega)).mono (show w.heap.size ≤ w.heap.size + 1 by omega)
  go_wp2
  exact bodyPost_ret (resFracIntS (K.setAll (.bool false) (.slice av ml.length cv) (.slice (some ⟨w.heap.size + 1, 0, none⟩) 1 1)) rfl) rfl ⟨⟨av, cv, some ⟨w.heap.size + 1, 0, none⟩, 1, rfl, o1, o2, hsep⟩, below_set (below_set (below_set hB1 (by omega) _) (by omega) _) (by omega) _⟩
end Go.Proofs.YtlfaiekcmflgnaaGreatDoor
