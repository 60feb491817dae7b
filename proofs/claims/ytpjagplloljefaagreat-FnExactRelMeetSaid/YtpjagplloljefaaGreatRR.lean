/- Both sides of a relation narrowed, by the specification; nothing that was there is written. -/
import Derived.Test.YtpjagplloljefaaGreatRP
import Derived.Deep.DeepCutAuto
namespace Go.Proofs.YtpjagplloljefaaGreat
open Go.RowKit
set_option linter.unusedVariables false
set_option maxRecDepth 100000

theorem meet_nil {wd : Int} {x y : Sp} (h : (meetS wd x y).s = false) : meetS wd x y = nilS := by
  unfold meetS at *
  have e : (bothB wd x.s y.s x.lo x.hi y.lo y.hi && decide (max x.lo y.lo ≤ min x.hi y.hi)) = false := h
  rw [e]; rfl
theorem low_s {wd : Int} {x y : Sp} (hx : someS wd x = true) (hy : someS wd y = true) : (lowM wd x y).s = decide (x.lo ≤ y.hi) := by
  have q1 := pokB_in (some_in hx).2
  have q2 := pokB_in (some_in hy).2
  have r1 := okB_in q1.1
  have r2 := okB_in q1.2.1
  have r3 := okB_in q2.1
  have r4 := okB_in q2.2.1
  have hw := some_w hx
  have tp : 0 < topI wd := by rcases hw with rfl | rfl <;> decide
  have g2 : okB wd (-topI wd) = true := decide_eq_true ⟨hw, by omega, by omega⟩
  have g3 : pokB wd (-topI wd) y.hi = true := pokB_mk g2 q2.2.1 (by omega) (by omega) q2.2.2.2.2
  have hs : someS wd ⟨true, -topI wd, y.hi⟩ = true := g3
  unfold lowM meetS
  rw [both_some, hx, hs]
  show (true && true && decide (max x.lo (-topI wd) ≤ min x.hi y.hi)) = _
  rw [Bool.and_self, Bool.true_and]
  exact decide_eq_decide.2 (by omega)
theorem high_s {wd : Int} {x y : Sp} (hx : someS wd x = true) (hy : someS wd y = true) : (highM wd x y).s = decide (x.lo ≤ y.hi) := by
  have q1 := pokB_in (some_in hx).2
  have q2 := pokB_in (some_in hy).2
  have r1 := okB_in q1.1
  have r2 := okB_in q1.2.1
  have r3 := okB_in q2.1
  have r4 := okB_in q2.2.1
  have hw := some_w hx
  have tp : 0 < topI wd := by rcases hw with rfl | rfl <;> decide
  have g2 : okB wd (topI wd) = true := decide_eq_true ⟨hw, by omega, by omega⟩
  have g3 : pokB wd x.lo (topI wd) = true := pokB_mk q1.1 g2 (by omega) q1.2.2.2.1 (by omega)
  have hs : someS wd ⟨true, x.lo, topI wd⟩ = true := g3
  unfold highM meetS
  rw [both_some, hy, hs]
  show (true && true && decide (max y.lo x.lo ≤ min y.hi (topI wd))) = _
  rw [Bool.and_self, Bool.true_and]
  exact decide_eq_decide.2 (by omega)
/-- where nothing is left of the one, nothing is of the other one -/
def twin (U V : Sp) : Prop := U.s = V.s ∧ (U.s = false → U.lo = 0 ∧ U.hi = 0 ∧ V.lo = 0 ∧ V.hi = 0)
theorem twin_low {wd : Int} {x y : Sp} (h : (someS wd x && someS wd y) = true) : twin (lowM wd x y) (highM wd x y) := by
  simp only [Bool.and_eq_true] at h
  have e : (lowM wd x y).s = (highM wd x y).s := (low_s h.1 h.2).trans (high_s h.1 h.2).symm
  refine ⟨e, fun g => ?_⟩
  have e1 : lowM wd x y = nilS := meet_nil g
  have e2 : highM wd x y = nilS := meet_nil (e ▸ g)
  rw [e1, e2]; exact ⟨rfl, rfl, rfl, rfl⟩
theorem twin_meet (wd : Int) (x y : Sp) : twin (meetS wd x y) (meetS wd x y) := by
  refine ⟨rfl, fun g => ?_⟩
  rw [meet_nil g]; exact ⟨rfl, rfl, rfl, rfl⟩
set_option maxHeartbeats 4000000 in
theorem sRelMeet0 (wd rl : Int) (hn : isR rl = false) (s1 s2 : Bool) (a b c d : Int) (w : World) :
    Calls Tryz.prog 12 #[.int .i64 wd, .int .i64 rl, .agg #[.bool s1, .int .i64 a, .int .i64 b], .agg #[.bool s2, .int .i64 c, .int .i64 d]] w fun e w' => e = .returned (.tuple #[.agg #[.bool false, .int .i64 0, .int .i64 0], .agg #[.bool false, .int .i64 0, .int .i64 0]]) ∧ Below w.heap.size w w' := by
  have HB := hd (sBoth wd s1 s2 a b c d)
  have HR := hd (sRel rl)
  have hb0 : bothB wd s1 s2 a b c d = (someS wd ⟨s1, a, b⟩ && someS wd ⟨s2, c, d⟩) := rfl
  rw [hb0] at HB
  clear hb0
  rw [hn] at HR
  generalize (someS wd ⟨s1, a, b⟩ && someS wd ⟨s2, c, d⟩) = q at *
  have K := (((S3.made w _ rfl (.bool s1) (.int .i64 a) (.int .i64 b) 24).alloc (.cells #[.bool s2, .int .i64 c, .int .i64 d] 24)).alloc (.cells #[.bool false, .int .i64 0, .int .i64 0] 24)).alloc (.cells #[.bool false, .int .i64 0, .int .i64 0] 24)
  have L := ((S3.made (w.alloc (.cells #[.bool s1, .int .i64 a, .int .i64 b] 24)) (w.heap.size + 1) (by simp) (.bool s2) (.int .i64 c) (.int .i64 d) 24).alloc (.cells #[.bool false, .int .i64 0, .int .i64 0] 24)).alloc (.cells #[.bool false, .int .i64 0, .int .i64 0] 24)
  have N := (S3.made ((w.alloc (.cells #[.bool s1, .int .i64 a, .int .i64 b] 24)).alloc (.cells #[.bool s2, .int .i64 c, .int .i64 d] 24)) (w.heap.size + 1 + 1) (by simp) (.bool false) (.int .i64 0) (.int .i64 0) 24).alloc (.cells #[.bool false, .int .i64 0, .int .i64 0] 24)
  have M := S3.made (((w.alloc (.cells #[.bool s1, .int .i64 a, .int .i64 b] 24)).alloc (.cells #[.bool s2, .int .i64 c, .int .i64 d] 24)).alloc (.cells #[.bool false, .int .i64 0, .int .i64 0] 24)) (w.heap.size + 1 + 1 + 1) (by simp) (.bool false) (.int .i64 0) (.int .i64 0) 24
  have z01 : w.heap.size ≠ w.heap.size + 1 := by omega
  have z02 : w.heap.size ≠ w.heap.size + 1 + 1 := by omega
  have z03 : w.heap.size ≠ w.heap.size + 1 + 1 + 1 := by omega
  have z10 : w.heap.size + 1 ≠ w.heap.size := by omega
  have z12 : w.heap.size + 1 ≠ w.heap.size + 1 + 1 := by omega
  have z13 : w.heap.size + 1 ≠ w.heap.size + 1 + 1 + 1 := by omega
  have z20 : w.heap.size + 1 + 1 ≠ w.heap.size := by omega
  have z21 : w.heap.size + 1 + 1 ≠ w.heap.size + 1 := by omega
  have z23 : w.heap.size + 1 + 1 ≠ w.heap.size + 1 + 1 + 1 := by omega
  have z30 : w.heap.size + 1 + 1 + 1 ≠ w.heap.size := by omega
  have z31 : w.heap.size + 1 + 1 + 1 ≠ w.heap.size + 1 := by omega
  have z32 : w.heap.size + 1 + 1 + 1 ≠ w.heap.size + 1 + 1 := by omega
  obtain ⟨⟨K0, K1, K2⟩, -, Kz⟩ := id K
  obtain ⟨⟨L0, L1, L2⟩, -, Lz⟩ := id L
  go_enter Tryz.func12, Tryz.ntmps12
  go_wp2_with fail
  refine (HB.out _).mono ?_
  rintro e w1 ⟨rfl, hb1⟩
  replace K := K.later hb1
  replace L := L.later hb1
  replace N := N.later hb1
  replace M := M.later hb1
  have hB : Below w.heap.size w w1 := (by repeat (first | with_reducible exact Below.refl _ _ | with_reducible refine Below.drew ?_ | ((with_reducible refine Below.setCell ?_ ?_ _); rotate_left; (focus (first | (simp; done) | omega | (simp; omega)))) | with_reducible refine old_alloc ?_ _ | with_reducible refine old_trans ?_ (by with_reducible assumption)))
  clear hb1 HB
  clear K0 K1 K2 Kz L0 L1 L2 Lz
  obtain ⟨⟨K0, K1, K2⟩, -, Kz⟩ := id K
  obtain ⟨⟨L0, L1, L2⟩, -, Lz⟩ := id L
  cases q
  · obtain ⟨⟨N0, N1, N2⟩, ⟨Nf, Ng, Nh⟩, Nz⟩ := id N
    obtain ⟨⟨M0, M1, M2⟩, ⟨Mf, Mg, Mh⟩, Mz⟩ := id M
    go_wp2
    refine bodyPost_ret (v := .tuple #[.agg #[.bool false, .int .i64 0, .int .i64 0], .agg #[.bool false, .int .i64 0, .int .i64 0]]) ?_ rfl ⟨rfl, (by repeat (first | with_reducible exact hB | with_reducible exact Below.refl _ _ | with_reducible refine Below.drew ?_ | ((with_reducible refine Below.setCell ?_ ?_ _); rotate_left; (focus (first | (simp; done) | omega | (simp; omega)))) | with_reducible refine old_alloc ?_ _ | with_reducible refine old_trans ?_ (by with_reducible assumption)))⟩
    simp [results, Tryz.results12, go_sem, N0, N1, N2, M0, M1, M2]
  go_wp2_with fail
  refine (HR.out _).mono ?_
  rintro e wy ⟨rfl, rfl⟩
  clear HR
  obtain ⟨⟨N0, N1, N2⟩, ⟨Nf, Ng, Nh⟩, Nz⟩ := id N
  obtain ⟨⟨M0, M1, M2⟩, ⟨Mf, Mg, Mh⟩, Mz⟩ := id M
  go_wp2
  refine bodyPost_ret (v := .tuple #[.agg #[.bool false, .int .i64 0, .int .i64 0], .agg #[.bool false, .int .i64 0, .int .i64 0]]) ?_ rfl ⟨rfl, (by repeat (first | with_reducible exact hB | with_reducible exact Below.refl _ _ | with_reducible refine Below.drew ?_ | ((with_reducible refine Below.setCell ?_ ?_ _); rotate_left; (focus (first | (simp; done) | omega | (simp; omega)))) | with_reducible refine old_alloc ?_ _ | with_reducible refine old_trans ?_ (by with_reducible assumption)))⟩
  simp [results, Tryz.results12, go_sem, N0, N1, N2, M0, M1, M2]
set_option maxHeartbeats 4000000 in
theorem sRelMeet3 (wd : Int) (s1 s2 : Bool) (a b c d : Int) (w : World) :
    Calls Tryz.prog 12 #[.int .i64 wd, .int .i64 3, .agg #[.bool s1, .int .i64 a, .int .i64 b], .agg #[.bool s2, .int .i64 c, .int .i64 d]] w fun e w' => e = .returned (.tuple #[.agg #[.bool (metA wd 3 ⟨s1, a, b⟩ ⟨s2, c, d⟩).s, .int .i64 (metA wd 3 ⟨s1, a, b⟩ ⟨s2, c, d⟩).lo, .int .i64 (metA wd 3 ⟨s1, a, b⟩ ⟨s2, c, d⟩).hi], .agg #[.bool (metB wd 3 ⟨s1, a, b⟩ ⟨s2, c, d⟩).s, .int .i64 (metB wd 3 ⟨s1, a, b⟩ ⟨s2, c, d⟩).lo, .int .i64 (metB wd 3 ⟨s1, a, b⟩ ⟨s2, c, d⟩).hi]]) ∧ Below w.heap.size w w' := by
  have HB := hd (sBoth wd s1 s2 a b c d)
  have HR := hd (sRel 3)
  have hb0 : bothB wd s1 s2 a b c d = (someS wd ⟨s1, a, b⟩ && someS wd ⟨s2, c, d⟩) := rfl
  rw [hb0] at HB
  clear hb0
  rw [show isR 3 = true from rfl] at HR
  have HM := hd (sMeetS wd s1 s2 a b c d)
  have hT := hd (twin_meet wd ⟨s1, a, b⟩ ⟨s2, c, d⟩).2
  have hA : metA wd 3 ⟨s1, a, b⟩ ⟨s2, c, d⟩ = if someS wd ⟨s1, a, b⟩ && someS wd ⟨s2, c, d⟩ then meetS wd ⟨s1, a, b⟩ ⟨s2, c, d⟩ else nilS := rfl
  have hA' : metB wd 3 ⟨s1, a, b⟩ ⟨s2, c, d⟩ = if someS wd ⟨s1, a, b⟩ && someS wd ⟨s2, c, d⟩ then meetS wd ⟨s1, a, b⟩ ⟨s2, c, d⟩ else nilS := rfl
  rw [hA, hA']
  clear hA hA'
  generalize (someS wd ⟨s1, a, b⟩ && someS wd ⟨s2, c, d⟩) = q at *
  generalize meetS wd ⟨s1, a, b⟩ ⟨s2, c, d⟩ = U at *
  obtain ⟨m1, m2, m3⟩ := U
  dsimp only at HM
  replace hT : Hid (m1 = false → m2 = 0 ∧ m3 = 0 ∧ m2 = 0 ∧ m3 = 0) := hT
  replace hT : Hid (m1 = false → m2 = 0 ∧ m3 = 0) := fun h => ⟨(hT.out h).1, (hT.out h).2.1⟩
  have K := (((S3.made w _ rfl (.bool s1) (.int .i64 a) (.int .i64 b) 24).alloc (.cells #[.bool s2, .int .i64 c, .int .i64 d] 24)).alloc (.cells #[.bool false, .int .i64 0, .int .i64 0] 24)).alloc (.cells #[.bool false, .int .i64 0, .int .i64 0] 24)
  have L := ((S3.made (w.alloc (.cells #[.bool s1, .int .i64 a, .int .i64 b] 24)) (w.heap.size + 1) (by simp) (.bool s2) (.int .i64 c) (.int .i64 d) 24).alloc (.cells #[.bool false, .int .i64 0, .int .i64 0] 24)).alloc (.cells #[.bool false, .int .i64 0, .int .i64 0] 24)
  have N := (S3.made ((w.alloc (.cells #[.bool s1, .int .i64 a, .int .i64 b] 24)).alloc (.cells #[.bool s2, .int .i64 c, .int .i64 d] 24)) (w.heap.size + 1 + 1) (by simp) (.bool false) (.int .i64 0) (.int .i64 0) 24).alloc (.cells #[.bool false, .int .i64 0, .int .i64 0] 24)
  have M := S3.made (((w.alloc (.cells #[.bool s1, .int .i64 a, .int .i64 b] 24)).alloc (.cells #[.bool s2, .int .i64 c, .int .i64 d] 24)).alloc (.cells #[.bool false, .int .i64 0, .int .i64 0] 24)) (w.heap.size + 1 + 1 + 1) (by simp) (.bool false) (.int .i64 0) (.int .i64 0) 24
  have z01 : w.heap.size ≠ w.heap.size + 1 := by omega
  have z02 : w.heap.size ≠ w.heap.size + 1 + 1 := by omega
  have z03 : w.heap.size ≠ w.heap.size + 1 + 1 + 1 := by omega
  have z10 : w.heap.size + 1 ≠ w.heap.size := by omega
  have z12 : w.heap.size + 1 ≠ w.heap.size + 1 + 1 := by omega
  have z13 : w.heap.size + 1 ≠ w.heap.size + 1 + 1 + 1 := by omega
  have z20 : w.heap.size + 1 + 1 ≠ w.heap.size := by omega
  have z21 : w.heap.size + 1 + 1 ≠ w.heap.size + 1 := by omega
  have z23 : w.heap.size + 1 + 1 ≠ w.heap.size + 1 + 1 + 1 := by omega
  have z30 : w.heap.size + 1 + 1 + 1 ≠ w.heap.size := by omega
  have z31 : w.heap.size + 1 + 1 + 1 ≠ w.heap.size + 1 := by omega
  have z32 : w.heap.size + 1 + 1 + 1 ≠ w.heap.size + 1 + 1 := by omega
  obtain ⟨⟨K0, K1, K2⟩, -, Kz⟩ := id K
  obtain ⟨⟨L0, L1, L2⟩, -, Lz⟩ := id L
  go_enter Tryz.func12, Tryz.ntmps12
  go_wp2_with fail
  refine (HB.out _).mono ?_
  rintro e w1 ⟨rfl, hb1⟩
  replace K := K.later hb1
  replace L := L.later hb1
  replace N := N.later hb1
  replace M := M.later hb1
  have hB : Below w.heap.size w w1 := (by repeat (first | with_reducible exact Below.refl _ _ | with_reducible refine Below.drew ?_ | ((with_reducible refine Below.setCell ?_ ?_ _); rotate_left; (focus (first | (simp; done) | omega | (simp; omega)))) | with_reducible refine old_alloc ?_ _ | with_reducible refine old_trans ?_ (by with_reducible assumption)))
  clear hb1 HB
  clear K0 K1 K2 Kz L0 L1 L2 Lz
  obtain ⟨⟨K0, K1, K2⟩, -, Kz⟩ := id K
  obtain ⟨⟨L0, L1, L2⟩, -, Lz⟩ := id L
  cases q
  · obtain ⟨⟨N0, N1, N2⟩, ⟨Nf, Ng, Nh⟩, Nz⟩ := id N
    obtain ⟨⟨M0, M1, M2⟩, ⟨Mf, Mg, Mh⟩, Mz⟩ := id M
    go_wp2
    refine bodyPost_ret (v := .tuple #[.agg #[.bool false, .int .i64 0, .int .i64 0], .agg #[.bool false, .int .i64 0, .int .i64 0]]) ?_ rfl ⟨rfl, (by repeat (first | with_reducible exact hB | with_reducible exact Below.refl _ _ | with_reducible refine Below.drew ?_ | ((with_reducible refine Below.setCell ?_ ?_ _); rotate_left; (focus (first | (simp; done) | omega | (simp; omega)))) | with_reducible refine old_alloc ?_ _ | with_reducible refine old_trans ?_ (by with_reducible assumption)))⟩
    simp [results, Tryz.results12, go_sem, N0, N1, N2, M0, M1, M2]
  go_wp2_with fail
  refine (HR.out _).mono ?_
  rintro e wy ⟨rfl, rfl⟩
  clear HR
  go_wp2_with fail
  refine (HM.out _).mono ?_
  rintro e w2 ⟨rfl, hb2⟩
  have hw1 : w.heap.size + 1 + 1 + 1 < w2.heap.size := Nat.lt_of_lt_of_le M.lt hb2.size
  replace hB : Below w.heap.size w ((w2.alloc (.cells #[.bool m1, .int .i64 m2, .int .i64 m3] 24)).alloc (.cells #[.bool m1, .int .i64 m2, .int .i64 m3] 24)) := old_alloc (old_alloc (old_trans hB hb2) _) _
  have G := (S3.made w2 _ rfl (.bool m1) (.int .i64 m2) (.int .i64 m3) 24).alloc (.cells #[.bool m1, .int .i64 m2, .int .i64 m3] 24)
  have O := S3.made (w2.alloc (.cells #[.bool m1, .int .i64 m2, .int .i64 m3] 24)) (w2.heap.size + 1) (by simp) (.bool m1) (.int .i64 m2) (.int .i64 m3) 24
  replace K := ((K.later hb2).alloc (.cells #[.bool m1, .int .i64 m2, .int .i64 m3] 24)).alloc (.cells #[.bool m1, .int .i64 m2, .int .i64 m3] 24)
  replace L := ((L.later hb2).alloc (.cells #[.bool m1, .int .i64 m2, .int .i64 m3] 24)).alloc (.cells #[.bool m1, .int .i64 m2, .int .i64 m3] 24)
  replace N := ((N.later hb2).alloc (.cells #[.bool m1, .int .i64 m2, .int .i64 m3] 24)).alloc (.cells #[.bool m1, .int .i64 m2, .int .i64 m3] 24)
  replace M := ((M.later hb2).alloc (.cells #[.bool m1, .int .i64 m2, .int .i64 m3] 24)).alloc (.cells #[.bool m1, .int .i64 m2, .int .i64 m3] 24)
  clear HM K0 K1 K2 Kz L0 L1 L2 Lz
  cases m1
  · obtain ⟨rfl, rfl⟩ := hT.out (by first | rfl | trivial)
    obtain ⟨⟨G0, G1, G2⟩, -, Gz⟩ := id G
    obtain ⟨⟨O0, O1, O2⟩, -, Oz⟩ := id O
    obtain ⟨⟨N0, N1, N2⟩, ⟨Nf, Ng, Nh⟩, Nz⟩ := id N
    obtain ⟨⟨M0, M1, M2⟩, ⟨Mf, Mg, Mh⟩, Mz⟩ := id M
    go_wp2
    refine bodyPost_ret (v := .tuple #[.agg #[.bool false, .int .i64 0, .int .i64 0], .agg #[.bool false, .int .i64 0, .int .i64 0]]) ?_ rfl ⟨rfl, (by repeat (first | with_reducible exact hB | with_reducible exact Below.refl _ _ | with_reducible refine Below.drew ?_ | ((with_reducible refine Below.setCell ?_ ?_ _); rotate_left; (focus (first | (simp; done) | omega | (simp; omega)))) | with_reducible refine old_alloc ?_ _ | with_reducible refine old_trans ?_ (by with_reducible assumption)))⟩
    simp [results, Tryz.results12, go_sem, N0, N1, N2, M0, M1, M2]
  go_wp2_with fail
  generalize ((w2.alloc (.cells #[.bool true, .int .i64 m2, .int .i64 m3] 24)).alloc (.cells #[.bool true, .int .i64 m2, .int .i64 m3] 24)) = w3 at *
  generalize w2.heap.size = bp at *
  clear hb2
  have y1 : w.heap.size + 1 + 1 ≠ bp := by omega
  have y2 : w.heap.size + 1 + 1 + 1 ≠ bp := by omega
  have y3 : bp ≠ w.heap.size + 1 + 1 := by omega
  have y4 : bp ≠ w.heap.size + 1 + 1 + 1 := by omega
  have y5 : bp ≠ w.heap.size + 1 := by omega
  have y6 : w.heap.size + 1 ≠ bp := by omega
  have y7 : bp ≠ w.heap.size := by omega
  have y8 : w.heap.size ≠ bp := by omega
  have y9 : w.heap.size ≠ bp + 1 := by omega
  have y10 : bp + 1 ≠ w.heap.size := by omega
  clear hw1
  obtain ⟨⟨G0, G1, G2⟩, -, Gz⟩ := id G
  obtain ⟨⟨O0, O1, O2⟩, -, Oz⟩ := id O
  obtain ⟨⟨N0, N1, N2⟩, ⟨Nf, Ng, Nh⟩, Nz⟩ := id N
  obtain ⟨⟨M0, M1, M2⟩, ⟨Mf, Mg, Mh⟩, Mz⟩ := id M
  go_region
  all_goals
    go_wp2
    refine bodyPost_ret (v := .tuple #[.agg #[.bool true, .int .i64 m2, .int .i64 m3], .agg #[.bool true, .int .i64 m2, .int .i64 m3]]) ?_ rfl ⟨rfl, (by repeat (first | with_reducible exact hB | with_reducible exact Below.refl _ _ | with_reducible refine Below.drew ?_ | ((with_reducible refine Below.setCell ?_ ?_ _); rotate_left; (focus (first | (simp; done) | omega | (simp; omega)))) | with_reducible refine old_alloc ?_ _ | with_reducible refine old_trans ?_ (by with_reducible assumption)))⟩
    simp [results, Tryz.results12, go_sem, N0, N1, N2, M0, M1, M2]
set_option maxHeartbeats 8000000 in
theorem sRelMeet1 (wd : Int) (s1 s2 : Bool) (a b c d : Int) (w : World) :
    Calls Tryz.prog 12 #[.int .i64 wd, .int .i64 1, .agg #[.bool s1, .int .i64 a, .int .i64 b], .agg #[.bool s2, .int .i64 c, .int .i64 d]] w fun e w' => e = .returned (.tuple #[.agg #[.bool (metA wd 1 ⟨s1, a, b⟩ ⟨s2, c, d⟩).s, .int .i64 (metA wd 1 ⟨s1, a, b⟩ ⟨s2, c, d⟩).lo, .int .i64 (metA wd 1 ⟨s1, a, b⟩ ⟨s2, c, d⟩).hi], .agg #[.bool (metB wd 1 ⟨s1, a, b⟩ ⟨s2, c, d⟩).s, .int .i64 (metB wd 1 ⟨s1, a, b⟩ ⟨s2, c, d⟩).lo, .int .i64 (metB wd 1 ⟨s1, a, b⟩ ⟨s2, c, d⟩).hi]]) ∧ Below w.heap.size w w' := by
  have HB := hd (sBoth wd s1 s2 a b c d)
  have HR := hd (sRel 1)
  have hb0 : bothB wd s1 s2 a b c d = (someS wd ⟨s1, a, b⟩ && someS wd ⟨s2, c, d⟩) := rfl
  rw [hb0] at HB
  clear hb0
  rw [show isR 1 = true from rfl] at HR
  have HM := hd (sMeetS wd s1 s2 a b c d)
  have T0 := hd (sTop wd)
  have T1 := hd (sOfL (-topI wd) d)
  have T2 := hd (sOfL a (topI wd))
  have T3 := hd (sMeetS wd s1 true a b (-topI wd) d)
  have T4 := hd (sMeetS wd s2 true c d a (topI wd))
  have htb := topI_bd wd
  have hT := hd (@twin_low wd ⟨s1, a, b⟩ ⟨s2, c, d⟩)
  have hA : metA wd 1 ⟨s1, a, b⟩ ⟨s2, c, d⟩ = if someS wd ⟨s1, a, b⟩ && someS wd ⟨s2, c, d⟩ then lowM wd ⟨s1, a, b⟩ ⟨s2, c, d⟩ else nilS := rfl
  have hA' : metB wd 1 ⟨s1, a, b⟩ ⟨s2, c, d⟩ = if someS wd ⟨s1, a, b⟩ && someS wd ⟨s2, c, d⟩ then highM wd ⟨s1, a, b⟩ ⟨s2, c, d⟩ else nilS := rfl
  rw [hA, hA']
  clear hA hA'
  rw [show meetS wd ⟨s1, a, b⟩ ⟨true, -topI wd, d⟩ = lowM wd ⟨s1, a, b⟩ ⟨s2, c, d⟩ from rfl] at T3
  rw [show meetS wd ⟨s2, c, d⟩ ⟨true, a, topI wd⟩ = highM wd ⟨s1, a, b⟩ ⟨s2, c, d⟩ from rfl] at T4
  generalize (someS wd ⟨s1, a, b⟩ && someS wd ⟨s2, c, d⟩) = q at *
  generalize lowM wd ⟨s1, a, b⟩ ⟨s2, c, d⟩ = U at *
  generalize highM wd ⟨s1, a, b⟩ ⟨s2, c, d⟩ = V at *
  generalize meetS wd ⟨s1, a, b⟩ ⟨s2, c, d⟩ = Y at *
  obtain ⟨m1, m2, m3⟩ := Y
  obtain ⟨u1, u2, u3⟩ := U
  obtain ⟨v1, v2, v3⟩ := V
  dsimp only at HM T3 T4
  replace hT : Hid (q = true → u1 = v1 ∧ (u1 = false → u2 = 0 ∧ u3 = 0 ∧ v2 = 0 ∧ v3 = 0)) := hT
  generalize topI wd = t at *
  have K := (((S3.made w _ rfl (.bool s1) (.int .i64 a) (.int .i64 b) 24).alloc (.cells #[.bool s2, .int .i64 c, .int .i64 d] 24)).alloc (.cells #[.bool false, .int .i64 0, .int .i64 0] 24)).alloc (.cells #[.bool false, .int .i64 0, .int .i64 0] 24)
  have L := ((S3.made (w.alloc (.cells #[.bool s1, .int .i64 a, .int .i64 b] 24)) (w.heap.size + 1) (by simp) (.bool s2) (.int .i64 c) (.int .i64 d) 24).alloc (.cells #[.bool false, .int .i64 0, .int .i64 0] 24)).alloc (.cells #[.bool false, .int .i64 0, .int .i64 0] 24)
  have N := (S3.made ((w.alloc (.cells #[.bool s1, .int .i64 a, .int .i64 b] 24)).alloc (.cells #[.bool s2, .int .i64 c, .int .i64 d] 24)) (w.heap.size + 1 + 1) (by simp) (.bool false) (.int .i64 0) (.int .i64 0) 24).alloc (.cells #[.bool false, .int .i64 0, .int .i64 0] 24)
  have M := S3.made (((w.alloc (.cells #[.bool s1, .int .i64 a, .int .i64 b] 24)).alloc (.cells #[.bool s2, .int .i64 c, .int .i64 d] 24)).alloc (.cells #[.bool false, .int .i64 0, .int .i64 0] 24)) (w.heap.size + 1 + 1 + 1) (by simp) (.bool false) (.int .i64 0) (.int .i64 0) 24
  have z01 : w.heap.size ≠ w.heap.size + 1 := by omega
  have z02 : w.heap.size ≠ w.heap.size + 1 + 1 := by omega
  have z03 : w.heap.size ≠ w.heap.size + 1 + 1 + 1 := by omega
  have z10 : w.heap.size + 1 ≠ w.heap.size := by omega
  have z12 : w.heap.size + 1 ≠ w.heap.size + 1 + 1 := by omega
  have z13 : w.heap.size + 1 ≠ w.heap.size + 1 + 1 + 1 := by omega
  have z20 : w.heap.size + 1 + 1 ≠ w.heap.size := by omega
  have z21 : w.heap.size + 1 + 1 ≠ w.heap.size + 1 := by omega
  have z23 : w.heap.size + 1 + 1 ≠ w.heap.size + 1 + 1 + 1 := by omega
  have z30 : w.heap.size + 1 + 1 + 1 ≠ w.heap.size := by omega
  have z31 : w.heap.size + 1 + 1 + 1 ≠ w.heap.size + 1 := by omega
  have z32 : w.heap.size + 1 + 1 + 1 ≠ w.heap.size + 1 + 1 := by omega
  obtain ⟨⟨K0, K1, K2⟩, -, Kz⟩ := id K
  obtain ⟨⟨L0, L1, L2⟩, -, Lz⟩ := id L
  go_enter Tryz.func12, Tryz.ntmps12
  go_wp2_with fail
  refine (HB.out _).mono ?_
  rintro e w1 ⟨rfl, hb1⟩
  replace K := K.later hb1
  replace L := L.later hb1
  replace N := N.later hb1
  replace M := M.later hb1
  have hB : Below w.heap.size w w1 := (by repeat (first | with_reducible exact Below.refl _ _ | with_reducible refine Below.drew ?_ | ((with_reducible refine Below.setCell ?_ ?_ _); rotate_left; (focus (first | (simp; done) | omega | (simp; omega)))) | with_reducible refine old_alloc ?_ _ | with_reducible refine old_trans ?_ (by with_reducible assumption)))
  clear hb1 HB
  clear K0 K1 K2 Kz L0 L1 L2 Lz
  obtain ⟨⟨K0, K1, K2⟩, -, Kz⟩ := id K
  obtain ⟨⟨L0, L1, L2⟩, -, Lz⟩ := id L
  cases q
  · obtain ⟨⟨N0, N1, N2⟩, ⟨Nf, Ng, Nh⟩, Nz⟩ := id N
    obtain ⟨⟨M0, M1, M2⟩, ⟨Mf, Mg, Mh⟩, Mz⟩ := id M
    go_wp2
    refine bodyPost_ret (v := .tuple #[.agg #[.bool false, .int .i64 0, .int .i64 0], .agg #[.bool false, .int .i64 0, .int .i64 0]]) ?_ rfl ⟨rfl, (by repeat (first | with_reducible exact hB | with_reducible exact Below.refl _ _ | with_reducible refine Below.drew ?_ | ((with_reducible refine Below.setCell ?_ ?_ _); rotate_left; (focus (first | (simp; done) | omega | (simp; omega)))) | with_reducible refine old_alloc ?_ _ | with_reducible refine old_trans ?_ (by with_reducible assumption)))⟩
    simp [results, Tryz.results12, go_sem, N0, N1, N2, M0, M1, M2]
  go_wp2_with fail
  refine (HR.out _).mono ?_
  rintro e wy ⟨rfl, rfl⟩
  clear HR
  go_wp2_with fail
  refine (HM.out _).mono ?_
  rintro e w2 ⟨rfl, hb2⟩
  have hw1 : w.heap.size + 1 + 1 + 1 < w2.heap.size := Nat.lt_of_lt_of_le M.lt hb2.size
  replace hB : Below w.heap.size w ((w2.alloc (.cells #[.bool m1, .int .i64 m2, .int .i64 m3] 24)).alloc (.cells #[.bool m1, .int .i64 m2, .int .i64 m3] 24)) := old_alloc (old_alloc (old_trans hB hb2) _) _
  have G := (S3.made w2 _ rfl (.bool m1) (.int .i64 m2) (.int .i64 m3) 24).alloc (.cells #[.bool m1, .int .i64 m2, .int .i64 m3] 24)
  have O := S3.made (w2.alloc (.cells #[.bool m1, .int .i64 m2, .int .i64 m3] 24)) (w2.heap.size + 1) (by simp) (.bool m1) (.int .i64 m2) (.int .i64 m3) 24
  replace K := ((K.later hb2).alloc (.cells #[.bool m1, .int .i64 m2, .int .i64 m3] 24)).alloc (.cells #[.bool m1, .int .i64 m2, .int .i64 m3] 24)
  replace L := ((L.later hb2).alloc (.cells #[.bool m1, .int .i64 m2, .int .i64 m3] 24)).alloc (.cells #[.bool m1, .int .i64 m2, .int .i64 m3] 24)
  replace N := ((N.later hb2).alloc (.cells #[.bool m1, .int .i64 m2, .int .i64 m3] 24)).alloc (.cells #[.bool m1, .int .i64 m2, .int .i64 m3] 24)
  replace M := ((M.later hb2).alloc (.cells #[.bool m1, .int .i64 m2, .int .i64 m3] 24)).alloc (.cells #[.bool m1, .int .i64 m2, .int .i64 m3] 24)
  clear HM K0 K1 K2 Kz L0 L1 L2 Lz
  obtain ⟨rfl, hT2⟩ := hT.out (by first | rfl | trivial)
  have hT3 := hd hT2
  clear hT hT2
  have hwt : IntKind.i64.wrap (-t) = -t := by simp [IntKind.wrap, IntKind.bits, IntKind.signed]; omega
  go_upto_region 9 with fail
  generalize ((w2.alloc (.cells #[.bool m1, .int .i64 m2, .int .i64 m3] 24)).alloc (.cells #[.bool m1, .int .i64 m2, .int .i64 m3] 24)) = w3 at *
  generalize w2.heap.size = bp at *
  clear hb2
  have y1 : w.heap.size + 1 + 1 ≠ bp := by omega
  have y2 : w.heap.size + 1 + 1 + 1 ≠ bp := by omega
  have y3 : bp ≠ w.heap.size + 1 + 1 := by omega
  have y4 : bp ≠ w.heap.size + 1 + 1 + 1 := by omega
  have y5 : bp ≠ w.heap.size + 1 := by omega
  have y6 : w.heap.size + 1 ≠ bp := by omega
  have y7 : bp ≠ w.heap.size := by omega
  have y8 : w.heap.size ≠ bp := by omega
  have y9 : w.heap.size ≠ bp + 1 := by omega
  have y10 : bp + 1 ≠ w.heap.size := by omega
  have C1 := hd (fun w' (hS : w'.cell? ⟨w.heap.size, 0, none⟩ = some (.bool s1) ∧ w'.cell? ⟨w.heap.size, 1, none⟩ = some (.int .i64 a) ∧ w'.cell? ⟨w.heap.size, 2, none⟩ = some (.int .i64 b) ∧ w'.cell? ⟨w.heap.size + 1, 0, none⟩ = some (.bool s2) ∧ w'.cell? ⟨w.heap.size + 1, 1, none⟩ = some (.int .i64 c) ∧ w'.cell? ⟨w.heap.size + 1, 2, none⟩ = some (.int .i64 d)) => (T1.out w').mono (fun e w'' (k : _ ∧ _) => (⟨k, ⟨cell_later k.2 hS.1, cell_later k.2 hS.2.1, cell_later k.2 hS.2.2.1, cell_later k.2 hS.2.2.2.1, cell_later k.2 hS.2.2.2.2.1, cell_later k.2 hS.2.2.2.2.2⟩⟩ : (_ ∧ _) ∧ (w''.cell? ⟨w.heap.size, 0, none⟩ = some (.bool s1) ∧ w''.cell? ⟨w.heap.size, 1, none⟩ = some (.int .i64 a) ∧ w''.cell? ⟨w.heap.size, 2, none⟩ = some (.int .i64 b) ∧ w''.cell? ⟨w.heap.size + 1, 0, none⟩ = some (.bool s2) ∧ w''.cell? ⟨w.heap.size + 1, 1, none⟩ = some (.int .i64 c) ∧ w''.cell? ⟨w.heap.size + 1, 2, none⟩ = some (.int .i64 d)))))
  have C2 := hd (fun w' (hS : w'.cell? ⟨w.heap.size, 0, none⟩ = some (.bool s1) ∧ w'.cell? ⟨w.heap.size, 1, none⟩ = some (.int .i64 a) ∧ w'.cell? ⟨w.heap.size, 2, none⟩ = some (.int .i64 b) ∧ w'.cell? ⟨w.heap.size + 1, 0, none⟩ = some (.bool s2) ∧ w'.cell? ⟨w.heap.size + 1, 1, none⟩ = some (.int .i64 c) ∧ w'.cell? ⟨w.heap.size + 1, 2, none⟩ = some (.int .i64 d)) => (T2.out w').mono (fun e w'' (k : _ ∧ _) => (⟨k, ⟨cell_later k.2 hS.1, cell_later k.2 hS.2.1, cell_later k.2 hS.2.2.1, cell_later k.2 hS.2.2.2.1, cell_later k.2 hS.2.2.2.2.1, cell_later k.2 hS.2.2.2.2.2⟩⟩ : (_ ∧ _) ∧ (w''.cell? ⟨w.heap.size, 0, none⟩ = some (.bool s1) ∧ w''.cell? ⟨w.heap.size, 1, none⟩ = some (.int .i64 a) ∧ w''.cell? ⟨w.heap.size, 2, none⟩ = some (.int .i64 b) ∧ w''.cell? ⟨w.heap.size + 1, 0, none⟩ = some (.bool s2) ∧ w''.cell? ⟨w.heap.size + 1, 1, none⟩ = some (.int .i64 c) ∧ w''.cell? ⟨w.heap.size + 1, 2, none⟩ = some (.int .i64 d)))))
  have C3 := hd (fun w' (hS : w'.cell? ⟨w.heap.size, 0, none⟩ = some (.bool s1) ∧ w'.cell? ⟨w.heap.size, 1, none⟩ = some (.int .i64 a) ∧ w'.cell? ⟨w.heap.size, 2, none⟩ = some (.int .i64 b) ∧ w'.cell? ⟨w.heap.size + 1, 0, none⟩ = some (.bool s2) ∧ w'.cell? ⟨w.heap.size + 1, 1, none⟩ = some (.int .i64 c) ∧ w'.cell? ⟨w.heap.size + 1, 2, none⟩ = some (.int .i64 d)) => (T3.out w').mono (fun e w'' (k : _ ∧ _) => (⟨k, ⟨cell_later k.2 hS.1, cell_later k.2 hS.2.1, cell_later k.2 hS.2.2.1, cell_later k.2 hS.2.2.2.1, cell_later k.2 hS.2.2.2.2.1, cell_later k.2 hS.2.2.2.2.2⟩⟩ : (_ ∧ _) ∧ (w''.cell? ⟨w.heap.size, 0, none⟩ = some (.bool s1) ∧ w''.cell? ⟨w.heap.size, 1, none⟩ = some (.int .i64 a) ∧ w''.cell? ⟨w.heap.size, 2, none⟩ = some (.int .i64 b) ∧ w''.cell? ⟨w.heap.size + 1, 0, none⟩ = some (.bool s2) ∧ w''.cell? ⟨w.heap.size + 1, 1, none⟩ = some (.int .i64 c) ∧ w''.cell? ⟨w.heap.size + 1, 2, none⟩ = some (.int .i64 d)))))
  have C4 := hd (fun w' (hS : w'.cell? ⟨w.heap.size, 0, none⟩ = some (.bool s1) ∧ w'.cell? ⟨w.heap.size, 1, none⟩ = some (.int .i64 a) ∧ w'.cell? ⟨w.heap.size, 2, none⟩ = some (.int .i64 b) ∧ w'.cell? ⟨w.heap.size + 1, 0, none⟩ = some (.bool s2) ∧ w'.cell? ⟨w.heap.size + 1, 1, none⟩ = some (.int .i64 c) ∧ w'.cell? ⟨w.heap.size + 1, 2, none⟩ = some (.int .i64 d)) => (T4.out w').mono (fun e w'' (k : _ ∧ _) => (⟨k, ⟨cell_later k.2 hS.1, cell_later k.2 hS.2.1, cell_later k.2 hS.2.2.1, cell_later k.2 hS.2.2.2.1, cell_later k.2 hS.2.2.2.2.1, cell_later k.2 hS.2.2.2.2.2⟩⟩ : (_ ∧ _) ∧ (w''.cell? ⟨w.heap.size, 0, none⟩ = some (.bool s1) ∧ w''.cell? ⟨w.heap.size, 1, none⟩ = some (.int .i64 a) ∧ w''.cell? ⟨w.heap.size, 2, none⟩ = some (.int .i64 b) ∧ w''.cell? ⟨w.heap.size + 1, 0, none⟩ = some (.bool s2) ∧ w''.cell? ⟨w.heap.size + 1, 1, none⟩ = some (.int .i64 c) ∧ w''.cell? ⟨w.heap.size + 1, 2, none⟩ = some (.int .i64 d)))))
  clear T1 T2 T3 T4
  go_cut [12] (fun s wx => s = .pointer (some ⟨bp, 0, none⟩) ∧ S3 wx bp (.bool u1) (.int .i64 u2) (.int .i64 u3) ∧ S3 wx (bp + 1) (.bool m1) (.int .i64 m2) (.int .i64 m3) ∧ S3 wx (w.heap.size) (.bool s1) (.int .i64 a) (.int .i64 b) ∧ S3 wx (w.heap.size + 1) (.bool s2) (.int .i64 c) (.int .i64 d) ∧ S3 wx (w.heap.size + 1 + 1) (.bool false) (.int .i64 0) (.int .i64 0) ∧ S3 wx (w.heap.size + 1 + 1 + 1) (.bool false) (.int .i64 0) (.int .i64 0) ∧ Below w.heap.size w wx)
  case first =>
    obtain ⟨⟨G0, G1, G2⟩, ⟨Gf, Gg, Gh⟩, Gz⟩ := id G
    obtain ⟨⟨K0, K1, K2⟩, -, Kz⟩ := id K
    obtain ⟨⟨L0, L1, L2⟩, -, Lz⟩ := id L
    go_wp2_with fail
    go_region_held3 (fun w' => w'.cell? ⟨w.heap.size, 0, none⟩ = some (.bool s1) ∧ w'.cell? ⟨w.heap.size, 1, none⟩ = some (.int .i64 a) ∧ w'.cell? ⟨w.heap.size, 2, none⟩ = some (.int .i64 b) ∧ w'.cell? ⟨w.heap.size + 1, 0, none⟩ = some (.bool s2) ∧ w'.cell? ⟨w.heap.size + 1, 1, none⟩ = some (.int .i64 c) ∧ w'.cell? ⟨w.heap.size + 1, 2, none⟩ = some (.int .i64 d)) (go_keep) (first | (go_at_call 35; refine (T0.out _).mono ?_; rintro e w1 ⟨rfl, rfl⟩) | (go_at_call 34; with_reducible refine (C1.out _ (by assumption)).mono ?_; rintro e wx ⟨⟨rfl, hbx⟩, hcx⟩; have K := (by first | exact K.later hbx | exact K.drew.later hbx : S3 wx _ _ _ _); have L := (by first | exact L.later hbx | exact L.drew.later hbx : S3 wx _ _ _ _); have N := (by first | exact N.later hbx | exact N.drew.later hbx : S3 wx _ _ _ _); have M := (by first | exact M.later hbx | exact M.drew.later hbx : S3 wx _ _ _ _); have G := (by first | exact G.later hbx | exact G.drew.later hbx : S3 wx _ _ _ _); have O := (by first | exact O.later hbx | exact O.drew.later hbx : S3 wx _ _ _ _); obtain ⟨⟨G0, G1, G2⟩, ⟨Gf, Gg, Gh⟩, Gz⟩ := id G; obtain ⟨⟨O0, O1, O2⟩, ⟨Of, Og, Oh⟩, Oz⟩ := id O) | (go_at_call 22; with_reducible refine (C3.out _ (by assumption)).mono ?_; rintro e wx ⟨⟨rfl, hbx⟩, hcx⟩; have K := (by first | exact K.later hbx | exact K.drew.later hbx : S3 wx _ _ _ _); have L := (by first | exact L.later hbx | exact L.drew.later hbx : S3 wx _ _ _ _); have N := (by first | exact N.later hbx | exact N.drew.later hbx : S3 wx _ _ _ _); have M := (by first | exact M.later hbx | exact M.drew.later hbx : S3 wx _ _ _ _); have G := (by first | exact G.later hbx | exact G.drew.later hbx : S3 wx _ _ _ _); have O := (by first | exact O.later hbx | exact O.drew.later hbx : S3 wx _ _ _ _); obtain ⟨⟨G0, G1, G2⟩, ⟨Gf, Gg, Gh⟩, Gz⟩ := id G; obtain ⟨⟨O0, O1, O2⟩, ⟨Of, Og, Oh⟩, Oz⟩ := id O))
    all_goals
      go_wp2_with fail
      go_meet
      exact ⟨rfl, (by first | with_reducible exact G.stored _ _ _ | with_reducible exact (G.stored _ _ _).drew | exact G.stored _ _ _ | exact (G.stored _ _ _).drew), (by first | with_reducible exact O.others (by omega) _ _ _ | with_reducible exact (O.others (by omega) _ _ _).drew | exact O.others (by omega) _ _ _ | exact (O.others (by omega) _ _ _).drew), (by first | with_reducible exact K.others (by omega) _ _ _ | with_reducible exact (K.others (by omega) _ _ _).drew | exact K.others (by omega) _ _ _ | exact (K.others (by omega) _ _ _).drew), (by first | with_reducible exact L.others (by omega) _ _ _ | with_reducible exact (L.others (by omega) _ _ _).drew | exact L.others (by omega) _ _ _ | exact (L.others (by omega) _ _ _).drew), (by first | with_reducible exact N.others (by omega) _ _ _ | with_reducible exact (N.others (by omega) _ _ _).drew | exact N.others (by omega) _ _ _ | exact (N.others (by omega) _ _ _).drew), (by first | with_reducible exact M.others (by omega) _ _ _ | with_reducible exact (M.others (by omega) _ _ _).drew | exact M.others (by omega) _ _ _ | exact (M.others (by omega) _ _ _).drew), (by repeat (first | with_reducible exact hB | with_reducible exact Below.refl _ _ | with_reducible refine Below.drew ?_ | ((with_reducible refine Below.setCell ?_ ?_ _); rotate_left; (focus (first | (simp; done) | omega | (simp; omega)))) | with_reducible refine old_alloc ?_ _ | with_reducible refine old_trans ?_ (by with_reducible assumption)))⟩
  case rest =>
    obtain ⟨hs, G, O, K, L, N, M, hB⟩ := hcut
    subst hs
    clear C1 C3
    go_upto_region 10 with fail
    go_cut [12] (fun s wx => s = .pointer (some ⟨bp, 0, none⟩) ∧ S3 wx (bp + 1) (.bool u1) (.int .i64 v2) (.int .i64 v3) ∧ S3 wx bp (.bool u1) (.int .i64 u2) (.int .i64 u3) ∧ S3 wx (w.heap.size) (.bool s1) (.int .i64 a) (.int .i64 b) ∧ S3 wx (w.heap.size + 1) (.bool s2) (.int .i64 c) (.int .i64 d) ∧ S3 wx (w.heap.size + 1 + 1) (.bool false) (.int .i64 0) (.int .i64 0) ∧ S3 wx (w.heap.size + 1 + 1 + 1) (.bool false) (.int .i64 0) (.int .i64 0) ∧ Below w.heap.size w wx)
    case first =>
      obtain ⟨⟨O0, O1, O2⟩, ⟨Of, Og, Oh⟩, Oz⟩ := id O
      obtain ⟨⟨K0, K1, K2⟩, -, Kz⟩ := id K
      obtain ⟨⟨L0, L1, L2⟩, -, Lz⟩ := id L
      go_wp2_with fail
      go_region_held3 (fun w' => w'.cell? ⟨w.heap.size, 0, none⟩ = some (.bool s1) ∧ w'.cell? ⟨w.heap.size, 1, none⟩ = some (.int .i64 a) ∧ w'.cell? ⟨w.heap.size, 2, none⟩ = some (.int .i64 b) ∧ w'.cell? ⟨w.heap.size + 1, 0, none⟩ = some (.bool s2) ∧ w'.cell? ⟨w.heap.size + 1, 1, none⟩ = some (.int .i64 c) ∧ w'.cell? ⟨w.heap.size + 1, 2, none⟩ = some (.int .i64 d)) (go_keep) (first | (go_at_call 35; refine (T0.out _).mono ?_; rintro e w1 ⟨rfl, rfl⟩) | (go_at_call 34; with_reducible refine (C2.out _ (by assumption)).mono ?_; rintro e wx ⟨⟨rfl, hbx⟩, hcx⟩; have K := (by first | exact K.later hbx | exact K.drew.later hbx : S3 wx _ _ _ _); have L := (by first | exact L.later hbx | exact L.drew.later hbx : S3 wx _ _ _ _); have N := (by first | exact N.later hbx | exact N.drew.later hbx : S3 wx _ _ _ _); have M := (by first | exact M.later hbx | exact M.drew.later hbx : S3 wx _ _ _ _); have G := (by first | exact G.later hbx | exact G.drew.later hbx : S3 wx _ _ _ _); have O := (by first | exact O.later hbx | exact O.drew.later hbx : S3 wx _ _ _ _); obtain ⟨⟨G0, G1, G2⟩, ⟨Gf, Gg, Gh⟩, Gz⟩ := id G; obtain ⟨⟨O0, O1, O2⟩, ⟨Of, Og, Oh⟩, Oz⟩ := id O) | (go_at_call 22; with_reducible refine (C4.out _ (by assumption)).mono ?_; rintro e wx ⟨⟨rfl, hbx⟩, hcx⟩; have K := (by first | exact K.later hbx | exact K.drew.later hbx : S3 wx _ _ _ _); have L := (by first | exact L.later hbx | exact L.drew.later hbx : S3 wx _ _ _ _); have N := (by first | exact N.later hbx | exact N.drew.later hbx : S3 wx _ _ _ _); have M := (by first | exact M.later hbx | exact M.drew.later hbx : S3 wx _ _ _ _); have G := (by first | exact G.later hbx | exact G.drew.later hbx : S3 wx _ _ _ _); have O := (by first | exact O.later hbx | exact O.drew.later hbx : S3 wx _ _ _ _); obtain ⟨⟨G0, G1, G2⟩, ⟨Gf, Gg, Gh⟩, Gz⟩ := id G; obtain ⟨⟨O0, O1, O2⟩, ⟨Of, Og, Oh⟩, Oz⟩ := id O))
      all_goals
        go_wp2_with fail
        go_meet
        exact ⟨rfl, (by first | with_reducible exact O.stored _ _ _ | with_reducible exact (O.stored _ _ _).drew | exact O.stored _ _ _ | exact (O.stored _ _ _).drew), (by first | with_reducible exact G.others (by omega) _ _ _ | with_reducible exact (G.others (by omega) _ _ _).drew | exact G.others (by omega) _ _ _ | exact (G.others (by omega) _ _ _).drew), (by first | with_reducible exact K.others (by omega) _ _ _ | with_reducible exact (K.others (by omega) _ _ _).drew | exact K.others (by omega) _ _ _ | exact (K.others (by omega) _ _ _).drew), (by first | with_reducible exact L.others (by omega) _ _ _ | with_reducible exact (L.others (by omega) _ _ _).drew | exact L.others (by omega) _ _ _ | exact (L.others (by omega) _ _ _).drew), (by first | with_reducible exact N.others (by omega) _ _ _ | with_reducible exact (N.others (by omega) _ _ _).drew | exact N.others (by omega) _ _ _ | exact (N.others (by omega) _ _ _).drew), (by first | with_reducible exact M.others (by omega) _ _ _ | with_reducible exact (M.others (by omega) _ _ _).drew | exact M.others (by omega) _ _ _ | exact (M.others (by omega) _ _ _).drew), (by repeat (first | with_reducible exact hB | with_reducible exact Below.refl _ _ | with_reducible refine Below.drew ?_ | ((with_reducible refine Below.setCell ?_ ?_ _); rotate_left; (focus (first | (simp; done) | omega | (simp; omega)))) | with_reducible refine old_alloc ?_ _ | with_reducible refine old_trans ?_ (by with_reducible assumption)))⟩
    case rest =>
      obtain ⟨hs, O, G, K, L, N, M, hB⟩ := hcut
      subst hs
      clear C2 C4 K L T0
      obtain ⟨⟨G0, G1, G2⟩, -, Gz⟩ := id G
      obtain ⟨⟨O0, O1, O2⟩, -, Oz⟩ := id O
      obtain ⟨⟨N0, N1, N2⟩, ⟨Nf, Ng, Nh⟩, Nz⟩ := id N
      obtain ⟨⟨M0, M1, M2⟩, ⟨Mf, Mg, Mh⟩, Mz⟩ := id M
      cases u1
      · obtain ⟨rfl, rfl, rfl, rfl⟩ := hT3.out (by first | rfl | trivial)
        go_wp2
        refine bodyPost_ret (v := .tuple #[.agg #[.bool false, .int .i64 0, .int .i64 0], .agg #[.bool false, .int .i64 0, .int .i64 0]]) ?_ rfl ⟨rfl, (by repeat (first | with_reducible exact hB | with_reducible exact Below.refl _ _ | with_reducible refine Below.drew ?_ | ((with_reducible refine Below.setCell ?_ ?_ _); rotate_left; (focus (first | (simp; done) | omega | (simp; omega)))) | with_reducible refine old_alloc ?_ _ | with_reducible refine old_trans ?_ (by with_reducible assumption)))⟩
        simp [results, Tryz.results12, go_sem, N0, N1, N2, M0, M1, M2]
      go_wp2_with fail
      go_region
      all_goals
        go_wp2
        refine bodyPost_ret (v := .tuple #[.agg #[.bool true, .int .i64 u2, .int .i64 u3], .agg #[.bool true, .int .i64 v2, .int .i64 v3]]) ?_ rfl ⟨rfl, (by repeat (first | with_reducible exact hB | with_reducible exact Below.refl _ _ | with_reducible refine Below.drew ?_ | ((with_reducible refine Below.setCell ?_ ?_ _); rotate_left; (focus (first | (simp; done) | omega | (simp; omega)))) | with_reducible refine old_alloc ?_ _ | with_reducible refine old_trans ?_ (by with_reducible assumption)))⟩
        simp [results, Tryz.results12, go_sem, N0, N1, N2, M0, M1, M2]
theorem met_swap (wd : Int) (x y : Sp) : metA wd 2 x y = metB wd 1 y x ∧ metB wd 2 x y = metA wd 1 y x := by
  unfold metA metB
  rw [Bool.and_comm (someS wd y)]
  exact ⟨rfl, rfl⟩
set_option maxHeartbeats 4000000 in
theorem sRelMeet2 (wd : Int) (s1 s2 : Bool) (a b c d : Int) (w : World) :
    Calls Tryz.prog 12 #[.int .i64 wd, .int .i64 2, .agg #[.bool s1, .int .i64 a, .int .i64 b], .agg #[.bool s2, .int .i64 c, .int .i64 d]] w fun e w' => e = .returned (.tuple #[.agg #[.bool (metA wd 2 ⟨s1, a, b⟩ ⟨s2, c, d⟩).s, .int .i64 (metA wd 2 ⟨s1, a, b⟩ ⟨s2, c, d⟩).lo, .int .i64 (metA wd 2 ⟨s1, a, b⟩ ⟨s2, c, d⟩).hi], .agg #[.bool (metB wd 2 ⟨s1, a, b⟩ ⟨s2, c, d⟩).s, .int .i64 (metB wd 2 ⟨s1, a, b⟩ ⟨s2, c, d⟩).lo, .int .i64 (metB wd 2 ⟨s1, a, b⟩ ⟨s2, c, d⟩).hi]]) ∧ Below w.heap.size w w' := by
  have HB := hd (sBoth wd s1 s2 a b c d)
  have HR := hd (sRel 2)
  have hb0 : bothB wd s1 s2 a b c d = (someS wd ⟨s1, a, b⟩ && someS wd ⟨s2, c, d⟩) := rfl
  rw [hb0] at HB
  clear hb0
  rw [show isR 2 = true from rfl] at HR
  have HM := hd (sRelMeet1 wd s2 s1 c d a b)
  have hN : Hid ((someS wd ⟨s1, a, b⟩ && someS wd ⟨s2, c, d⟩) = false → metB wd 1 ⟨s2, c, d⟩ ⟨s1, a, b⟩ = nilS ∧ metA wd 1 ⟨s2, c, d⟩ ⟨s1, a, b⟩ = nilS) := fun h => by
    unfold metA metB; rw [Bool.and_comm, h]; exact ⟨rfl, rfl⟩
  rw [(met_swap wd ⟨s1, a, b⟩ ⟨s2, c, d⟩).1, (met_swap wd ⟨s1, a, b⟩ ⟨s2, c, d⟩).2]
  generalize (someS wd ⟨s1, a, b⟩ && someS wd ⟨s2, c, d⟩) = q at *
  generalize metA wd 1 ⟨s2, c, d⟩ ⟨s1, a, b⟩ = U at *
  generalize metB wd 1 ⟨s2, c, d⟩ ⟨s1, a, b⟩ = V at *
  cases q
  · obtain ⟨rfl, rfl⟩ := hN.out rfl
    have K := (((S3.made w _ rfl (.bool s1) (.int .i64 a) (.int .i64 b) 24).alloc (.cells #[.bool s2, .int .i64 c, .int .i64 d] 24)).alloc (.cells #[.bool false, .int .i64 0, .int .i64 0] 24)).alloc (.cells #[.bool false, .int .i64 0, .int .i64 0] 24)
    have L := ((S3.made (w.alloc (.cells #[.bool s1, .int .i64 a, .int .i64 b] 24)) (w.heap.size + 1) (by simp) (.bool s2) (.int .i64 c) (.int .i64 d) 24).alloc (.cells #[.bool false, .int .i64 0, .int .i64 0] 24)).alloc (.cells #[.bool false, .int .i64 0, .int .i64 0] 24)
    have N := (S3.made ((w.alloc (.cells #[.bool s1, .int .i64 a, .int .i64 b] 24)).alloc (.cells #[.bool s2, .int .i64 c, .int .i64 d] 24)) (w.heap.size + 1 + 1) (by simp) (.bool false) (.int .i64 0) (.int .i64 0) 24).alloc (.cells #[.bool false, .int .i64 0, .int .i64 0] 24)
    have M := S3.made (((w.alloc (.cells #[.bool s1, .int .i64 a, .int .i64 b] 24)).alloc (.cells #[.bool s2, .int .i64 c, .int .i64 d] 24)).alloc (.cells #[.bool false, .int .i64 0, .int .i64 0] 24)) (w.heap.size + 1 + 1 + 1) (by simp) (.bool false) (.int .i64 0) (.int .i64 0) 24
    obtain ⟨⟨K0, K1, K2⟩, -, Kz⟩ := id K
    obtain ⟨⟨L0, L1, L2⟩, -, Lz⟩ := id L
    go_enter Tryz.func12, Tryz.ntmps12
    go_wp2_with fail
    refine (HB.out _).mono ?_
    rintro e w1 ⟨rfl, hb1⟩
    replace N := N.later hb1
    replace M := M.later hb1
    have hB : Below w.heap.size w w1 := (by repeat (first | with_reducible exact Below.refl _ _ | with_reducible refine Below.drew ?_ | ((with_reducible refine Below.setCell ?_ ?_ _); rotate_left; (focus (first | (simp; done) | omega | (simp; omega)))) | with_reducible refine old_alloc ?_ _ | with_reducible refine old_trans ?_ (by with_reducible assumption)))
    obtain ⟨⟨N0, N1, N2⟩, ⟨Nf, Ng, Nh⟩, Nz⟩ := id N
    obtain ⟨⟨M0, M1, M2⟩, ⟨Mf, Mg, Mh⟩, Mz⟩ := id M
    go_wp2
    refine bodyPost_ret (v := .tuple #[.agg #[.bool false, .int .i64 0, .int .i64 0], .agg #[.bool false, .int .i64 0, .int .i64 0]]) ?_ rfl ⟨rfl, (by repeat (first | with_reducible exact hB | with_reducible exact Below.refl _ _ | with_reducible refine Below.drew ?_ | ((with_reducible refine Below.setCell ?_ ?_ _); rotate_left; (focus (first | (simp; done) | omega | (simp; omega)))) | with_reducible refine old_alloc ?_ _ | with_reducible refine old_trans ?_ (by with_reducible assumption)))⟩
    simp [results, Tryz.results12, go_sem, N0, N1, N2, M0, M1, M2]
  obtain ⟨u1, u2, u3⟩ := U
  obtain ⟨v1, v2, v3⟩ := V
  dsimp only at HM
  clear hN
  have K := (((S3.made w _ rfl (.bool s1) (.int .i64 a) (.int .i64 b) 24).alloc (.cells #[.bool s2, .int .i64 c, .int .i64 d] 24)).alloc (.cells #[.bool false, .int .i64 0, .int .i64 0] 24)).alloc (.cells #[.bool false, .int .i64 0, .int .i64 0] 24)
  have L := ((S3.made (w.alloc (.cells #[.bool s1, .int .i64 a, .int .i64 b] 24)) (w.heap.size + 1) (by simp) (.bool s2) (.int .i64 c) (.int .i64 d) 24).alloc (.cells #[.bool false, .int .i64 0, .int .i64 0] 24)).alloc (.cells #[.bool false, .int .i64 0, .int .i64 0] 24)
  have N := (S3.made ((w.alloc (.cells #[.bool s1, .int .i64 a, .int .i64 b] 24)).alloc (.cells #[.bool s2, .int .i64 c, .int .i64 d] 24)) (w.heap.size + 1 + 1) (by simp) (.bool false) (.int .i64 0) (.int .i64 0) 24).alloc (.cells #[.bool false, .int .i64 0, .int .i64 0] 24)
  have M := S3.made (((w.alloc (.cells #[.bool s1, .int .i64 a, .int .i64 b] 24)).alloc (.cells #[.bool s2, .int .i64 c, .int .i64 d] 24)).alloc (.cells #[.bool false, .int .i64 0, .int .i64 0] 24)) (w.heap.size + 1 + 1 + 1) (by simp) (.bool false) (.int .i64 0) (.int .i64 0) 24
  have z01 : w.heap.size ≠ w.heap.size + 1 := by omega
  have z02 : w.heap.size ≠ w.heap.size + 1 + 1 := by omega
  have z03 : w.heap.size ≠ w.heap.size + 1 + 1 + 1 := by omega
  have z10 : w.heap.size + 1 ≠ w.heap.size := by omega
  have z12 : w.heap.size + 1 ≠ w.heap.size + 1 + 1 := by omega
  have z13 : w.heap.size + 1 ≠ w.heap.size + 1 + 1 + 1 := by omega
  have z20 : w.heap.size + 1 + 1 ≠ w.heap.size := by omega
  have z21 : w.heap.size + 1 + 1 ≠ w.heap.size + 1 := by omega
  have z23 : w.heap.size + 1 + 1 ≠ w.heap.size + 1 + 1 + 1 := by omega
  have z30 : w.heap.size + 1 + 1 + 1 ≠ w.heap.size := by omega
  have z31 : w.heap.size + 1 + 1 + 1 ≠ w.heap.size + 1 := by omega
  have z32 : w.heap.size + 1 + 1 + 1 ≠ w.heap.size + 1 + 1 := by omega
  obtain ⟨⟨K0, K1, K2⟩, -, Kz⟩ := id K
  obtain ⟨⟨L0, L1, L2⟩, -, Lz⟩ := id L
  go_enter Tryz.func12, Tryz.ntmps12
  go_wp2_with fail
  refine (HB.out _).mono ?_
  rintro e w1 ⟨rfl, hb1⟩
  replace K := K.later hb1
  replace L := L.later hb1
  replace N := N.later hb1
  replace M := M.later hb1
  have hB : Below w.heap.size w w1 := (by repeat (first | with_reducible exact Below.refl _ _ | with_reducible refine Below.drew ?_ | ((with_reducible refine Below.setCell ?_ ?_ _); rotate_left; (focus (first | (simp; done) | omega | (simp; omega)))) | with_reducible refine old_alloc ?_ _ | with_reducible refine old_trans ?_ (by with_reducible assumption)))
  clear hb1 HB
  clear K0 K1 K2 Kz L0 L1 L2 Lz
  obtain ⟨⟨K0, K1, K2⟩, -, Kz⟩ := id K
  obtain ⟨⟨L0, L1, L2⟩, -, Lz⟩ := id L
  go_wp2_with fail
  refine (HR.out _).mono ?_
  rintro e wy ⟨rfl, rfl⟩
  clear HR
  go_wp2_with fail
  refine (HM.out _).mono ?_
  rintro e w2 ⟨rfl, hb2⟩
  have hw1 : w.heap.size + 1 + 1 + 1 < w2.heap.size := Nat.lt_of_lt_of_le M.lt hb2.size
  have CU : True := trivial
  replace hB : Below w.heap.size w ((w2.alloc (.cells #[.bool u1, .int .i64 u2, .int .i64 u3] 24)).alloc (.cells #[.bool v1, .int .i64 v2, .int .i64 v3] 24)) := old_alloc (old_alloc (old_trans hB hb2) _) _
  have G := (S3.made w2 _ rfl (.bool u1) (.int .i64 u2) (.int .i64 u3) 24).alloc (.cells #[.bool v1, .int .i64 v2, .int .i64 v3] 24)
  have O := S3.made (w2.alloc (.cells #[.bool u1, .int .i64 u2, .int .i64 u3] 24)) (w2.heap.size + 1) (by simp) (.bool v1) (.int .i64 v2) (.int .i64 v3) 24
  replace N := ((N.later hb2).alloc (.cells #[.bool u1, .int .i64 u2, .int .i64 u3] 24)).alloc (.cells #[.bool v1, .int .i64 v2, .int .i64 v3] 24)
  replace M := ((M.later hb2).alloc (.cells #[.bool u1, .int .i64 u2, .int .i64 u3] 24)).alloc (.cells #[.bool v1, .int .i64 v2, .int .i64 v3] 24)
  clear HM K0 K1 K2 Kz L0 L1 L2 Lz K L
  go_wp2_with fail
  generalize (w2.alloc (.cells #[.bool u1, .int .i64 u2, .int .i64 u3] 24)).alloc (.cells #[.bool v1, .int .i64 v2, .int .i64 v3] 24) = w3 at *
  generalize w2.heap.size = bp at *
  clear hb2
  have y1 : w.heap.size + 1 + 1 ≠ bp := by omega
  have y2 : w.heap.size + 1 + 1 + 1 ≠ bp := by omega
  have y3 : bp ≠ w.heap.size + 1 + 1 := by omega
  have y4 : bp ≠ w.heap.size + 1 + 1 + 1 := by omega
  have y5 : bp ≠ w.heap.size + 1 := by omega
  have y6 : w.heap.size + 1 ≠ bp := by omega
  have y7 : bp ≠ w.heap.size := by omega
  have y8 : w.heap.size ≠ bp := by omega
  have y9 : w.heap.size ≠ bp + 1 := by omega
  have y10 : bp + 1 ≠ w.heap.size := by omega
  clear hw1
  obtain ⟨⟨G0, G1, G2⟩, -, Gz⟩ := id G
  obtain ⟨⟨O0, O1, O2⟩, -, Oz⟩ := id O
  obtain ⟨⟨N0, N1, N2⟩, ⟨Nf, Ng, Nh⟩, Nz⟩ := id N
  obtain ⟨⟨M0, M1, M2⟩, ⟨Mf, Mg, Mh⟩, Mz⟩ := id M
  go_region
  all_goals
    go_wp2
    refine bodyPost_ret (v := .tuple #[.agg #[.bool v1, .int .i64 v2, .int .i64 v3], .agg #[.bool u1, .int .i64 u2, .int .i64 u3]]) ?_ rfl ⟨rfl, (by repeat (first | with_reducible exact hB | with_reducible exact Below.refl _ _ | with_reducible refine Below.drew ?_ | ((with_reducible refine Below.setCell ?_ ?_ _); rotate_left; (focus (first | (simp; done) | omega | (simp; omega)))) | with_reducible refine old_alloc ?_ _ | with_reducible refine old_trans ?_ (by with_reducible assumption)))⟩
    simp [results, Tryz.results12, go_sem, N0, N1, N2, M0, M1, M2]
theorem sRelMeet (wd rl : Int) (s1 s2 : Bool) (a b c d : Int) (w : World) :
    Calls Tryz.prog 12 #[.int .i64 wd, .int .i64 rl, .agg #[.bool s1, .int .i64 a, .int .i64 b], .agg #[.bool s2, .int .i64 c, .int .i64 d]] w fun e w' => e = .returned (.tuple #[.agg #[.bool (metA wd rl ⟨s1, a, b⟩ ⟨s2, c, d⟩).s, .int .i64 (metA wd rl ⟨s1, a, b⟩ ⟨s2, c, d⟩).lo, .int .i64 (metA wd rl ⟨s1, a, b⟩ ⟨s2, c, d⟩).hi], .agg #[.bool (metB wd rl ⟨s1, a, b⟩ ⟨s2, c, d⟩).s, .int .i64 (metB wd rl ⟨s1, a, b⟩ ⟨s2, c, d⟩).lo, .int .i64 (metB wd rl ⟨s1, a, b⟩ ⟨s2, c, d⟩).hi]]) ∧ Below w.heap.size w w' := by
  cases h : isR rl
  · have h1 : rl ≠ 1 := fun e => by subst e; cases h
    have h2 : rl ≠ 2 := fun e => by subst e; cases h
    have h3 : rl ≠ 3 := fun e => by subst e; cases h
    have e1 : metA wd rl ⟨s1, a, b⟩ ⟨s2, c, d⟩ = nilS := by unfold metA relA; rw [if_neg h1, if_neg h2, if_neg h3]; cases (someS wd ⟨s1, a, b⟩ && someS wd ⟨s2, c, d⟩) <;> rfl
    have e2 : metB wd rl ⟨s1, a, b⟩ ⟨s2, c, d⟩ = nilS := by unfold metB relB; rw [if_neg h1, if_neg h2, if_neg h3]; cases (someS wd ⟨s1, a, b⟩ && someS wd ⟨s2, c, d⟩) <;> rfl
    rw [e1, e2]
    exact sRelMeet0 wd rl h s1 s2 a b c d w
  · rcases isR_is h with rfl | rfl | rfl
    · exact sRelMeet1 wd s1 s2 a b c d w
    · exact sRelMeet2 wd s1 s2 a b c d w
    · exact sRelMeet3 wd s1 s2 a b c d w
end Go.Proofs.YtpjagplloljefaaGreat
