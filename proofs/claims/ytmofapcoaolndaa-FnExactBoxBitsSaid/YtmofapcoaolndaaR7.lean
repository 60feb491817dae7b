/- PairCut of the specification, at all pairs: the same closed form; nothing that was there is written. -/
import Derived.Test.YtmofapcoaolndaaR6
namespace Go.Proofs.Ytmofapcoaolndaa
open Go.RowKit

set_option maxRecDepth 100000 in
set_option maxHeartbeats 4000000 in
theorem sPairCut (wd a b c d : Int) (l1 : -9223372036854775808 ≤ a ∧ a ≤ 9223372036854775807) (l2 : -9223372036854775808 ≤ b ∧ b ≤ 9223372036854775807) (l3 : -9223372036854775808 ≤ c ∧ c ≤ 9223372036854775807) (l4 : -9223372036854775808 ≤ d ∧ d ≤ 9223372036854775807) (w : World) :
    Calls Try.prog 32 #[.int .i64 wd, .agg #[.int .i64 a, .int .i64 b], .agg #[.int .i64 c, .int .i64 d]] w fun e w' => e = .returned (cutV wd a b c d) ∧ Below w.heap.size w w' := by
  have H1 := hd (sPGapB a c l1.1 l1.2 l3.1 l3.2)
  have H2 := hd (sPGapB d b l4.1 l4.2 l2.1 l2.2)
  have P1 := hd (sPairOk wd a b)
  have P2 := hd (sPairOk wd a c)
  have P3 := hd (sPairOk wd d b)
  have hr : Hid (cutB wd a b c d = (pokB wd a b && (decide (c < d) && (pokB wd a c && pokB wd d b)))) := rfl
  have V0 : Hid (cutB wd a b c d = false → Ending.returned (.tuple #[.agg #[.int .i64 0, .int .i64 0], .agg #[.int .i64 0, .int .i64 0], .bool false]) = .returned (cutV wd a b c d)) := cutV_no
  have V1 : Hid (cutB wd a b c d = true → gapI d b < gapI a c → Ending.returned (.tuple #[.agg #[.int .i64 d, .int .i64 b], .agg #[.int .i64 a, .int .i64 c], .bool true]) = .returned (cutV wd a b c d)) := cutV_yes1
  have V2 : Hid (cutB wd a b c d = true → ¬ gapI d b < gapI a c → Ending.returned (.tuple #[.agg #[.int .i64 a, .int .i64 c], .agg #[.int .i64 d, .int .i64 b], .bool true]) = .returned (cutV wd a b c d)) := cutV_yes2
  obtain ⟨g1, g2⟩ := gapI_bd a c l1.1 l3.2
  obtain ⟨g3, g4⟩ := gapI_bd d b l4.1 l2.2
  generalize gapI a c = ga at *
  generalize gapI d b = gb at *
  generalize cutV wd a b c d = V at *
  generalize cutB wd a b c d = r at *
  generalize pokB wd a b = p1 at *
  generalize pokB wd a c = p2 at *
  generalize pokB wd d b = p3 at *
  clear l1 l2 l3 l4
  go_enter Try.func32, Try.ntmps32
  go_wp2_with fail
  refine (P1.out _).mono ?_
  rintro e w1 ⟨rfl, hb1⟩
  have A1 := ((((((Cel2.made w _ rfl (.int .i64 a) (.int .i64 b) 38).alloc _).alloc _).alloc _).alloc _).alloc _).later hb1
  have G1 := (((((Cel2.made _ (w.heap.size + 1) (by simp) (.int .i64 c) (.int .i64 d) 38).alloc _).alloc _).alloc _).alloc _).later hb1
  have R1 := ((((Cel2.made _ (w.heap.size + 1 + 1) (by simp) (.int .i64 0) (.int .i64 0) 38).alloc _).alloc _).alloc _).later hb1
  have R2 := (((Cel2.made _ (w.heap.size + 1 + 1 + 1) (by simp) (.int .i64 0) (.int .i64 0) 38).alloc _).alloc _).later hb1
  have X1 := ((Cel2.made _ (w.heap.size + 1 + 1 + 1 + 1) (by simp) (.int .i64 a) (.int .i64 c) 38).alloc _).later hb1
  have Y1 := (Cel2.made _ (w.heap.size + 1 + 1 + 1 + 1 + 1) (by simp) (.int .i64 d) (.int .i64 b) 38).later hb1
  have n02 : w.heap.size ≠ w.heap.size + 1 + 1 := by omega
  have n03 : w.heap.size ≠ w.heap.size + 1 + 1 + 1 := by omega
  have n04 : w.heap.size ≠ w.heap.size + 1 + 1 + 1 + 1 := by omega
  have n05 : w.heap.size ≠ w.heap.size + 1 + 1 + 1 + 1 + 1 := by omega
  have n13 : w.heap.size + 1 ≠ w.heap.size + 1 + 1 + 1 := by omega
  have n14 : w.heap.size + 1 ≠ w.heap.size + 1 + 1 + 1 + 1 := by omega
  have n15 : w.heap.size + 1 ≠ w.heap.size + 1 + 1 + 1 + 1 + 1 := by omega
  have n20 : w.heap.size + 1 + 1 ≠ w.heap.size := by omega
  have n24 : w.heap.size + 1 + 1 ≠ w.heap.size + 1 + 1 + 1 + 1 := by omega
  have n25 : w.heap.size + 1 + 1 ≠ w.heap.size + 1 + 1 + 1 + 1 + 1 := by omega
  have n30 : w.heap.size + 1 + 1 + 1 ≠ w.heap.size := by omega
  have n31 : w.heap.size + 1 + 1 + 1 ≠ w.heap.size + 1 := by omega
  have n35 : w.heap.size + 1 + 1 + 1 ≠ w.heap.size + 1 + 1 + 1 + 1 + 1 := by omega
  have n40 : w.heap.size + 1 + 1 + 1 + 1 ≠ w.heap.size := by omega
  have n41 : w.heap.size + 1 + 1 + 1 + 1 ≠ w.heap.size + 1 := by omega
  have n42 : w.heap.size + 1 + 1 + 1 + 1 ≠ w.heap.size + 1 + 1 := by omega
  have n50 : w.heap.size + 1 + 1 + 1 + 1 + 1 ≠ w.heap.size := by omega
  have n51 : w.heap.size + 1 + 1 + 1 + 1 + 1 ≠ w.heap.size + 1 := by omega
  have n52 : w.heap.size + 1 + 1 + 1 + 1 + 1 ≠ w.heap.size + 1 + 1 := by omega
  have n53 : w.heap.size + 1 + 1 + 1 + 1 + 1 ≠ w.heap.size + 1 + 1 + 1 := by omega
  cases p1
  · obtain ⟨d0, d1, d2, d3, d4⟩ := R1
    obtain ⟨f0, f1, f2, f3, f4⟩ := R2
    go_wp2
    refine bodyPost_ret (v := .tuple #[.agg #[.int .i64 0, .int .i64 0], .agg #[.int .i64 0, .int .i64 0], .bool false]) ?_ rfl ⟨V0.out (by rw [hr.out]; rfl), (by repeat (first | exact Below.refl _ _ | refine Below.drew ?_ | refine Below.setCell ?_ (by first | (simp; done) | omega | (simp; omega)) _ | refine old_alloc ?_ _ | refine old_trans ?_ (by assumption)))⟩
    simp [results, Try.results32, go_sem, d0, d1, f0, f1]
  by_cases c1 : d ≤ c
  · have t1 : decide (d ≤ c) = true := by simpa using c1
    have t2 : Hid (decide (c < d) = false) := by show _ = _; simp; omega
    obtain ⟨q0, q1, -, -, -⟩ := G1
    obtain ⟨d0, d1, d2, d3, d4⟩ := R1
    obtain ⟨f0, f1, f2, f3, f4⟩ := R2
    go_wp2
    refine bodyPost_ret (v := .tuple #[.agg #[.int .i64 0, .int .i64 0], .agg #[.int .i64 0, .int .i64 0], .bool false]) ?_ rfl ⟨V0.out (by rw [hr.out, t2.out]; rfl), (by repeat (first | exact Below.refl _ _ | refine Below.drew ?_ | refine Below.setCell ?_ (by first | (simp; done) | omega | (simp; omega)) _ | refine old_alloc ?_ _ | refine old_trans ?_ (by assumption)))⟩
    simp [results, Try.results32, go_sem, d0, d1, f0, f1]
  have t1 : decide (d ≤ c) = false := by simpa using c1
  have t2 : Hid (decide (c < d) = true) := by show _ = _; simp; omega
  obtain ⟨q0, q1, -, -, -⟩ := G1
  have L0 := X1
  obtain ⟨e0, e1, -, -, -⟩ := L0
  have M0 := Y1
  obtain ⟨h0, h1, -, -, -⟩ := M0
  go_wp2_with fail
  refine (P2.out _).mono ?_
  rintro e w4 ⟨rfl, hb4⟩
  clear q0 q1 e0 e1 h0 h1
  replace X1 := X1.later hb4
  replace Y1 := Y1.later hb4
  replace R1 := R1.later hb4
  replace R2 := R2.later hb4
  cases p2
  · obtain ⟨d0, d1, d2, d3, d4⟩ := R1
    obtain ⟨f0, f1, f2, f3, f4⟩ := R2
    go_wp2
    refine bodyPost_ret (v := .tuple #[.agg #[.int .i64 0, .int .i64 0], .agg #[.int .i64 0, .int .i64 0], .bool false]) ?_ rfl ⟨V0.out (by rw [hr.out, t2.out]; rfl), (by repeat (first | exact Below.refl _ _ | refine Below.drew ?_ | refine Below.setCell ?_ (by first | (simp; done) | omega | (simp; omega)) _ | refine old_alloc ?_ _ | refine old_trans ?_ (by assumption)))⟩
    simp [results, Try.results32, go_sem, d0, d1, f0, f1]
  have L0 := X1
  obtain ⟨e0, e1, -, -, -⟩ := L0
  have M0 := Y1
  obtain ⟨h0, h1, -, -, -⟩ := M0
  go_wp2_with fail
  refine (P3.out _).mono ?_
  rintro e w5 ⟨rfl, hb5⟩
  clear e0 e1 h0 h1
  replace X1 := X1.later hb5
  replace Y1 := Y1.later hb5
  replace R1 := R1.later hb5
  replace R2 := R2.later hb5
  cases p3
  · obtain ⟨d0, d1, d2, d3, d4⟩ := R1
    obtain ⟨f0, f1, f2, f3, f4⟩ := R2
    go_wp2
    refine bodyPost_ret (v := .tuple #[.agg #[.int .i64 0, .int .i64 0], .agg #[.int .i64 0, .int .i64 0], .bool false]) ?_ rfl ⟨V0.out (by rw [hr.out, t2.out]; rfl), (by repeat (first | exact Below.refl _ _ | refine Below.drew ?_ | refine Below.setCell ?_ (by first | (simp; done) | omega | (simp; omega)) _ | refine old_alloc ?_ _ | refine old_trans ?_ (by assumption)))⟩
    simp [results, Try.results32, go_sem, d0, d1, f0, f1]
  have L0 := X1
  obtain ⟨e0, e1, -, -, -⟩ := L0
  have M0 := Y1
  obtain ⟨h0, h1, -, -, -⟩ := M0
  go_wp2_with fail
  go_region_with (first | (go_at_call_of 41 (Value.agg #[.int .i64 d, .int .i64 b]); refine (H2.out _).mono ?_; rintro e w6 ⟨rfl, hb6⟩; have X1 := (by first | exact X1.later hb6 | exact X1.drew.later hb6 : Cel2 w6 _ _ _); have Y1 := (by first | exact Y1.later hb6 | exact Y1.drew.later hb6 : Cel2 w6 _ _ _); have R1 := (by first | exact R1.later hb6 | exact R1.drew.later hb6 : Cel2 w6 _ _ _); have R2 := (by first | exact R2.later hb6 | exact R2.drew.later hb6 : Cel2 w6 _ _ _); have e0 := X1.1; have e1 := X1.2.1; have h0 := Y1.1; have h1 := Y1.2.1) | (go_at_call_of 41 (Value.agg #[.int .i64 a, .int .i64 c]); refine (H1.out _).mono ?_; rintro e w6 ⟨rfl, hb6⟩; have X1 := (by first | exact X1.later hb6 | exact X1.drew.later hb6 : Cel2 w6 _ _ _); have Y1 := (by first | exact Y1.later hb6 | exact Y1.drew.later hb6 : Cel2 w6 _ _ _); have R1 := (by first | exact R1.later hb6 | exact R1.drew.later hb6 : Cel2 w6 _ _ _); have R2 := (by first | exact R2.later hb6 | exact R2.drew.later hb6 : Cel2 w6 _ _ _); have e0 := X1.1; have e1 := X1.2.1; have h0 := Y1.1; have h1 := Y1.2.1))
  all_goals
    clear e0 e1 h0 h1
    obtain ⟨e0, e1, -, -, -⟩ := X1
    obtain ⟨h0, h1, -, -, -⟩ := Y1
    obtain ⟨d0, d1, d2, d3, d4⟩ := R1
    obtain ⟨f0, f1, f2, f3, f4⟩ := R2
    by_cases c2 : gb < ga
    · have t3 : decide (gb < ga) = true := by simpa using c2
      have c3 : Hid (gb < ga) := c2
      go_wp2_with fail
      go_region_held3 (fun w' => w'.cell? ⟨w.heap.size + 1 + 1 + 1 + 1, 0, none⟩ = some (.int .i64 a) ∧ w'.cell? ⟨w.heap.size + 1 + 1 + 1 + 1, 1, none⟩ = some (.int .i64 c) ∧ w'.cell? ⟨w.heap.size + 1 + 1 + 1 + 1 + 1, 0, none⟩ = some (.int .i64 d) ∧ w'.cell? ⟨w.heap.size + 1 + 1 + 1 + 1 + 1, 1, none⟩ = some (.int .i64 b)) (go_keep) (fail)
      all_goals
        go_wp2
        refine bodyPost_ret (v := .tuple #[.agg #[.int .i64 d, .int .i64 b], .agg #[.int .i64 a, .int .i64 c], .bool true]) ?_ rfl ⟨V1.out (by rw [hr.out, t2.out]; rfl) c3.out, (by repeat (first | exact Below.refl _ _ | refine Below.drew ?_ | refine Below.setCell ?_ (by first | (simp; done) | omega | (simp; omega)) _ | refine old_alloc ?_ _ | refine old_trans ?_ (by assumption)))⟩
        simp [results, Try.results32, go_sem, d0, d1, f0, f1]
    · have t3 : decide (gb < ga) = false := by simpa using c2
      have c3 : Hid (¬ gb < ga) := c2
      go_wp2_with fail
      go_region_held3 (fun w' => w'.cell? ⟨w.heap.size + 1 + 1 + 1 + 1, 0, none⟩ = some (.int .i64 a) ∧ w'.cell? ⟨w.heap.size + 1 + 1 + 1 + 1, 1, none⟩ = some (.int .i64 c) ∧ w'.cell? ⟨w.heap.size + 1 + 1 + 1 + 1 + 1, 0, none⟩ = some (.int .i64 d) ∧ w'.cell? ⟨w.heap.size + 1 + 1 + 1 + 1 + 1, 1, none⟩ = some (.int .i64 b)) (go_keep) (fail)
      all_goals
        go_wp2
        refine bodyPost_ret (v := .tuple #[.agg #[.int .i64 a, .int .i64 c], .agg #[.int .i64 d, .int .i64 b], .bool true]) ?_ rfl ⟨V2.out (by rw [hr.out, t2.out]; rfl) c3.out, (by repeat (first | exact Below.refl _ _ | refine Below.drew ?_ | refine Below.setCell ?_ (by first | (simp; done) | omega | (simp; omega)) _ | refine old_alloc ?_ _ | refine old_trans ?_ (by assumption)))⟩
        simp [results, Try.results32, go_sem, d0, d1, f0, f1]
end Go.Proofs.Ytmofapcoaolndaa
