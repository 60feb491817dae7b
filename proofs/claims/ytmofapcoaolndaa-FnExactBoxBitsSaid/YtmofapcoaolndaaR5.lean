/- PairSplit of the program and of the specification, at all pairs: one closed form for both; nothing that was there is written. -/
import Derived.Test.YtmofapcoaolndaaR4
namespace Go.Proofs.Ytmofapcoaolndaa
open Go.RowKit

def pair2V (r : Bool) (a b c d : Int) : Value := .tuple #[if r then .agg #[.int .i64 a, .int .i64 b] else .agg #[.int .i64 0, .int .i64 0], if r then .agg #[.int .i64 c, .int .i64 d] else .agg #[.int .i64 0, .int .i64 0], .bool r]
theorem pair2V_no (a b c d : Int) {r : Bool} (h : r = false) : Ending.returned (.tuple #[.agg #[.int .i64 0, .int .i64 0], .agg #[.int .i64 0, .int .i64 0], .bool false]) = .returned (pair2V r a b c d) := by rw [h]; rfl
theorem pair2V_yes (a b c d : Int) {r : Bool} (h : r = true) : Ending.returned (.tuple #[.agg #[.int .i64 a, .int .i64 b], .agg #[.int .i64 c, .int .i64 d], .bool true]) = .returned (pair2V r a b c d) := by rw [h]; rfl
def splitB (wd lo hi : Int) : Bool := pokB wd lo hi && decide (2 ≤ gapI lo hi)

set_option maxHeartbeats 800000 in
theorem iMidW (lo hi : Int) (l1 : -9223372036854775808 ≤ lo) (l2 : lo ≤ 9223372036854775807) (k1 : -9223372036854775808 ≤ hi) (k2 : hi ≤ 9223372036854775807) (w : World) :
    Calls Try.prog 46 #[.int .i64 lo, .int .i64 hi] w fun e w' => e = .returned (.int .i64 (midI lo hi)) ∧ w' = w := by
  have q1 : 0 ≤ gapI lo hi := by unfold gapI; split <;> omega
  have q2 : gapI lo hi ≤ 18446744073709551615 := by unfold gapI; split <;> omega
  have q3 : Hid (lo + gapI lo hi / 2 ≤ 9223372036854775807) := by show _ ≤ _; unfold gapI; split <;> omega
  have q4 : Hid (midI lo hi = lo + gapI lo hi / 2) := rfl
  go_enter Try.func46, Try.ntmps46
  go_wp2_with (go_at_call 57; refine (iGapW _ _ l1 l2 k1 k2 _).mono ?_; rintro e w1 ⟨rfl, rfl⟩)
  generalize gapI lo hi = g at *
  go_wp2
  go_ret
  refine ⟨ret_int ?_, rfl⟩
  rw [q4.out]
  have q5 := q3.out
  simp only [wrap64]
  omega
set_option maxHeartbeats 800000 in
theorem sMidW (lo hi : Int) (l1 : -9223372036854775808 ≤ lo) (l2 : lo ≤ 9223372036854775807) (k1 : -9223372036854775808 ≤ hi) (k2 : hi ≤ 9223372036854775807) (w : World) :
    Calls Try.prog 42 #[.int .i64 lo, .int .i64 hi] w fun e w' => e = .returned (.int .i64 (midI lo hi)) ∧ w' = w := by
  have q1 : 0 ≤ gapI lo hi := by unfold gapI; split <;> omega
  have q2 : gapI lo hi ≤ 18446744073709551615 := by unfold gapI; split <;> omega
  have q3 : Hid (lo + gapI lo hi / 2 ≤ 9223372036854775807) := by show _ ≤ _; unfold gapI; split <;> omega
  have q4 : Hid (midI lo hi = lo + gapI lo hi / 2) := rfl
  go_enter Try.func42, Try.ntmps42
  go_wp2_with (go_at_call 54; refine (sGapW _ _ l1 l2 k1 k2 _).mono ?_; rintro e w1 ⟨rfl, rfl⟩)
  generalize gapI lo hi = g at *
  go_wp2
  go_ret
  refine ⟨ret_int ?_, rfl⟩
  rw [q4.out]
  have q5 := q3.out
  simp only [IntKind.wrap_u64, wrap64]
  omega

set_option maxRecDepth 100000 in
set_option maxHeartbeats 1600000 in
theorem iPairSplit (wd lo hi : Int) (l1 : -9223372036854775808 ≤ lo) (l2 : lo ≤ 9223372036854775807) (k1 : -9223372036854775808 ≤ hi) (k2 : hi ≤ 9223372036854775807) (w : World) :
    Calls Try.prog 28 #[.int .i64 wd, .agg #[.int .i64 lo, .int .i64 hi]] w fun e w' => e = .returned (pair2V (splitB wd lo hi) lo (midI lo hi) (midI lo hi) hi) ∧ Below w.heap.size w w' := by
  have H1 := hd (iPairOk wd lo hi)
  have H2 := hd (iCounted lo hi l1 l2 k1 k2)
  have H3 := hd (iMidW lo hi l1 l2 k1 k2)
  have hr : Hid (splitB wd lo hi = (pokB wd lo hi && decide (2 ≤ gapI lo hi))) := rfl
  obtain ⟨g1, g2⟩ := gapI_bd lo hi l1 k2
  generalize midI lo hi = m at *
  generalize gapI lo hi = g at *
  generalize splitB wd lo hi = r at *
  generalize pokB wd lo hi = p at *
  have x1 := fld_count g lo hi
  have x2 := fld_steps g
  go_enter Try.func28, Try.ntmps28
  go_wp2_with fail
  refine (H1.out _).mono ?_
  rintro e w1 ⟨rfl, hb1⟩
  obtain ⟨hc1, hf1⟩ := bcell hb1
  obtain ⟨u1, u2, u3⟩ := lt3 hb1
  have R1 := ((Cel2.made _ _ (by simp) _ _ _ : Cel2 _ (w.heap.size + 1) (.int .i64 0) (.int .i64 0)).alloc _).later hb1
  have R2 := (Cel2.made _ _ (by simp) _ _ _ : Cel2 _ (w.heap.size + 1 + 1) (.int .i64 0) (.int .i64 0)).later hb1
  have A1 := (((Cel2.made w _ rfl (.int .i64 lo) (.int .i64 hi) 38).alloc _).alloc _).later hb1
  cases p
  · obtain ⟨d0, d1, d2, d3, d4⟩ := R1
    obtain ⟨f0, f1, f2, f3, f4⟩ := R2
    clear hc1 hf1
    have n1 : w.heap.size ≠ w.heap.size + 1 + 1 := by omega
    have n2 : w.heap.size + 1 + 1 ≠ w.heap.size := by omega
    go_wp2
    refine bodyPost_ret (v := .tuple #[.agg #[.int .i64 0, .int .i64 0], .agg #[.int .i64 0, .int .i64 0], .bool false]) ?_ rfl ⟨pair2V_no _ _ _ _ (by rw [hr.out]; rfl), (by repeat (first | exact Below.refl _ _ | refine Below.drew ?_ | refine Below.setCell ?_ (by first | (simp; done) | omega | (simp; omega)) _ | refine old_alloc ?_ _ | refine old_trans ?_ (by assumption)))⟩
    simp [results, Try.results28, go_sem, d0, d1, f0, f1]
  go_wp2_with fail
  refine (H2.out _).mono ?_
  rintro e w2 ⟨rfl, hb2⟩
  replace R1 := R1.later hb2
  replace R2 := R2.later hb2
  replace A1 := A1.later hb2
  by_cases c : g < 2
  · have c1 : Hid (decide (2 ≤ g) = false) := by show _ = _; simp; omega
    have c2 : decide (g < 2) = true := by simp; omega
    obtain ⟨d0, d1, d2, d3, d4⟩ := R1
    obtain ⟨f0, f1, f2, f3, f4⟩ := R2
    clear hc1 hf1
    have n1 : w.heap.size ≠ w.heap.size + 1 + 1 := by omega
    have n2 : w.heap.size + 1 + 1 ≠ w.heap.size := by omega
    go_wp2
    refine bodyPost_ret (v := .tuple #[.agg #[.int .i64 0, .int .i64 0], .agg #[.int .i64 0, .int .i64 0], .bool false]) ?_ rfl ⟨pair2V_no _ _ _ _ (by rw [hr.out, c1.out]; rfl), (by repeat (first | exact Below.refl _ _ | refine Below.drew ?_ | refine Below.setCell ?_ (by first | (simp; done) | omega | (simp; omega)) _ | refine old_alloc ?_ _ | refine old_trans ?_ (by assumption)))⟩
    simp [results, Try.results28, go_sem, d0, d1, f0, f1]
  · have c1 : Hid (decide (2 ≤ g) = true) := by show _ = _; simp; omega
    have c2 : decide (g < 2) = false := by simp; omega
    obtain ⟨a0, a1, a2, a3, a4⟩ := A1
    obtain ⟨d0, d1, d2, d3, d4⟩ := R1
    obtain ⟨f0, f1, f2, f3, f4⟩ := R2
    clear hc1 hf1
    have n1 : w.heap.size ≠ w.heap.size + 1 + 1 := by omega
    have n2 : w.heap.size + 1 + 1 ≠ w.heap.size := by omega
    go_wp2_with fail
    refine (H3.out _).mono ?_
    rintro e w3 ⟨rfl, rfl⟩
    go_wp2_with fail
    go_region_held3 (fun w' => w'.cell? ⟨w.heap.size, 0, none⟩ = some (.int .i64 lo) ∧ w'.cell? ⟨w.heap.size, 1, none⟩ = some (.int .i64 hi)) (go_keep) (fail)
    all_goals
      go_wp2
      refine bodyPost_ret (v := .tuple #[.agg #[.int .i64 lo, .int .i64 m], .agg #[.int .i64 m, .int .i64 hi], .bool true]) ?_ rfl ⟨pair2V_yes _ _ _ _ (by rw [hr.out, c1.out]; rfl), (by repeat (first | exact Below.refl _ _ | refine Below.drew ?_ | refine Below.setCell ?_ (by first | (simp; done) | omega | (simp; omega)) _ | refine old_alloc ?_ _ | refine old_trans ?_ (by assumption)))⟩
      simp [results, Try.results28, go_sem, d0, d1, f0, f1]

set_option maxRecDepth 100000 in
set_option maxHeartbeats 1600000 in
theorem sPairSplit (wd lo hi : Int) (l1 : -9223372036854775808 ≤ lo) (l2 : lo ≤ 9223372036854775807) (k1 : -9223372036854775808 ≤ hi) (k2 : hi ≤ 9223372036854775807) (w : World) :
    Calls Try.prog 23 #[.int .i64 wd, .agg #[.int .i64 lo, .int .i64 hi]] w fun e w' => e = .returned (pair2V (splitB wd lo hi) lo (midI lo hi) (midI lo hi) hi) ∧ Below w.heap.size w w' := by
  have H1 := hd (sPairOk wd lo hi)
  have H2 := hd (sPGapB lo hi l1 l2 k1 k2)
  have H3 := hd (sMidW lo hi l1 l2 k1 k2)
  have hr : Hid (splitB wd lo hi = (pokB wd lo hi && decide (2 ≤ gapI lo hi))) := rfl
  obtain ⟨g1, g2⟩ := gapI_bd lo hi l1 k2
  generalize midI lo hi = m at *
  generalize gapI lo hi = g at *
  generalize splitB wd lo hi = r at *
  generalize pokB wd lo hi = p at *
  go_enter Try.func23, Try.ntmps23
  go_wp2_with fail
  refine (H1.out _).mono ?_
  rintro e w1 ⟨rfl, hb1⟩
  obtain ⟨hc1, hf1⟩ := bcell hb1
  obtain ⟨u1, u2, u3⟩ := lt3 hb1
  have R1 := ((Cel2.made _ _ (by simp) _ _ _ : Cel2 _ (w.heap.size + 1) (.int .i64 0) (.int .i64 0)).alloc _).later hb1
  have R2 := (Cel2.made _ _ (by simp) _ _ _ : Cel2 _ (w.heap.size + 1 + 1) (.int .i64 0) (.int .i64 0)).later hb1
  have A1 := (((Cel2.made w _ rfl (.int .i64 lo) (.int .i64 hi) 38).alloc _).alloc _).later hb1
  cases p
  · obtain ⟨d0, d1, d2, d3, d4⟩ := R1
    obtain ⟨f0, f1, f2, f3, f4⟩ := R2
    clear hc1 hf1
    have n1 : w.heap.size ≠ w.heap.size + 1 + 1 := by omega
    have n2 : w.heap.size + 1 + 1 ≠ w.heap.size := by omega
    go_wp2
    refine bodyPost_ret (v := .tuple #[.agg #[.int .i64 0, .int .i64 0], .agg #[.int .i64 0, .int .i64 0], .bool false]) ?_ rfl ⟨pair2V_no _ _ _ _ (by rw [hr.out]; rfl), (by repeat (first | exact Below.refl _ _ | refine Below.drew ?_ | refine Below.setCell ?_ (by first | (simp; done) | omega | (simp; omega)) _ | refine old_alloc ?_ _ | refine old_trans ?_ (by assumption)))⟩
    simp [results, Try.results23, go_sem, d0, d1, f0, f1]
  go_wp2_with fail
  refine (H2.out _).mono ?_
  rintro e w2 ⟨rfl, hb2⟩
  replace R1 := R1.later hb2
  replace R2 := R2.later hb2
  replace A1 := A1.later hb2
  by_cases c : g < 2
  · have c1 : Hid (decide (2 ≤ g) = false) := by show _ = _; simp; omega
    have c2 : decide (g < 2) = true := by simp; omega
    obtain ⟨d0, d1, d2, d3, d4⟩ := R1
    obtain ⟨f0, f1, f2, f3, f4⟩ := R2
    clear hc1 hf1
    have n1 : w.heap.size ≠ w.heap.size + 1 + 1 := by omega
    have n2 : w.heap.size + 1 + 1 ≠ w.heap.size := by omega
    go_wp2
    refine bodyPost_ret (v := .tuple #[.agg #[.int .i64 0, .int .i64 0], .agg #[.int .i64 0, .int .i64 0], .bool false]) ?_ rfl ⟨pair2V_no _ _ _ _ (by rw [hr.out, c1.out]; rfl), (by repeat (first | exact Below.refl _ _ | refine Below.drew ?_ | refine Below.setCell ?_ (by first | (simp; done) | omega | (simp; omega)) _ | refine old_alloc ?_ _ | refine old_trans ?_ (by assumption)))⟩
    simp [results, Try.results23, go_sem, d0, d1, f0, f1]
  · have c1 : Hid (decide (2 ≤ g) = true) := by show _ = _; simp; omega
    have c2 : decide (g < 2) = false := by simp; omega
    obtain ⟨a0, a1, a2, a3, a4⟩ := A1
    obtain ⟨d0, d1, d2, d3, d4⟩ := R1
    obtain ⟨f0, f1, f2, f3, f4⟩ := R2
    clear hc1 hf1
    have n1 : w.heap.size ≠ w.heap.size + 1 + 1 := by omega
    have n2 : w.heap.size + 1 + 1 ≠ w.heap.size := by omega
    go_wp2_with fail
    refine (H3.out _).mono ?_
    rintro e w3 ⟨rfl, rfl⟩
    go_wp2_with fail
    go_region_held3 (fun w' => w'.cell? ⟨w.heap.size, 0, none⟩ = some (.int .i64 lo) ∧ w'.cell? ⟨w.heap.size, 1, none⟩ = some (.int .i64 hi)) (go_keep) (fail)
    all_goals
      go_wp2
      refine bodyPost_ret (v := .tuple #[.agg #[.int .i64 lo, .int .i64 m], .agg #[.int .i64 m, .int .i64 hi], .bool true]) ?_ rfl ⟨pair2V_yes _ _ _ _ (by rw [hr.out, c1.out]; rfl), (by repeat (first | exact Below.refl _ _ | refine Below.drew ?_ | refine Below.setCell ?_ (by first | (simp; done) | omega | (simp; omega)) _ | refine old_alloc ?_ _ | refine old_trans ?_ (by assumption)))⟩
      simp [results, Try.results23, go_sem, d0, d1, f0, f1]
end Go.Proofs.Ytmofapcoaolndaa
