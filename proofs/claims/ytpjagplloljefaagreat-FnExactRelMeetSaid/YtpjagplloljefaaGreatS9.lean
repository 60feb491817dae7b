/- Spans: what both have, turned at nought, without sign, the lesser and the greater, by the program. Nothing that was there is written. -/
import Derived.Test.YtpjagplloljefaaGreatS8
namespace Go.Proofs.YtpjagplloljefaaGreat
open Go.RowKit
set_option linter.unusedVariables false
set_option maxRecDepth 100000

theorem both1 {wd : Int} {s1 s2 : Bool} {a b c d : Int} (h : bothB wd s1 s2 a b c d = true) : pokB wd a b = true := by
  unfold bothB at h
  simp only [Bool.and_eq_true] at h
  exact h.1.2
set_option maxHeartbeats 2000000 in
theorem iSpanMeet (wd : Int) (s1 s2 : Bool) (a b c d : Int) (w : World) :
    Calls Tryz.prog 23 #[.int .i64 wd, .agg #[.bool s1, .int .i64 a, .int .i64 b], .agg #[.bool s2, .int .i64 c, .int .i64 d]] w fun e w' => e = .returned (.agg #[.bool (bothB wd s1 s2 a b c d && decide (max a c ≤ min b d)), .int .i64 (if (bothB wd s1 s2 a b c d && decide (max a c ≤ min b d)) then max a c else 0), .int .i64 (if (bothB wd s1 s2 a b c d && decide (max a c ≤ min b d)) then min b d else 0)]) ∧ Below w.heap.size w w' := by
  have H := hd (fun w => iReckOf 0 wd s1 s2 a b c d 0 (decide (max a c ≤ min b d)) (max a c) (min b d) w (fun h T v w => iReck0 T v _ a b c d 0 w _ (fun w => iMeets T v _ a b c d 0 w)))
  generalize (bothB wd s1 s2 a b c d && decide (max a c ≤ min b d)) = r at *
  generalize (max a c) = x at *
  generalize (min b d) = y at *
  have SP := hd (fun v w h => iBSpan 0 r x y v w h)
  generalize (if r = true then x else 0) = X at *
  generalize (if r = true then y else 0) = Y at *
  have N := S3.made ((w.alloc (.cells #[.bool s1, .int .i64 a, .int .i64 b] 24)).alloc (.cells #[.bool s2, .int .i64 c, .int .i64 d] 24)) (w.heap.size + 1 + 1) (by simp) (.bool false) (.int .i64 0) (.int .i64 0) 24
  go_enter Tryz.func23, Tryz.ntmps23
  go_wp2_with fail
  refine (H.out _).mono ?_
  rintro e w1 ⟨⟨u, rfl, hu⟩, hb1⟩
  replace N := N.later hb1
  go_wp2_with fail
  refine (SP.out _ _ hu).mono ?_
  rintro e w2 ⟨rfl, hb2⟩
  replace N := N.later hb2
  obtain ⟨⟨n0, n1, n2⟩, ⟨f0, f1, f2⟩, nz⟩ := id N
  go_wp2
  refine bodyPost_ret (v := .agg #[.bool r, .int .i64 X, .int .i64 Y]) ?_ rfl ⟨rfl, (by repeat (first | exact Below.refl _ _ | refine Below.drew ?_ | refine Below.setCell ?_ (by first | (simp; done) | omega | (simp; omega)) _ | refine old_alloc ?_ _ | refine old_trans ?_ (by assumption)))⟩
  simp [results, Tryz.results23, go_sem, n0, n1, n2]
set_option maxHeartbeats 2000000 in
theorem iSpanMin (wd : Int) (s1 s2 : Bool) (a b c d : Int) (w : World) :
    Calls Tryz.prog 29 #[.int .i64 wd, .agg #[.bool s1, .int .i64 a, .int .i64 b], .agg #[.bool s2, .int .i64 c, .int .i64 d]] w fun e w' => e = .returned (.agg #[.bool (bothB wd s1 s2 a b c d && true), .int .i64 (if (bothB wd s1 s2 a b c d && true) then min a c else 0), .int .i64 (if (bothB wd s1 s2 a b c d && true) then min b d else 0)]) ∧ Below w.heap.size w w' := by
  have H := hd (fun w => iReckOf 3 wd s1 s2 a b c d 0 (true) (min a c) (min b d) w (fun h T v w => iReck3 T v _ a b c d 0 w _ (fun w => iLesser T v _ a b c d 0 w)))
  generalize (bothB wd s1 s2 a b c d && true) = r at *
  generalize (min a c) = x at *
  generalize (min b d) = y at *
  have SP := hd (fun v w h => iBSpan 0 r x y v w h)
  generalize (if r = true then x else 0) = X at *
  generalize (if r = true then y else 0) = Y at *
  have N := S3.made ((w.alloc (.cells #[.bool s1, .int .i64 a, .int .i64 b] 24)).alloc (.cells #[.bool s2, .int .i64 c, .int .i64 d] 24)) (w.heap.size + 1 + 1) (by simp) (.bool false) (.int .i64 0) (.int .i64 0) 24
  go_enter Tryz.func29, Tryz.ntmps29
  go_wp2_with fail
  refine (H.out _).mono ?_
  rintro e w1 ⟨⟨u, rfl, hu⟩, hb1⟩
  replace N := N.later hb1
  go_wp2_with fail
  refine (SP.out _ _ hu).mono ?_
  rintro e w2 ⟨rfl, hb2⟩
  replace N := N.later hb2
  obtain ⟨⟨n0, n1, n2⟩, ⟨f0, f1, f2⟩, nz⟩ := id N
  go_wp2
  refine bodyPost_ret (v := .agg #[.bool r, .int .i64 X, .int .i64 Y]) ?_ rfl ⟨rfl, (by repeat (first | exact Below.refl _ _ | refine Below.drew ?_ | refine Below.setCell ?_ (by first | (simp; done) | omega | (simp; omega)) _ | refine old_alloc ?_ _ | refine old_trans ?_ (by assumption)))⟩
  simp [results, Tryz.results29, go_sem, n0, n1, n2]
set_option maxHeartbeats 2000000 in
theorem iSpanMax (wd : Int) (s1 s2 : Bool) (a b c d : Int) (w : World) :
    Calls Tryz.prog 31 #[.int .i64 wd, .agg #[.bool s1, .int .i64 a, .int .i64 b], .agg #[.bool s2, .int .i64 c, .int .i64 d]] w fun e w' => e = .returned (.agg #[.bool (bothB wd s1 s2 a b c d && true), .int .i64 (if (bothB wd s1 s2 a b c d && true) then max a c else 0), .int .i64 (if (bothB wd s1 s2 a b c d && true) then max b d else 0)]) ∧ Below w.heap.size w w' := by
  have H := hd (fun w => iReckOf 4 wd s1 s2 a b c d 0 (true) (max a c) (max b d) w (fun h T v w => iReck4 T v _ a b c d 0 w _ (fun w => iGreater T v _ a b c d 0 w)))
  generalize (bothB wd s1 s2 a b c d && true) = r at *
  generalize (max a c) = x at *
  generalize (max b d) = y at *
  have SP := hd (fun v w h => iBSpan 0 r x y v w h)
  generalize (if r = true then x else 0) = X at *
  generalize (if r = true then y else 0) = Y at *
  have N := S3.made ((w.alloc (.cells #[.bool s1, .int .i64 a, .int .i64 b] 24)).alloc (.cells #[.bool s2, .int .i64 c, .int .i64 d] 24)) (w.heap.size + 1 + 1) (by simp) (.bool false) (.int .i64 0) (.int .i64 0) 24
  go_enter Tryz.func31, Tryz.ntmps31
  go_wp2_with fail
  refine (H.out _).mono ?_
  rintro e w1 ⟨⟨u, rfl, hu⟩, hb1⟩
  replace N := N.later hb1
  go_wp2_with fail
  refine (SP.out _ _ hu).mono ?_
  rintro e w2 ⟨rfl, hb2⟩
  replace N := N.later hb2
  obtain ⟨⟨n0, n1, n2⟩, ⟨f0, f1, f2⟩, nz⟩ := id N
  go_wp2
  refine bodyPost_ret (v := .agg #[.bool r, .int .i64 X, .int .i64 Y]) ?_ rfl ⟨rfl, (by repeat (first | exact Below.refl _ _ | refine Below.drew ?_ | refine Below.setCell ?_ (by first | (simp; done) | omega | (simp; omega)) _ | refine old_alloc ?_ _ | refine old_trans ?_ (by assumption)))⟩
  simp [results, Tryz.results31, go_sem, n0, n1, n2]
set_option maxHeartbeats 2000000 in
theorem iSpanNeg (wd : Int) (s1 : Bool) (a b : Int) (w : World) :
    Calls Tryz.prog 25 #[.int .i64 wd, .agg #[.bool s1, .int .i64 a, .int .i64 b]] w fun e w' => e = .returned (.agg #[.bool (bothB wd s1 s1 a b a b && true), .int .i64 (if (bothB wd s1 s1 a b a b && true) then -b else 0), .int .i64 (if (bothB wd s1 s1 a b a b && true) then -a else 0)]) ∧ Below w.heap.size w w' := by
  have H := hd (fun w => iReckOf 1 wd s1 s1 a b a b 0 (true) (-b) (-a) w (fun h T v w => iReck1 T v _ a b a b 0 w _ (fun w => iNegatives T v _ a b a b 0 (pok_w (both1 h)).2.1 (pok_w (both1 h)).2.2 w)))
  generalize (bothB wd s1 s1 a b a b && true) = r at *
  generalize (-b) = x at *
  generalize (-a) = y at *
  have SP := hd (fun v w h => iBSpan 0 r x y v w h)
  generalize (if r = true then x else 0) = X at *
  generalize (if r = true then y else 0) = Y at *
  have N := S3.made (w.alloc (.cells #[.bool s1, .int .i64 a, .int .i64 b] 24)) (w.heap.size + 1) (by simp) (.bool false) (.int .i64 0) (.int .i64 0) 24
  go_enter Tryz.func25, Tryz.ntmps25
  go_wp2_with fail
  refine (H.out _).mono ?_
  rintro e w1 ⟨⟨u, rfl, hu⟩, hb1⟩
  replace N := N.later hb1
  go_wp2_with fail
  refine (SP.out _ _ hu).mono ?_
  rintro e w2 ⟨rfl, hb2⟩
  replace N := N.later hb2
  obtain ⟨⟨n0, n1, n2⟩, ⟨f0, f1, f2⟩, nz⟩ := id N
  go_wp2
  refine bodyPost_ret (v := .agg #[.bool r, .int .i64 X, .int .i64 Y]) ?_ rfl ⟨rfl, (by repeat (first | exact Below.refl _ _ | refine Below.drew ?_ | refine Below.setCell ?_ (by first | (simp; done) | omega | (simp; omega)) _ | refine old_alloc ?_ _ | refine old_trans ?_ (by assumption)))⟩
  simp [results, Tryz.results25, go_sem, n0, n1, n2]
set_option maxHeartbeats 2000000 in
theorem iSpanAbs (wd : Int) (s1 : Bool) (a b : Int) (w : World) :
    Calls Tryz.prog 27 #[.int .i64 wd, .agg #[.bool s1, .int .i64 a, .int .i64 b]] w fun e w' => e = .returned (.agg #[.bool (bothB wd s1 s1 a b a b && true), .int .i64 (if (bothB wd s1 s1 a b a b && true) then absLo a b else 0), .int .i64 (if (bothB wd s1 s1 a b a b && true) then absHi a b else 0)]) ∧ Below w.heap.size w w' := by
  have H := hd (fun w => iReckOf 2 wd s1 s1 a b a b 0 (true) (absLo a b) (absHi a b) w (fun h T v w => iReck2 T v _ a b a b 0 w _ (fun w => iSizes T v _ a b a b 0 (pok_w (both1 h)).2.1 (pok_w (both1 h)).2.2 w)))
  generalize (bothB wd s1 s1 a b a b && true) = r at *
  generalize (absLo a b) = x at *
  generalize (absHi a b) = y at *
  have SP := hd (fun v w h => iBSpan 0 r x y v w h)
  generalize (if r = true then x else 0) = X at *
  generalize (if r = true then y else 0) = Y at *
  have N := S3.made (w.alloc (.cells #[.bool s1, .int .i64 a, .int .i64 b] 24)) (w.heap.size + 1) (by simp) (.bool false) (.int .i64 0) (.int .i64 0) 24
  go_enter Tryz.func27, Tryz.ntmps27
  go_wp2_with fail
  refine (H.out _).mono ?_
  rintro e w1 ⟨⟨u, rfl, hu⟩, hb1⟩
  replace N := N.later hb1
  go_wp2_with fail
  refine (SP.out _ _ hu).mono ?_
  rintro e w2 ⟨rfl, hb2⟩
  replace N := N.later hb2
  obtain ⟨⟨n0, n1, n2⟩, ⟨f0, f1, f2⟩, nz⟩ := id N
  go_wp2
  refine bodyPost_ret (v := .agg #[.bool r, .int .i64 X, .int .i64 Y]) ?_ rfl ⟨rfl, (by repeat (first | exact Below.refl _ _ | refine Below.drew ?_ | refine Below.setCell ?_ (by first | (simp; done) | omega | (simp; omega)) _ | refine old_alloc ?_ _ | refine old_trans ?_ (by assumption)))⟩
  simp [results, Tryz.results27, go_sem, n0, n1, n2]
end Go.Proofs.YtpjagplloljefaaGreat
