/- Spans: what both have, turned at nought, without sign, the lesser and the greater, by the specification. Nothing that was there is written. -/
import Derived.Test.YtpjagplloljefaaGreatS8
import Derived.Deep.DeepCutAuto
namespace Go.Proofs.YtpjagplloljefaaGreat
open Go.RowKit
set_option linter.unusedVariables false
set_option maxRecDepth 100000

theorem both_eq (wd : Int) (s1 s2 : Bool) (a b c d : Int) : (sokB wd s1 a b && (sokB wd s2 c d && (s1 && s2))) = bothB wd s1 s2 a b c d := by
  unfold bothB sokB
  cases s1 <;> cases s2 <;> simp
set_option maxHeartbeats 2000000 in
theorem sBoth (wd : Int) (s1 s2 : Bool) (a b c d : Int) (w : World) :
    Calls Tryz.prog 32 #[.int .i64 wd, .agg #[.bool s1, .int .i64 a, .int .i64 b], .agg #[.bool s2, .int .i64 c, .int .i64 d]] w fun e w' => e = .returned (.bool (bothB wd s1 s2 a b c d)) ∧ Below w.heap.size w w' := by
  have H1 := hd (sSpanOk wd s1 a b)
  have H2 := hd (sSpanOk wd s2 c d)
  rw [← both_eq]
  generalize sokB wd s1 a b = q1 at *
  generalize sokB wd s2 c d = q2 at *
  have K := (S3.made w _ rfl (.bool s1) (.int .i64 a) (.int .i64 b) 24).alloc (.cells #[.bool s2, .int .i64 c, .int .i64 d] 24)
  have M := S3.made (w.alloc (.cells #[.bool s1, .int .i64 a, .int .i64 b] 24)) (w.heap.size + 1) (by simp) (.bool s2) (.int .i64 c) (.int .i64 d) 24
  go_enter Tryz.func32, Tryz.ntmps32
  go_wp2_with fail
  refine (H1.out _).mono ?_
  rintro e w1 ⟨rfl, hb1⟩
  replace K := K.later hb1
  replace M := M.later hb1
  obtain ⟨⟨m0, m1, m2⟩, -, -⟩ := id M
  cases q1
  · go_wp2
    go_ret
    exact ⟨rfl, (by repeat (first | exact Below.refl _ _ | refine Below.drew ?_ | refine Below.setCell ?_ (by first | (simp; done) | omega | (simp; omega)) _ | refine old_alloc ?_ _ | refine old_trans ?_ (by assumption)))⟩
  go_wp2_with fail
  refine (H2.out _).mono ?_
  rintro e w2 ⟨rfl, hb2⟩
  replace K := K.later hb2
  replace M := M.later hb2
  clear m0 m1 m2
  obtain ⟨⟨k0, k1, k2⟩, -, -⟩ := id K
  obtain ⟨⟨m0, m1, m2⟩, -, -⟩ := id M
  cases q2
  · go_wp2
    go_ret
    exact ⟨rfl, (by repeat (first | exact Below.refl _ _ | refine Below.drew ?_ | refine Below.setCell ?_ (by first | (simp; done) | omega | (simp; omega)) _ | refine old_alloc ?_ _ | refine old_trans ?_ (by assumption)))⟩
  cases s1
  · go_wp2
    go_ret
    exact ⟨rfl, (by repeat (first | exact Below.refl _ _ | refine Below.drew ?_ | refine Below.setCell ?_ (by first | (simp; done) | omega | (simp; omega)) _ | refine old_alloc ?_ _ | refine old_trans ?_ (by assumption)))⟩
  go_wp2
  go_ret
  exact ⟨ret_b (by simp), (by repeat (first | exact Below.refl _ _ | refine Below.drew ?_ | refine Below.setCell ?_ (by first | (simp; done) | omega | (simp; omega)) _ | refine old_alloc ?_ _ | refine old_trans ?_ (by assumption)))⟩
set_option maxHeartbeats 4000000 in
theorem sSpanMin (wd : Int) (s1 s2 : Bool) (a b c d : Int) (w : World) :
    Calls Tryz.prog 28 #[.int .i64 wd, .agg #[.bool s1, .int .i64 a, .int .i64 b], .agg #[.bool s2, .int .i64 c, .int .i64 d]] w fun e w' => e = .returned (.agg #[.bool (bothB wd s1 s2 a b c d && true), .int .i64 (if (bothB wd s1 s2 a b c d && true) then min a c else 0), .int .i64 (if (bothB wd s1 s2 a b c d && true) then min b d else 0)]) ∧ Below w.heap.size w w' := by
  have H := hd (sBoth wd s1 s2 a b c d)
  rw [Bool.and_true]
  generalize bothB wd s1 s2 a b c d = r at *
  have P1 := hd (sMin a c)
  have P2 := hd (sMin b d)
  have P3 := hd (sOfL (min a c) (min b d))
  generalize min a c = x at *
  generalize min b d = y at *
  have C3 := hd (fun w' (hS : w'.cell? ⟨w.heap.size, 0, none⟩ = some (.bool s1) ∧ w'.cell? ⟨w.heap.size, 1, none⟩ = some (.int .i64 a) ∧ w'.cell? ⟨w.heap.size, 2, none⟩ = some (.int .i64 b) ∧ w'.cell? ⟨w.heap.size + 1, 0, none⟩ = some (.bool s2) ∧ w'.cell? ⟨w.heap.size + 1, 1, none⟩ = some (.int .i64 c) ∧ w'.cell? ⟨w.heap.size + 1, 2, none⟩ = some (.int .i64 d)) => (P3.out w').mono (fun e w'' (k : _ ∧ _) => (⟨k, six_later hS k.2⟩ : (_ ∧ _) ∧ (w''.cell? ⟨w.heap.size, 0, none⟩ = some (.bool s1) ∧ w''.cell? ⟨w.heap.size, 1, none⟩ = some (.int .i64 a) ∧ w''.cell? ⟨w.heap.size, 2, none⟩ = some (.int .i64 b) ∧ w''.cell? ⟨w.heap.size + 1, 0, none⟩ = some (.bool s2) ∧ w''.cell? ⟨w.heap.size + 1, 1, none⟩ = some (.int .i64 c) ∧ w''.cell? ⟨w.heap.size + 1, 2, none⟩ = some (.int .i64 d)))))
  have K := ((S3.made w _ rfl (.bool s1) (.int .i64 a) (.int .i64 b) 24).alloc (.cells #[.bool s2, .int .i64 c, .int .i64 d] 24)).alloc (.cells #[.bool false, .int .i64 0, .int .i64 0] 24)
  have M := (S3.made (w.alloc (.cells #[.bool s1, .int .i64 a, .int .i64 b] 24)) (w.heap.size + 1) (by simp) (.bool s2) (.int .i64 c) (.int .i64 d) 24).alloc (.cells #[.bool false, .int .i64 0, .int .i64 0] 24)
  have N := S3.made ((w.alloc (.cells #[.bool s1, .int .i64 a, .int .i64 b] 24)).alloc (.cells #[.bool s2, .int .i64 c, .int .i64 d] 24)) (w.heap.size + 1 + 1) (by simp) (.bool false) (.int .i64 0) (.int .i64 0) 24
  have z1 : w.heap.size ≠ w.heap.size + 1 + 1 := by omega
  have z2 : w.heap.size + 1 + 1 ≠ w.heap.size := by omega
  go_enter Tryz.func28, Tryz.ntmps28
  go_wp2_with fail
  refine (H.out _).mono ?_
  rintro e w1 ⟨rfl, hb1⟩
  replace K := K.later hb1
  replace M := M.later hb1
  replace N := N.later hb1
  obtain ⟨⟨k0, k1, k2⟩, -, kz⟩ := id K
  obtain ⟨⟨m0, m1, m2⟩, -, mz⟩ := id M
  cases r
  · obtain ⟨⟨e0, e1, e2⟩, ⟨f0, f1, f2⟩, nz⟩ := id N
    go_wp2
    refine bodyPost_ret (v := .agg #[.bool false, .int .i64 0, .int .i64 0]) ?_ rfl ⟨rfl, (by repeat (first | exact Below.refl _ _ | refine Below.drew ?_ | refine Below.setCell ?_ (by first | (simp; done) | omega | (simp; omega)) _ | refine old_alloc ?_ _ | refine old_trans ?_ (by assumption)))⟩
    simp [results, Tryz.results28, go_sem, e0, e1, e2]
  clear H P3
  go_wp2_with fail
  go_region_held3 (fun w' => w'.cell? ⟨w.heap.size, 0, none⟩ = some (.bool s1) ∧ w'.cell? ⟨w.heap.size, 1, none⟩ = some (.int .i64 a) ∧ w'.cell? ⟨w.heap.size, 2, none⟩ = some (.int .i64 b) ∧ w'.cell? ⟨w.heap.size + 1, 0, none⟩ = some (.bool s2) ∧ w'.cell? ⟨w.heap.size + 1, 1, none⟩ = some (.int .i64 c) ∧ w'.cell? ⟨w.heap.size + 1, 2, none⟩ = some (.int .i64 d)) (go_keep) (first | (go_at_call_of 48 (Value.int .i64 a); refine (P1.out _).mono ?_; rintro e w1 ⟨rfl, rfl⟩) | (go_at_call_of 48 (Value.int .i64 b); refine (P2.out _).mono ?_; rintro e w1 ⟨rfl, rfl⟩) | (go_at_call 34; refine (C3.out _ (by assumption)).mono ?_; rintro e wx ⟨⟨rfl, hbx⟩, hcx⟩; have N := (by first | exact N.later hbx | exact N.drew.later hbx : S3 wx _ _ _ _); obtain ⟨⟨e0, e1, e2⟩, ⟨f0, f1, f2⟩, nz⟩ := id N))
  all_goals
    go_wp2
    refine bodyPost_ret (v := .agg #[.bool true, .int .i64 x, .int .i64 y]) ?_ rfl ⟨rfl, (by repeat (first | exact Below.refl _ _ | refine Below.drew ?_ | refine Below.setCell ?_ (by first | (simp; done) | omega | (simp; omega)) _ | refine old_alloc ?_ _ | refine old_trans ?_ (by assumption)))⟩
    simp [results, Tryz.results28, go_sem, e0, e1, e2]
set_option maxHeartbeats 4000000 in
theorem sSpanMax (wd : Int) (s1 s2 : Bool) (a b c d : Int) (w : World) :
    Calls Tryz.prog 30 #[.int .i64 wd, .agg #[.bool s1, .int .i64 a, .int .i64 b], .agg #[.bool s2, .int .i64 c, .int .i64 d]] w fun e w' => e = .returned (.agg #[.bool (bothB wd s1 s2 a b c d && true), .int .i64 (if (bothB wd s1 s2 a b c d && true) then max a c else 0), .int .i64 (if (bothB wd s1 s2 a b c d && true) then max b d else 0)]) ∧ Below w.heap.size w w' := by
  have H := hd (sBoth wd s1 s2 a b c d)
  rw [Bool.and_true]
  generalize bothB wd s1 s2 a b c d = r at *
  have P1 := hd (sMax a c)
  have P2 := hd (sMax b d)
  have P3 := hd (sOfL (max a c) (max b d))
  generalize max a c = x at *
  generalize max b d = y at *
  have C3 := hd (fun w' (hS : w'.cell? ⟨w.heap.size, 0, none⟩ = some (.bool s1) ∧ w'.cell? ⟨w.heap.size, 1, none⟩ = some (.int .i64 a) ∧ w'.cell? ⟨w.heap.size, 2, none⟩ = some (.int .i64 b) ∧ w'.cell? ⟨w.heap.size + 1, 0, none⟩ = some (.bool s2) ∧ w'.cell? ⟨w.heap.size + 1, 1, none⟩ = some (.int .i64 c) ∧ w'.cell? ⟨w.heap.size + 1, 2, none⟩ = some (.int .i64 d)) => (P3.out w').mono (fun e w'' (k : _ ∧ _) => (⟨k, six_later hS k.2⟩ : (_ ∧ _) ∧ (w''.cell? ⟨w.heap.size, 0, none⟩ = some (.bool s1) ∧ w''.cell? ⟨w.heap.size, 1, none⟩ = some (.int .i64 a) ∧ w''.cell? ⟨w.heap.size, 2, none⟩ = some (.int .i64 b) ∧ w''.cell? ⟨w.heap.size + 1, 0, none⟩ = some (.bool s2) ∧ w''.cell? ⟨w.heap.size + 1, 1, none⟩ = some (.int .i64 c) ∧ w''.cell? ⟨w.heap.size + 1, 2, none⟩ = some (.int .i64 d)))))
  have K := ((S3.made w _ rfl (.bool s1) (.int .i64 a) (.int .i64 b) 24).alloc (.cells #[.bool s2, .int .i64 c, .int .i64 d] 24)).alloc (.cells #[.bool false, .int .i64 0, .int .i64 0] 24)
  have M := (S3.made (w.alloc (.cells #[.bool s1, .int .i64 a, .int .i64 b] 24)) (w.heap.size + 1) (by simp) (.bool s2) (.int .i64 c) (.int .i64 d) 24).alloc (.cells #[.bool false, .int .i64 0, .int .i64 0] 24)
  have N := S3.made ((w.alloc (.cells #[.bool s1, .int .i64 a, .int .i64 b] 24)).alloc (.cells #[.bool s2, .int .i64 c, .int .i64 d] 24)) (w.heap.size + 1 + 1) (by simp) (.bool false) (.int .i64 0) (.int .i64 0) 24
  have z1 : w.heap.size ≠ w.heap.size + 1 + 1 := by omega
  have z2 : w.heap.size + 1 + 1 ≠ w.heap.size := by omega
  go_enter Tryz.func30, Tryz.ntmps30
  go_wp2_with fail
  refine (H.out _).mono ?_
  rintro e w1 ⟨rfl, hb1⟩
  replace K := K.later hb1
  replace M := M.later hb1
  replace N := N.later hb1
  obtain ⟨⟨k0, k1, k2⟩, -, kz⟩ := id K
  obtain ⟨⟨m0, m1, m2⟩, -, mz⟩ := id M
  cases r
  · obtain ⟨⟨e0, e1, e2⟩, ⟨f0, f1, f2⟩, nz⟩ := id N
    go_wp2
    refine bodyPost_ret (v := .agg #[.bool false, .int .i64 0, .int .i64 0]) ?_ rfl ⟨rfl, (by repeat (first | exact Below.refl _ _ | refine Below.drew ?_ | refine Below.setCell ?_ (by first | (simp; done) | omega | (simp; omega)) _ | refine old_alloc ?_ _ | refine old_trans ?_ (by assumption)))⟩
    simp [results, Tryz.results30, go_sem, e0, e1, e2]
  clear H P3
  go_wp2_with fail
  go_region_held3 (fun w' => w'.cell? ⟨w.heap.size, 0, none⟩ = some (.bool s1) ∧ w'.cell? ⟨w.heap.size, 1, none⟩ = some (.int .i64 a) ∧ w'.cell? ⟨w.heap.size, 2, none⟩ = some (.int .i64 b) ∧ w'.cell? ⟨w.heap.size + 1, 0, none⟩ = some (.bool s2) ∧ w'.cell? ⟨w.heap.size + 1, 1, none⟩ = some (.int .i64 c) ∧ w'.cell? ⟨w.heap.size + 1, 2, none⟩ = some (.int .i64 d)) (go_keep) (first | (go_at_call_of 47 (Value.int .i64 a); refine (P1.out _).mono ?_; rintro e w1 ⟨rfl, rfl⟩) | (go_at_call_of 47 (Value.int .i64 b); refine (P2.out _).mono ?_; rintro e w1 ⟨rfl, rfl⟩) | (go_at_call 34; refine (C3.out _ (by assumption)).mono ?_; rintro e wx ⟨⟨rfl, hbx⟩, hcx⟩; have N := (by first | exact N.later hbx | exact N.drew.later hbx : S3 wx _ _ _ _); obtain ⟨⟨e0, e1, e2⟩, ⟨f0, f1, f2⟩, nz⟩ := id N))
  all_goals
    go_wp2
    refine bodyPost_ret (v := .agg #[.bool true, .int .i64 x, .int .i64 y]) ?_ rfl ⟨rfl, (by repeat (first | exact Below.refl _ _ | refine Below.drew ?_ | refine Below.setCell ?_ (by first | (simp; done) | omega | (simp; omega)) _ | refine old_alloc ?_ _ | refine old_trans ?_ (by assumption)))⟩
    simp [results, Tryz.results30, go_sem, e0, e1, e2]
theorem both1' {wd : Int} {s : Bool} {a b : Int} {r : Bool} (hr : (bothB wd s s a b a b && true) = r) (h : r = true) : pokB wd a b = true := by
  rw [← hr, Bool.and_true] at h
  unfold bothB at h
  simp only [Bool.and_eq_true] at h
  exact h.1.2
set_option maxHeartbeats 2000000 in
theorem sSpanNeg (wd : Int) (s1 : Bool) (a b : Int) (w : World) :
    Calls Tryz.prog 24 #[.int .i64 wd, .agg #[.bool s1, .int .i64 a, .int .i64 b]] w fun e w' => e = .returned (.agg #[.bool (bothB wd s1 s1 a b a b && true), .int .i64 (if (bothB wd s1 s1 a b a b && true) then -b else 0), .int .i64 (if (bothB wd s1 s1 a b a b && true) then -a else 0)]) ∧ Below w.heap.size w w' := by
  have H := hd (sSpanOk wd s1 a b)
  have hr : (bothB wd s1 s1 a b a b && true) = (sokB wd s1 a b && s1) := by rw [Bool.and_true, ← both_eq]; cases sokB wd s1 a b <;> cases s1 <;> rfl
  have hk : Hid ((sokB wd s1 a b && s1) = true → _ ∧ _) := fun h => (pok_w (both1' hr h)).2
  rw [hr]
  clear hr
  have P3 := hd (sOfL (-b) (-a))
  generalize sokB wd s1 a b = q at *
  have K := (S3.made w _ rfl (.bool s1) (.int .i64 a) (.int .i64 b) 24).alloc (.cells #[.bool false, .int .i64 0, .int .i64 0] 24)
  have N := S3.made (w.alloc (.cells #[.bool s1, .int .i64 a, .int .i64 b] 24)) (w.heap.size + 1) (by simp) (.bool false) (.int .i64 0) (.int .i64 0) 24
  go_enter Tryz.func24, Tryz.ntmps24
  go_wp2_with fail
  refine (H.out _).mono ?_
  rintro e w1 ⟨rfl, hb1⟩
  replace K := K.later hb1
  replace N := N.later hb1
  obtain ⟨⟨k0, k1, k2⟩, -, kz⟩ := id K
  obtain ⟨⟨e0, e1, e2⟩, ⟨f0, f1, f2⟩, nz⟩ := id N
  cases q
  · go_wp2
    refine bodyPost_ret (v := .agg #[.bool false, .int .i64 0, .int .i64 0]) ?_ rfl ⟨rfl, (by repeat (first | exact Below.refl _ _ | refine Below.drew ?_ | refine Below.setCell ?_ (by first | (simp; done) | omega | (simp; omega)) _ | refine old_alloc ?_ _ | refine old_trans ?_ (by assumption)))⟩
    simp [results, Tryz.results24, go_sem, e0, e1, e2]
  cases s1
  · go_wp2
    refine bodyPost_ret (v := .agg #[.bool false, .int .i64 0, .int .i64 0]) ?_ rfl ⟨rfl, (by repeat (first | exact Below.refl _ _ | refine Below.drew ?_ | refine Below.setCell ?_ (by first | (simp; done) | omega | (simp; omega)) _ | refine old_alloc ?_ _ | refine old_trans ?_ (by assumption)))⟩
    simp [results, Tryz.results24, go_sem, e0, e1, e2]
  obtain ⟨ha, hb⟩ := hk.out rfl
  clear e0 e1 e2 f0 f1 f2 nz
  go_wp2_with fail
  refine (P3.out _).mono ?_
  rintro e w2 ⟨rfl, hb2⟩
  replace N := N.later hb2
  obtain ⟨⟨e0, e1, e2⟩, ⟨f0, f1, f2⟩, nz⟩ := id N
  go_wp2
  refine bodyPost_ret (v := .agg #[.bool true, .int .i64 (-b), .int .i64 (-a)]) ?_ rfl ⟨rfl, (by repeat (first | exact Below.refl _ _ | refine Below.drew ?_ | refine Below.setCell ?_ (by first | (simp; done) | omega | (simp; omega)) _ | refine old_alloc ?_ _ | refine old_trans ?_ (by assumption)))⟩
  simp [results, Tryz.results24, go_sem, e0, e1, e2]
theorem abs_pos {a b : Int} (h : 0 ≤ a) (hab : a ≤ b) : absLo a b = a ∧ absHi a b = b := by unfold absLo absHi; omega
theorem abs_neg {a b : Int} (h : b ≤ 0) (h0 : a < 0) (hab : a ≤ b) : absLo a b = -b ∧ absHi a b = -a := by unfold absLo absHi; omega
theorem abs_mid {a b : Int} (h : 0 < b) (h0 : a < 0) : absLo a b = 0 ∧ absHi a b = max (-a) b := by unfold absLo absHi; omega
theorem sok_no {wd a b : Int} (h : sokB wd false a b = true) : a = 0 ∧ b = 0 := sok_none rfl h
set_option maxHeartbeats 4000000 in
theorem sSpanAbs (wd : Int) (s1 : Bool) (a b : Int) (w : World) :
    Calls Tryz.prog 26 #[.int .i64 wd, .agg #[.bool s1, .int .i64 a, .int .i64 b]] w fun e w' => e = .returned (.agg #[.bool (bothB wd s1 s1 a b a b && true), .int .i64 (if (bothB wd s1 s1 a b a b && true) then absLo a b else 0), .int .i64 (if (bothB wd s1 s1 a b a b && true) then absHi a b else 0)]) ∧ Below w.heap.size w w' := by
  have H := hd (sSpanOk wd s1 a b)
  have hr : (bothB wd s1 s1 a b a b && true) = (sokB wd s1 a b && s1) := by rw [Bool.and_true, ← both_eq]; cases sokB wd s1 a b <;> cases s1 <;> rfl
  have hk : Hid ((sokB wd s1 a b && s1) = true → _ ∧ _) := fun h => ⟨(pok_w (both1' hr h)).2, (pokB_in (both1' hr h)).2.2.1⟩
  have hn : Hid (sokB wd s1 a b = true → s1 = false → a = 0 ∧ b = 0) := fun h g => sok_none g h
  rw [hr]
  clear hr
  have P3 := hd (sOfL (-b) (-a))
  have P4 := hd (sOfL 0 (max (-a) b))
  have P5 := hd (sMax (-a) b)
  generalize sokB wd s1 a b = q at *
  have K := (S3.made w _ rfl (.bool s1) (.int .i64 a) (.int .i64 b) 24).alloc (.cells #[.bool false, .int .i64 0, .int .i64 0] 24)
  have N := S3.made (w.alloc (.cells #[.bool s1, .int .i64 a, .int .i64 b] 24)) (w.heap.size + 1) (by simp) (.bool false) (.int .i64 0) (.int .i64 0) 24
  go_enter Tryz.func26, Tryz.ntmps26
  go_wp2_with fail
  refine (H.out _).mono ?_
  rintro e w1 ⟨rfl, hb1⟩
  replace K := K.later hb1
  replace N := N.later hb1
  obtain ⟨⟨k0, k1, k2⟩, -, kz⟩ := id K
  cases q
  · go_wp2_with fail
    refine (H.out _).mono ?_
    rintro e w2 ⟨rfl, hb2⟩
    replace N := N.later hb2
    obtain ⟨⟨e0, e1, e2⟩, ⟨f0, f1, f2⟩, nz⟩ := id N
    go_wp2
    refine bodyPost_ret (v := .agg #[.bool false, .int .i64 0, .int .i64 0]) ?_ rfl ⟨rfl, (by repeat (first | exact Below.refl _ _ | refine Below.drew ?_ | refine Below.setCell ?_ (by first | (simp; done) | omega | (simp; omega)) _ | refine old_alloc ?_ _ | refine old_trans ?_ (by assumption)))⟩
    simp [results, Tryz.results26, go_sem, e0, e1, e2]
  cases s1
  · obtain ⟨rfl, rfl⟩ := hn.out rfl rfl
    go_wp2_with fail
    refine (H.out _).mono ?_
    rintro e w2 ⟨rfl, hb2⟩
    replace N := N.later hb2
    replace K := K.later hb2
    clear k0 k1 k2 kz
    obtain ⟨⟨k0, k1, k2⟩, -, kz⟩ := id K
    obtain ⟨⟨e0, e1, e2⟩, ⟨f0, f1, f2⟩, nz⟩ := id N
    go_wp2
    refine bodyPost_ret (v := .agg #[.bool false, .int .i64 0, .int .i64 0]) ?_ rfl ⟨rfl, (by repeat (first | exact Below.refl _ _ | refine Below.drew ?_ | refine Below.setCell ?_ (by first | (simp; done) | omega | (simp; omega)) _ | refine old_alloc ?_ _ | refine old_trans ?_ (by assumption)))⟩
    simp [results, Tryz.results26, go_sem, e0, e1, e2]
  obtain ⟨⟨ha, hb⟩, hab⟩ := hk.out rfl
  by_cases c1 : 0 ≤ a
  · obtain ⟨x1, x2⟩ := abs_pos c1 hab
    replace x1 := hd x1
    replace x2 := hd x2
    go_wp2_with fail
    refine (H.out _).mono ?_
    rintro e w2 ⟨rfl, hb2⟩
    replace N := N.later hb2
    replace K := K.later hb2
    clear k0 k1 k2 kz
    obtain ⟨⟨k0, k1, k2⟩, -, kz⟩ := id K
    obtain ⟨⟨e0, e1, e2⟩, ⟨f0, f1, f2⟩, nz⟩ := id N
    go_wp2
    refine bodyPost_ret (v := .agg #[.bool true, .int .i64 a, .int .i64 b]) ?_ rfl ⟨ret_sp rfl x1.out.symm x2.out.symm, (by repeat (first | exact Below.refl _ _ | refine Below.drew ?_ | refine Below.setCell ?_ (by first | (simp; done) | omega | (simp; omega)) _ | refine old_alloc ?_ _ | refine old_trans ?_ (by assumption)))⟩
    simp [results, Tryz.results26, go_sem, e0, e1, e2]
  have c1' : a < 0 := by omega
  by_cases c2 : b ≤ 0
  · obtain ⟨x1, x2⟩ := abs_neg c2 c1' hab
    replace x1 := hd x1
    replace x2 := hd x2
    go_wp2_with fail
    refine (P3.out _).mono ?_
    rintro e w2 ⟨rfl, hb2⟩
    replace N := N.later hb2
    obtain ⟨⟨e0, e1, e2⟩, ⟨f0, f1, f2⟩, nz⟩ := id N
    go_wp2
    refine bodyPost_ret (v := .agg #[.bool true, .int .i64 (-b), .int .i64 (-a)]) ?_ rfl ⟨ret_sp rfl x1.out.symm x2.out.symm, (by repeat (first | exact Below.refl _ _ | refine Below.drew ?_ | refine Below.setCell ?_ (by first | (simp; done) | omega | (simp; omega)) _ | refine old_alloc ?_ _ | refine old_trans ?_ (by assumption)))⟩
    simp [results, Tryz.results26, go_sem, e0, e1, e2]
  · obtain ⟨x1, x2⟩ := @abs_mid a b (by omega) c1'
    replace x1 := hd x1
    replace x2 := hd x2
    go_wp2_with fail
    refine (P5.out _).mono ?_
    rintro e w2 ⟨rfl, rfl⟩
    go_wp2_with fail
    refine (P4.out _).mono ?_
    rintro e w3 ⟨rfl, hb3⟩
    replace N := N.later hb3
    obtain ⟨⟨e0, e1, e2⟩, ⟨f0, f1, f2⟩, nz⟩ := id N
    go_wp2
    refine bodyPost_ret (v := .agg #[.bool true, .int .i64 0, .int .i64 (max (-a) b)]) ?_ rfl ⟨ret_sp rfl x1.out.symm x2.out.symm, (by repeat (first | exact Below.refl _ _ | refine Below.drew ?_ | refine Below.setCell ?_ (by first | (simp; done) | omega | (simp; omega)) _ | refine old_alloc ?_ _ | refine old_trans ?_ (by assumption)))⟩
    simp [results, Tryz.results26, go_sem, e0, e1, e2]
end Go.Proofs.YtpjagplloljefaaGreat
