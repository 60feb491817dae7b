/- What goes back, by the program: what is left of lesser, greater and size, and that both say the same; nothing that was there is written. -/
import Derived.Test.YtpjagplloljefaaGreatRJ
import Derived.Test.YtpjagplloljefaaGreatRM
import Derived.Test.YtpjagplloljefaaGreatRN
import Derived.Test.YtpjagplloljefaaGreatRL
namespace Go.Proofs.YtpjagplloljefaaGreat
open Go.RowKit
set_option linter.unusedVariables false
set_option maxRecDepth 100000

set_option maxHeartbeats 2000000 in
theorem iLeft_lesserBack (wd : Int) (s1 s2 : Bool) (a b c d : Int) (s3 : Bool) (f g : Int) (w : World) :
    Calls Tryz.prog 40 #[.int .i64 wd, .iface 49 (.agg #[.bool s1, .int .i64 a, .int .i64 b, .bool s2, .int .i64 c, .int .i64 d]), .agg #[.bool s3, .int .i64 f, .int .i64 g]] w fun e w' => e = .returned (.agg #[.bool (leftS (someS wd ⟨s1, a, b⟩ && someS wd ⟨s2, c, d⟩) wd ⟨s3, f, g⟩ (lessP wd ⟨s1, a, b⟩ ⟨s2, c, d⟩) (nilS)).s, .int .i64 (leftS (someS wd ⟨s1, a, b⟩ && someS wd ⟨s2, c, d⟩) wd ⟨s3, f, g⟩ (lessP wd ⟨s1, a, b⟩ ⟨s2, c, d⟩) (nilS)).lo, .int .i64 (leftS (someS wd ⟨s1, a, b⟩ && someS wd ⟨s2, c, d⟩) wd ⟨s3, f, g⟩ (lessP wd ⟨s1, a, b⟩ ⟨s2, c, d⟩) (nilS)).hi]) ∧ Below w.heap.size w w' := by
  have H1 := hd (iMet_lesserBack wd s1 s2 a b c d s3 f g)
  unfold leftS
  generalize metK (someS wd ⟨s1, a, b⟩ && someS wd ⟨s2, c, d⟩) wd ⟨s3, f, g⟩ (lessP wd ⟨s1, a, b⟩ ⟨s2, c, d⟩) (nilS) = U at *
  generalize metK (someS wd ⟨s1, a, b⟩ && someS wd ⟨s2, c, d⟩) wd ⟨s3, f, g⟩ (nilS) (lessP wd ⟨s1, a, b⟩ ⟨s2, c, d⟩) = V at *
  obtain ⟨u1, u2, u3⟩ := U
  obtain ⟨v1, v2, v3⟩ := V
  dsimp only at H1
  have H2 := hd (iHullS wd u1 v1 u2 u3 v2 v3)
  generalize hullS wd ⟨u1, u2, u3⟩ ⟨v1, v2, v3⟩ = R at *
  obtain ⟨r1, r2, r3⟩ := R
  dsimp only at H2
  have N := S3.made (w.alloc (.cells #[.bool s3, .int .i64 f, .int .i64 g] 24)) (w.heap.size + 1) (by simp) (.bool false) (.int .i64 0) (.int .i64 0) 24
  go_enter Tryz.func40, Tryz.ntmps40
  go_wp2_with fail
  refine (H1.out _).mono ?_
  rintro e w1 ⟨rfl, hb1⟩
  replace N := ((N.later hb1).alloc (.cells #[.bool u1, .int .i64 u2, .int .i64 u3] 24)).alloc (.cells #[.bool v1, .int .i64 v2, .int .i64 v3] 24)
  go_wp2_with fail
  refine (H2.out _).mono ?_
  rintro e w2 ⟨rfl, hb2⟩
  replace N := N.later hb2
  obtain ⟨⟨N0, N1, N2⟩, ⟨Nf, Ng, Nh⟩, Nz⟩ := id N
  go_wp2
  refine bodyPost_ret (v := .agg #[.bool r1, .int .i64 r2, .int .i64 r3]) ?_ rfl ⟨rfl, (by repeat (first | with_reducible exact Below.refl _ _ | with_reducible refine Below.drew ?_ | ((with_reducible refine Below.setCell ?_ ?_ _); rotate_left; (focus (first | (simp; done) | omega | (simp; omega)))) | with_reducible refine old_alloc ?_ _ | with_reducible refine old_trans ?_ (by with_reducible assumption)))⟩
  simp [results, Tryz.results40, go_sem, N0, N1, N2]
set_option maxHeartbeats 2000000 in
theorem iLeft_greaterBack (wd : Int) (s1 s2 : Bool) (a b c d : Int) (s3 : Bool) (f g : Int) (w : World) :
    Calls Tryz.prog 40 #[.int .i64 wd, .iface 50 (.agg #[.bool s1, .int .i64 a, .int .i64 b, .bool s2, .int .i64 c, .int .i64 d]), .agg #[.bool s3, .int .i64 f, .int .i64 g]] w fun e w' => e = .returned (.agg #[.bool (leftS (someS wd ⟨s1, a, b⟩ && someS wd ⟨s2, c, d⟩) wd ⟨s3, f, g⟩ (greatP wd ⟨s1, a, b⟩ ⟨s2, c, d⟩) (nilS)).s, .int .i64 (leftS (someS wd ⟨s1, a, b⟩ && someS wd ⟨s2, c, d⟩) wd ⟨s3, f, g⟩ (greatP wd ⟨s1, a, b⟩ ⟨s2, c, d⟩) (nilS)).lo, .int .i64 (leftS (someS wd ⟨s1, a, b⟩ && someS wd ⟨s2, c, d⟩) wd ⟨s3, f, g⟩ (greatP wd ⟨s1, a, b⟩ ⟨s2, c, d⟩) (nilS)).hi]) ∧ Below w.heap.size w w' := by
  have H1 := hd (iMet_greaterBack wd s1 s2 a b c d s3 f g)
  unfold leftS
  generalize metK (someS wd ⟨s1, a, b⟩ && someS wd ⟨s2, c, d⟩) wd ⟨s3, f, g⟩ (greatP wd ⟨s1, a, b⟩ ⟨s2, c, d⟩) (nilS) = U at *
  generalize metK (someS wd ⟨s1, a, b⟩ && someS wd ⟨s2, c, d⟩) wd ⟨s3, f, g⟩ (nilS) (greatP wd ⟨s1, a, b⟩ ⟨s2, c, d⟩) = V at *
  obtain ⟨u1, u2, u3⟩ := U
  obtain ⟨v1, v2, v3⟩ := V
  dsimp only at H1
  have H2 := hd (iHullS wd u1 v1 u2 u3 v2 v3)
  generalize hullS wd ⟨u1, u2, u3⟩ ⟨v1, v2, v3⟩ = R at *
  obtain ⟨r1, r2, r3⟩ := R
  dsimp only at H2
  have N := S3.made (w.alloc (.cells #[.bool s3, .int .i64 f, .int .i64 g] 24)) (w.heap.size + 1) (by simp) (.bool false) (.int .i64 0) (.int .i64 0) 24
  go_enter Tryz.func40, Tryz.ntmps40
  go_wp2_with fail
  refine (H1.out _).mono ?_
  rintro e w1 ⟨rfl, hb1⟩
  replace N := ((N.later hb1).alloc (.cells #[.bool u1, .int .i64 u2, .int .i64 u3] 24)).alloc (.cells #[.bool v1, .int .i64 v2, .int .i64 v3] 24)
  go_wp2_with fail
  refine (H2.out _).mono ?_
  rintro e w2 ⟨rfl, hb2⟩
  replace N := N.later hb2
  obtain ⟨⟨N0, N1, N2⟩, ⟨Nf, Ng, Nh⟩, Nz⟩ := id N
  go_wp2
  refine bodyPost_ret (v := .agg #[.bool r1, .int .i64 r2, .int .i64 r3]) ?_ rfl ⟨rfl, (by repeat (first | with_reducible exact Below.refl _ _ | with_reducible refine Below.drew ?_ | ((with_reducible refine Below.setCell ?_ ?_ _); rotate_left; (focus (first | (simp; done) | omega | (simp; omega)))) | with_reducible refine old_alloc ?_ _ | with_reducible refine old_trans ?_ (by with_reducible assumption)))⟩
  simp [results, Tryz.results40, go_sem, N0, N1, N2]
set_option maxHeartbeats 2000000 in
theorem iLeft_sizeBack (wd : Int) (s1 s2 : Bool) (a b c d : Int) (s3 : Bool) (f g : Int) (w : World) :
    Calls Tryz.prog 40 #[.int .i64 wd, .iface 47 (.agg #[.bool s1, .int .i64 a, .int .i64 b, .bool s2, .int .i64 c, .int .i64 d]), .agg #[.bool s3, .int .i64 f, .int .i64 g]] w fun e w' => e = .returned (.agg #[.bool (leftS (someS wd ⟨s1, a, b⟩ && someS wd ⟨s2, c, d⟩) wd ⟨s3, f, g⟩ (fromS wd ⟨s1, a, b⟩) (negS wd (fromS wd ⟨s1, a, b⟩))).s, .int .i64 (leftS (someS wd ⟨s1, a, b⟩ && someS wd ⟨s2, c, d⟩) wd ⟨s3, f, g⟩ (fromS wd ⟨s1, a, b⟩) (negS wd (fromS wd ⟨s1, a, b⟩))).lo, .int .i64 (leftS (someS wd ⟨s1, a, b⟩ && someS wd ⟨s2, c, d⟩) wd ⟨s3, f, g⟩ (fromS wd ⟨s1, a, b⟩) (negS wd (fromS wd ⟨s1, a, b⟩))).hi]) ∧ Below w.heap.size w w' := by
  have H1 := hd (iMet_sizeBack wd s1 s2 a b c d s3 f g)
  unfold leftS
  generalize metK (someS wd ⟨s1, a, b⟩ && someS wd ⟨s2, c, d⟩) wd ⟨s3, f, g⟩ (fromS wd ⟨s1, a, b⟩) (negS wd (fromS wd ⟨s1, a, b⟩)) = U at *
  generalize metK (someS wd ⟨s1, a, b⟩ && someS wd ⟨s2, c, d⟩) wd ⟨s3, f, g⟩ (negS wd (fromS wd ⟨s1, a, b⟩)) (fromS wd ⟨s1, a, b⟩) = V at *
  obtain ⟨u1, u2, u3⟩ := U
  obtain ⟨v1, v2, v3⟩ := V
  dsimp only at H1
  have H2 := hd (iHullS wd u1 v1 u2 u3 v2 v3)
  generalize hullS wd ⟨u1, u2, u3⟩ ⟨v1, v2, v3⟩ = R at *
  obtain ⟨r1, r2, r3⟩ := R
  dsimp only at H2
  have N := S3.made (w.alloc (.cells #[.bool s3, .int .i64 f, .int .i64 g] 24)) (w.heap.size + 1) (by simp) (.bool false) (.int .i64 0) (.int .i64 0) 24
  go_enter Tryz.func40, Tryz.ntmps40
  go_wp2_with fail
  refine (H1.out _).mono ?_
  rintro e w1 ⟨rfl, hb1⟩
  replace N := ((N.later hb1).alloc (.cells #[.bool u1, .int .i64 u2, .int .i64 u3] 24)).alloc (.cells #[.bool v1, .int .i64 v2, .int .i64 v3] 24)
  go_wp2_with fail
  refine (H2.out _).mono ?_
  rintro e w2 ⟨rfl, hb2⟩
  replace N := N.later hb2
  obtain ⟨⟨N0, N1, N2⟩, ⟨Nf, Ng, Nh⟩, Nz⟩ := id N
  go_wp2
  refine bodyPost_ret (v := .agg #[.bool r1, .int .i64 r2, .int .i64 r3]) ?_ rfl ⟨rfl, (by repeat (first | with_reducible exact Below.refl _ _ | with_reducible refine Below.drew ?_ | ((with_reducible refine Below.setCell ?_ ?_ _); rotate_left; (focus (first | (simp; done) | omega | (simp; omega)))) | with_reducible refine old_alloc ?_ _ | with_reducible refine old_trans ?_ (by with_reducible assumption)))⟩
  simp [results, Tryz.results40, go_sem, N0, N1, N2]
set_option maxHeartbeats 2000000 in
theorem iBackMin0 (wd : Int) (s1 s2 s3 : Bool) (a b c d f g : Int) (w : World) :
    Calls Tryz.prog 19 #[.int .i64 wd, .agg #[.bool s1, .int .i64 a, .int .i64 b], .agg #[.bool s2, .int .i64 c, .int .i64 d], .agg #[.bool s3, .int .i64 f, .int .i64 g]] w fun e w' => e = .returned (.agg #[.bool (leftS (someS wd ⟨s1, a, b⟩ && someS wd ⟨s2, c, d⟩) wd ⟨s3, f, g⟩ (lessP wd ⟨s1, a, b⟩ ⟨s2, c, d⟩) (nilS)).s, .int .i64 (leftS (someS wd ⟨s1, a, b⟩ && someS wd ⟨s2, c, d⟩) wd ⟨s3, f, g⟩ (lessP wd ⟨s1, a, b⟩ ⟨s2, c, d⟩) (nilS)).lo, .int .i64 (leftS (someS wd ⟨s1, a, b⟩ && someS wd ⟨s2, c, d⟩) wd ⟨s3, f, g⟩ (lessP wd ⟨s1, a, b⟩ ⟨s2, c, d⟩) (nilS)).hi]) ∧ Below w.heap.size w w' := by
  have H1 := hd (iLeft_lesserBack wd s1 s2 a b c d s3 f g)
  generalize leftS (someS wd ⟨s1, a, b⟩ && someS wd ⟨s2, c, d⟩) wd ⟨s3, f, g⟩ (lessP wd ⟨s1, a, b⟩ ⟨s2, c, d⟩) (nilS) = R at *
  obtain ⟨r1, r2, r3⟩ := R
  dsimp only at H1
  have N := S3.made (((w.alloc (.cells #[.bool s1, .int .i64 a, .int .i64 b] 24)).alloc (.cells #[.bool s2, .int .i64 c, .int .i64 d] 24)).alloc (.cells #[.bool s3, .int .i64 f, .int .i64 g] 24)) (w.heap.size + 1 + 1 + 1) (by simp) (.bool false) (.int .i64 0) (.int .i64 0) 24
  go_enter Tryz.func19, Tryz.ntmps19
  go_wp2_with fail
  refine (H1.out _).mono ?_
  rintro e w1 ⟨rfl, hb1⟩
  replace N := N.later hb1
  obtain ⟨⟨N0, N1, N2⟩, ⟨Nf, Ng, Nh⟩, Nz⟩ := id N
  go_wp2
  refine bodyPost_ret (v := .agg #[.bool r1, .int .i64 r2, .int .i64 r3]) ?_ rfl ⟨rfl, (by repeat (first | with_reducible exact Below.refl _ _ | with_reducible refine Below.drew ?_ | ((with_reducible refine Below.setCell ?_ ?_ _); rotate_left; (focus (first | (simp; done) | omega | (simp; omega)))) | with_reducible refine old_alloc ?_ _ | with_reducible refine old_trans ?_ (by with_reducible assumption)))⟩
  simp [results, Tryz.results19, go_sem, N0, N1, N2]
set_option maxHeartbeats 2000000 in
theorem iBackMax0 (wd : Int) (s1 s2 s3 : Bool) (a b c d f g : Int) (w : World) :
    Calls Tryz.prog 21 #[.int .i64 wd, .agg #[.bool s1, .int .i64 a, .int .i64 b], .agg #[.bool s2, .int .i64 c, .int .i64 d], .agg #[.bool s3, .int .i64 f, .int .i64 g]] w fun e w' => e = .returned (.agg #[.bool (leftS (someS wd ⟨s1, a, b⟩ && someS wd ⟨s2, c, d⟩) wd ⟨s3, f, g⟩ (greatP wd ⟨s1, a, b⟩ ⟨s2, c, d⟩) (nilS)).s, .int .i64 (leftS (someS wd ⟨s1, a, b⟩ && someS wd ⟨s2, c, d⟩) wd ⟨s3, f, g⟩ (greatP wd ⟨s1, a, b⟩ ⟨s2, c, d⟩) (nilS)).lo, .int .i64 (leftS (someS wd ⟨s1, a, b⟩ && someS wd ⟨s2, c, d⟩) wd ⟨s3, f, g⟩ (greatP wd ⟨s1, a, b⟩ ⟨s2, c, d⟩) (nilS)).hi]) ∧ Below w.heap.size w w' := by
  have H1 := hd (iLeft_greaterBack wd s1 s2 a b c d s3 f g)
  generalize leftS (someS wd ⟨s1, a, b⟩ && someS wd ⟨s2, c, d⟩) wd ⟨s3, f, g⟩ (greatP wd ⟨s1, a, b⟩ ⟨s2, c, d⟩) (nilS) = R at *
  obtain ⟨r1, r2, r3⟩ := R
  dsimp only at H1
  have N := S3.made (((w.alloc (.cells #[.bool s1, .int .i64 a, .int .i64 b] 24)).alloc (.cells #[.bool s2, .int .i64 c, .int .i64 d] 24)).alloc (.cells #[.bool s3, .int .i64 f, .int .i64 g] 24)) (w.heap.size + 1 + 1 + 1) (by simp) (.bool false) (.int .i64 0) (.int .i64 0) 24
  go_enter Tryz.func21, Tryz.ntmps21
  go_wp2_with fail
  refine (H1.out _).mono ?_
  rintro e w1 ⟨rfl, hb1⟩
  replace N := N.later hb1
  obtain ⟨⟨N0, N1, N2⟩, ⟨Nf, Ng, Nh⟩, Nz⟩ := id N
  go_wp2
  refine bodyPost_ret (v := .agg #[.bool r1, .int .i64 r2, .int .i64 r3]) ?_ rfl ⟨rfl, (by repeat (first | with_reducible exact Below.refl _ _ | with_reducible refine Below.drew ?_ | ((with_reducible refine Below.setCell ?_ ?_ _); rotate_left; (focus (first | (simp; done) | omega | (simp; omega)))) | with_reducible refine old_alloc ?_ _ | with_reducible refine old_trans ?_ (by with_reducible assumption)))⟩
  simp [results, Tryz.results21, go_sem, N0, N1, N2]
set_option maxHeartbeats 2000000 in
theorem iBackAbs0 (wd : Int) (s1 s2 : Bool) (a b c d : Int) (w : World) :
    Calls Tryz.prog 17 #[.int .i64 wd, .agg #[.bool s1, .int .i64 a, .int .i64 b], .agg #[.bool s2, .int .i64 c, .int .i64 d]] w fun e w' => e = .returned (.agg #[.bool (leftS (someS wd ⟨s1, a, b⟩ && someS wd ⟨s1, a, b⟩) wd ⟨s2, c, d⟩ (fromS wd ⟨s1, a, b⟩) (negS wd (fromS wd ⟨s1, a, b⟩))).s, .int .i64 (leftS (someS wd ⟨s1, a, b⟩ && someS wd ⟨s1, a, b⟩) wd ⟨s2, c, d⟩ (fromS wd ⟨s1, a, b⟩) (negS wd (fromS wd ⟨s1, a, b⟩))).lo, .int .i64 (leftS (someS wd ⟨s1, a, b⟩ && someS wd ⟨s1, a, b⟩) wd ⟨s2, c, d⟩ (fromS wd ⟨s1, a, b⟩) (negS wd (fromS wd ⟨s1, a, b⟩))).hi]) ∧ Below w.heap.size w w' := by
  have H1 := hd (iLeft_sizeBack wd s1 s1 a b a b s2 c d)
  generalize leftS (someS wd ⟨s1, a, b⟩ && someS wd ⟨s1, a, b⟩) wd ⟨s2, c, d⟩ (fromS wd ⟨s1, a, b⟩) (negS wd (fromS wd ⟨s1, a, b⟩)) = R at *
  obtain ⟨r1, r2, r3⟩ := R
  dsimp only at H1
  have N := S3.made ((w.alloc (.cells #[.bool s1, .int .i64 a, .int .i64 b] 24)).alloc (.cells #[.bool s2, .int .i64 c, .int .i64 d] 24)) (w.heap.size + 1 + 1) (by simp) (.bool false) (.int .i64 0) (.int .i64 0) 24
  go_enter Tryz.func17, Tryz.ntmps17
  go_wp2_with fail
  refine (H1.out _).mono ?_
  rintro e w1 ⟨rfl, hb1⟩
  replace N := N.later hb1
  obtain ⟨⟨N0, N1, N2⟩, ⟨Nf, Ng, Nh⟩, Nz⟩ := id N
  go_wp2
  refine bodyPost_ret (v := .agg #[.bool r1, .int .i64 r2, .int .i64 r3]) ?_ rfl ⟨rfl, (by repeat (first | with_reducible exact Below.refl _ _ | with_reducible refine Below.drew ?_ | ((with_reducible refine Below.setCell ?_ ?_ _); rotate_left; (focus (first | (simp; done) | omega | (simp; omega)))) | with_reducible refine old_alloc ?_ _ | with_reducible refine old_trans ?_ (by with_reducible assumption)))⟩
  simp [results, Tryz.results17, go_sem, N0, N1, N2]
theorem left_one {wd : Int} (k : Bool) (hk : k = true → wd = 32 ∨ wd = 64) (x p : Sp) : leftS k wd x p nilS = if k then meetS wd x p else nilS := by
  unfold leftS metK
  cases k
  · exact hull_nil wd
  · have hw := hk rfl
    show hullS wd (meetS wd x p) (meetS wd x nilS) = meetS wd x p
    rw [meet_no2 x (some_nil wd)]
    exact hull_nil2 (meet_ok hw x p) hw
theorem k_w {wd : Int} {z y : Sp} (h : (someS wd z && someS wd y) = true) : wd = 32 ∨ wd = 64 := by
  simp only [Bool.and_eq_true] at h
  exact some_w h.1
theorem min_eq (wd : Int) (z y x : Sp) : leftS (someS wd z && someS wd y) wd x (lessP wd z y) nilS = minS wd z y x := by
  rw [left_one _ k_w]
  unfold minS lessP
  cases h : (someS wd z && someS wd y)
  · rfl
  · cases h3 : someS wd x
    · show meetS wd x _ = _
      rw [meet_no1 _ h3]; rfl
    · show meetS wd x _ = _
      rw [Bool.and_self, if_pos rfl]
      by_cases h1 : y.hi < z.lo
      · rw [if_pos h1, if_pos h1, meet_no2 x (some_nil wd)]
      · rw [if_neg h1, if_neg h1]
        by_cases h2 : z.hi < y.lo
        · rw [if_pos h2, if_pos h2]
        · rw [if_neg h2, if_neg h2]
theorem top_some {wd : Int} {z : Sp} (h : someS wd z = true) : someS wd ⟨true, z.lo, topI wd⟩ = true := by
  have hw := some_w h
  have q := pokB_in (some_in h).2
  have r := okB_in q.1
  have b := topI_bd wd
  have tp : 0 < topI wd := by rcases hw with rfl | rfl <;> decide
  have g2 : okB wd (topI wd) = true := decide_eq_true ⟨hw, by omega, by omega⟩
  have e : pokB wd z.lo (topI wd) = true := pokB_mk q.1 g2 r.2.2 q.2.2.2.1 (by omega)
  exact e
theorem meet_neg {wd : Int} {x p : Sp} (hx : someS wd x = true) (hp : someS wd p = true) : meetS wd x (negS wd p) = negS wd (meetS wd (negS wd x) p) := by
  rw [neg_yes hx, neg_yes hp]
  have hx' : someS wd ⟨true, -x.hi, -x.lo⟩ = true := by rw [← neg_yes hx, neg_some]; exact hx
  have hp' : someS wd ⟨true, -p.hi, -p.lo⟩ = true := by rw [← neg_yes hp, neg_some]; exact hp
  have e1 : meetS wd x ⟨true, -p.hi, -p.lo⟩ = ifS (decide (max x.lo (-p.hi) ≤ min x.hi (-p.lo))) (max x.lo (-p.hi)) (min x.hi (-p.lo)) := by
    unfold meetS; rw [both_some, hx, hp']; rfl
  have e2 : meetS wd ⟨true, -x.hi, -x.lo⟩ p = ifS (decide (max (-x.hi) p.lo ≤ min (-x.lo) p.hi)) (max (-x.hi) p.lo) (min (-x.lo) p.hi) := by
    unfold meetS; rw [both_some, hx', hp]; rfl
  have ok := meet_ok (some_w hx) ⟨true, -x.hi, -x.lo⟩ p
  rw [e2] at ok
  rw [e1, e2]
  by_cases h : max (-x.hi) p.lo ≤ min (-x.lo) p.hi
  · have h' : max x.lo (-p.hi) ≤ min x.hi (-p.lo) := by omega
    rw [decide_eq_true h] at ok
    rw [decide_eq_true h, decide_eq_true h', ifS_yes, ifS_yes]
    rw [neg_yes (show someS wd ⟨true, max (-x.hi) p.lo, min (-x.lo) p.hi⟩ = true from ok)]
    show Sp.mk true (max x.lo (-p.hi)) (min x.hi (-p.lo)) = Sp.mk true (-(min (-x.lo) p.hi)) (-(max (-x.hi) p.lo))
    rw [show -(min (-x.lo) p.hi) = max x.lo (-p.hi) by omega, show -(max (-x.hi) p.lo) = min x.hi (-p.lo) by omega]
  · have h' : ¬ max x.lo (-p.hi) ≤ min x.hi (-p.lo) := by omega
    rw [decide_eq_false h, decide_eq_false h']
    rfl
theorem max_eq (wd : Int) (z y x : Sp) : leftS (someS wd z && someS wd y) wd x (greatP wd z y) nilS = maxS wd z y x := by
  rw [left_one _ k_w]
  unfold maxS minS greatP
  rw [neg_some, neg_some, neg_some]
  cases h : (someS wd z && someS wd y)
  · rfl
  · cases h3 : someS wd x
    · show meetS wd x _ = _
      rw [meet_no1 _ h3]; rfl
    · show meetS wd x _ = _
      rw [Bool.and_self, if_pos rfl]
      have hz : someS wd (negS wd z) = true := by rw [neg_some]; simp only [Bool.and_eq_true] at h; exact h.1
      unfold lessP
      by_cases h1 : (negS wd y).hi < (negS wd z).lo
      · rw [if_pos h1, if_pos h1]
        exact meet_no2 x rfl
      · rw [if_neg h1, if_neg h1]
        by_cases h2 : (negS wd z).hi < (negS wd y).lo
        · rw [if_pos h2, if_pos h2]
          exact meet_neg h3 hz
        · rw [if_neg h2, if_neg h2]
          exact meet_neg h3 (top_some hz)
theorem abs_eq (wd : Int) (z x : Sp) : leftS (someS wd z && someS wd z) wd x (fromS wd z) (negS wd (fromS wd z)) = absBS wd z x := by
  unfold leftS metK absBS
  cases h : someS wd z
  · have e : fromS wd z = nilS := meet_no1 _ h
    rw [e, neg_no (some_nil wd), meet_no2 x (some_nil wd)]
    rfl
  · rfl
theorem iBackMin (wd : Int) (s1 s2 s3 : Bool) (a b c d f g : Int) (w : World) :
    Calls Tryz.prog 19 #[.int .i64 wd, .agg #[.bool s1, .int .i64 a, .int .i64 b], .agg #[.bool s2, .int .i64 c, .int .i64 d], .agg #[.bool s3, .int .i64 f, .int .i64 g]] w fun e w' => e = .returned (.agg #[.bool (minS wd ⟨s1, a, b⟩ ⟨s2, c, d⟩ ⟨s3, f, g⟩).s, .int .i64 (minS wd ⟨s1, a, b⟩ ⟨s2, c, d⟩ ⟨s3, f, g⟩).lo, .int .i64 (minS wd ⟨s1, a, b⟩ ⟨s2, c, d⟩ ⟨s3, f, g⟩).hi]) ∧ Below w.heap.size w w' := by
  rw [← min_eq]
  exact iBackMin0 wd s1 s2 s3 a b c d f g w
theorem iBackMax (wd : Int) (s1 s2 s3 : Bool) (a b c d f g : Int) (w : World) :
    Calls Tryz.prog 21 #[.int .i64 wd, .agg #[.bool s1, .int .i64 a, .int .i64 b], .agg #[.bool s2, .int .i64 c, .int .i64 d], .agg #[.bool s3, .int .i64 f, .int .i64 g]] w fun e w' => e = .returned (.agg #[.bool (maxS wd ⟨s1, a, b⟩ ⟨s2, c, d⟩ ⟨s3, f, g⟩).s, .int .i64 (maxS wd ⟨s1, a, b⟩ ⟨s2, c, d⟩ ⟨s3, f, g⟩).lo, .int .i64 (maxS wd ⟨s1, a, b⟩ ⟨s2, c, d⟩ ⟨s3, f, g⟩).hi]) ∧ Below w.heap.size w w' := by
  rw [← max_eq]
  exact iBackMax0 wd s1 s2 s3 a b c d f g w
theorem iBackAbs (wd : Int) (s1 s2 : Bool) (a b c d : Int) (w : World) :
    Calls Tryz.prog 17 #[.int .i64 wd, .agg #[.bool s1, .int .i64 a, .int .i64 b], .agg #[.bool s2, .int .i64 c, .int .i64 d]] w fun e w' => e = .returned (.agg #[.bool (absBS wd ⟨s1, a, b⟩ ⟨s2, c, d⟩).s, .int .i64 (absBS wd ⟨s1, a, b⟩ ⟨s2, c, d⟩).lo, .int .i64 (absBS wd ⟨s1, a, b⟩ ⟨s2, c, d⟩).hi]) ∧ Below w.heap.size w w' := by
  rw [← abs_eq]
  exact iBackAbs0 wd s1 s2 a b c d w
end Go.Proofs.YtpjagplloljefaaGreat
