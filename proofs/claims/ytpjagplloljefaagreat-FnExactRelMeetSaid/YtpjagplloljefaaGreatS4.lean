/- Spans: SpanAll and SpanHull of the program and of the specification; nothing that was there is written. -/
import Derived.Test.YtpjagplloljefaaGreatS2
namespace Go.Proofs.YtpjagplloljefaaGreat
open Go.RowKit
set_option linter.unusedVariables false
set_option maxRecDepth 100000

theorem Bnd.zero {w : World} {n : Nat} {ok : Bool} {lo hi : Int} {v : Value} (h : Bnd w n ok lo hi v) : Bnd w 0 ok lo hi v := by
  rcases h with h | ⟨h, b, e, g, c⟩
  · exact .inl h
  · exact .inr ⟨h, b, e, Nat.zero_le _, c⟩
theorem six_later {w w1 : World} {p q : Nat} {x y z u v t : Value} (h : w.cell? ⟨p, 0, none⟩ = some x ∧ w.cell? ⟨p, 1, none⟩ = some y ∧ w.cell? ⟨p, 2, none⟩ = some z ∧ w.cell? ⟨q, 0, none⟩ = some u ∧ w.cell? ⟨q, 1, none⟩ = some v ∧ w.cell? ⟨q, 2, none⟩ = some t) (hb : Below w.heap.size w w1) :
    w1.cell? ⟨p, 0, none⟩ = some x ∧ w1.cell? ⟨p, 1, none⟩ = some y ∧ w1.cell? ⟨p, 2, none⟩ = some z ∧ w1.cell? ⟨q, 0, none⟩ = some u ∧ w1.cell? ⟨q, 1, none⟩ = some v ∧ w1.cell? ⟨q, 2, none⟩ = some t :=
  ⟨cell_later hb h.1, cell_later hb h.2.1, cell_later hb h.2.2.1, cell_later hb h.2.2.2.1, cell_later hb h.2.2.2.2.1, cell_later hb h.2.2.2.2.2⟩

def allB (wd : Int) : Bool := isW wd
set_option maxHeartbeats 400000 in
theorem iSpanAll (wd : Int) (w : World) :
    Calls Tryz.prog 188 #[.int .i64 wd] w fun e w' => e = .returned (.agg #[.bool (isW wd), .int .i64 (-topI wd), .int .i64 (topI wd)]) ∧ Below w.heap.size w w' := by
  by_cases c1 : wd = 32
  · subst c1
    have m1 := meth_top_32
    go_enter Tryz.func188, Tryz.ntmps188
    go_wp2_with fail
    refine (formOf_32 _).mono ?_
    rintro e w1 ⟨rfl, hb1⟩
    have N := (S3.made w _ rfl (.bool false) (.int .i64 0) (.int .i64 0) 24).later hb1
    obtain ⟨⟨n0, n1, n2⟩, ⟨f0, f1, f2⟩, nz⟩ := id N
    have z1 : w.heap.size ≠ w1.heap.size := by omega
    have z2 : w.heap.size ≠ w1.heap.size + 1 := by omega
    go_wp2_with go_in
    refine bodyPost_ret (v := .agg #[.bool true, .int .i64 (-2139095040), .int .i64 2139095040]) ?_ rfl ⟨rfl, (by repeat (first | exact Below.refl _ _ | refine Below.drew ?_ | refine Below.setCell ?_ (by first | (simp; done) | omega | (simp; omega)) _ | refine old_alloc ?_ _ | refine old_trans ?_ (by assumption)))⟩
    obtain ⟨⟨r0, r1, r2⟩, -, -⟩ := ((N.stored (.bool true) (.int .i64 (-2139095040)) (.int .i64 2139095040)).alloc (.cells #[] 96)).alloc (.cells #[] 96)
    simp [results, Tryz.results188, go_sem, r0, r1, r2]
  by_cases c2 : wd = 64
  · subst c2
    have m1 := meth_top_64
    go_enter Tryz.func188, Tryz.ntmps188
    go_wp2_with fail
    refine (formOf_64 _).mono ?_
    rintro e w1 ⟨rfl, hb1⟩
    have N := (S3.made w _ rfl (.bool false) (.int .i64 0) (.int .i64 0) 24).later hb1
    obtain ⟨⟨n0, n1, n2⟩, ⟨f0, f1, f2⟩, nz⟩ := id N
    have z1 : w.heap.size ≠ w1.heap.size := by omega
    have z2 : w.heap.size ≠ w1.heap.size + 1 := by omega
    go_wp2_with go_in
    refine bodyPost_ret (v := .agg #[.bool true, .int .i64 (-9218868437227405312), .int .i64 9218868437227405312]) ?_ rfl ⟨rfl, (by repeat (first | exact Below.refl _ _ | refine Below.drew ?_ | refine Below.setCell ?_ (by first | (simp; done) | omega | (simp; omega)) _ | refine old_alloc ?_ _ | refine old_trans ?_ (by assumption)))⟩
    obtain ⟨⟨r0, r1, r2⟩, -, -⟩ := ((N.stored (.bool true) (.int .i64 (-9218868437227405312)) (.int .i64 9218868437227405312)).alloc (.cells #[] 99)).alloc (.cells #[] 99)
    simp [results, Tryz.results188, go_sem, r0, r1, r2]
  have H := hd (fun w => formOf_no wd w (by simp; omega) (by simp; omega))
  have e1 : isW wd = false := by unfold isW; simp [c1, c2]
  rw [topI_no c1 c2, e1]
  go_enter Tryz.func188, Tryz.ntmps188
  go_wp2_with fail
  refine (H.out _).mono ?_
  rintro e w1 ⟨rfl, hb1⟩
  have N := (S3.made w _ rfl (.bool false) (.int .i64 0) (.int .i64 0) 24).later hb1
  obtain ⟨⟨n0, n1, n2⟩, ⟨f0, f1, f2⟩, nz⟩ := id N
  go_wp2
  refine bodyPost_ret (v := .agg #[.bool false, .int .i64 0, .int .i64 0]) ?_ rfl ⟨rfl, (by repeat (first | exact Below.refl _ _ | refine Below.drew ?_ | refine Below.setCell ?_ (by first | (simp; done) | omega | (simp; omega)) _ | refine old_alloc ?_ _ | refine old_trans ?_ (by assumption)))⟩
  simp [results, Tryz.results188, go_sem, n0, n1, n2]

/-- the hull of two ok spans -/
def hulB (wd : Int) (s1 s2 : Bool) (a b c d : Int) : Bool := sokB wd s1 a b && (sokB wd s2 c d && (s1 || s2))
def hulL (wd : Int) (s1 s2 : Bool) (a b c d : Int) : Int := if hulB wd s1 s2 a b c d then hullLo s1 s2 a c else 0
def hulH (wd : Int) (s1 s2 : Bool) (a b c d : Int) : Int := if hulB wd s1 s2 a b c d then hullHi s1 s2 b d else 0
theorem hul_no1 {wd : Int} {s1 s2 : Bool} {a b c d : Int} (h : sokB wd s1 a b = false) : hulB wd s1 s2 a b c d = false := by unfold hulB; rw [h]; rfl
theorem hul_no2 {wd : Int} {s1 s2 : Bool} {a b c d : Int} (h : sokB wd s2 c d = false) : hulB wd s1 s2 a b c d = false := by unfold hulB; rw [h]; cases sokB wd s1 a b <;> rfl
theorem hul_yes {wd : Int} {s1 s2 : Bool} {a b c d : Int} (h1 : sokB wd s1 a b = true) (h2 : sokB wd s2 c d = true) : hulB wd s1 s2 a b c d = (s1 || s2) := by unfold hulB; rw [h1, h2]; rfl
theorem sok_some {wd : Int} {s : Bool} {a b : Int} (h : sokB wd s a b = true) : (s && pokB wd a b) = s := by
  cases s
  · rfl
  · exact h
theorem sok_none {wd : Int} {s : Bool} {a b : Int} (h : s = false) (g : sokB wd s a b = true) : a = 0 ∧ b = 0 := by
  subst h
  unfold sokB at g
  simp at g
  exact g.2
theorem ret_hul {r : Bool} {x y : Int} {wd : Int} {s1 s2 : Bool} {a b c d : Int} (h : hulB wd s1 s2 a b c d = r) (hx : (if r then hullLo s1 s2 a c else 0) = x) (hy : (if r then hullHi s1 s2 b d else 0) = y) :
    Ending.returned (.agg #[.bool r, .int .i64 x, .int .i64 y]) = .returned (.agg #[.bool (hulB wd s1 s2 a b c d), .int .i64 (hulL wd s1 s2 a b c d), .int .i64 (hulH wd s1 s2 a b c d)]) := by
  unfold hulL hulH; rw [h, hx, hy]

set_option maxHeartbeats 4000000 in
theorem iSpanHull (wd : Int) (s1 s2 : Bool) (a b c d : Int) (w : World) :
    Calls Tryz.prog 53 #[.int .i64 wd, .agg #[.bool s1, .int .i64 a, .int .i64 b], .agg #[.bool s2, .int .i64 c, .int .i64 d]] w fun e w' => e = .returned (.agg #[.bool (hulB wd s1 s2 a b c d), .int .i64 (hulL wd s1 s2 a b c d), .int .i64 (hulH wd s1 s2 a b c d)]) ∧ Below w.heap.size w w' := by
  have H1 := hd (iSpanOk wd s1 a b)
  have H2 := hd (iSpanOk wd s2 c d)
  have R0 := hd (fun r x y h hx hy => @ret_hul r x y wd s1 s2 a b c d h hx hy)
  have n1 := hd (@hul_no1 wd s1 s2 a b c d)
  have n2 := hd (@hul_no2 wd s1 s2 a b c d)
  have n3 := hd (@hul_yes wd s1 s2 a b c d)
  have g1 := hd (@sok_some wd s1 a b)
  have g2 := hd (@sok_some wd s2 c d)
  have B1 := hd (iBoundsOf wd s1 a b)
  have B2 := hd (iBoundsOf wd s2 c d)
  generalize sokB wd s1 a b = q1 at *
  generalize sokB wd s2 c d = q2 at *
  generalize (s1 && pokB wd a b) = r1 at *
  generalize (s2 && pokB wd c d) = r2 at *
  generalize hulB wd s1 s2 a b c d = r at *
  generalize hulL wd s1 s2 a b c d = x at *
  generalize hulH wd s1 s2 a b c d = y at *
  go_enter Tryz.func53, Tryz.ntmps53
  have K0 := ((S3.made w _ rfl (.bool s1) (.int .i64 a) (.int .i64 b) 24).alloc (.cells #[.bool s2, .int .i64 c, .int .i64 d] 24)).alloc (.cells #[.bool false, .int .i64 0, .int .i64 0] 24)
  have M0 := (S3.made (w.alloc (.cells #[.bool s1, .int .i64 a, .int .i64 b] 24)) (w.heap.size + 1) (by simp) (.bool s2) (.int .i64 c) (.int .i64 d) 24).alloc (.cells #[.bool false, .int .i64 0, .int .i64 0] 24)
  have N0 := S3.made ((w.alloc (.cells #[.bool s1, .int .i64 a, .int .i64 b] 24)).alloc (.cells #[.bool s2, .int .i64 c, .int .i64 d] 24)) (w.heap.size + 1 + 1) (by simp) (.bool false) (.int .i64 0) (.int .i64 0) 24
  go_wp2_with fail
  refine (H1.out _).mono ?_
  rintro e w1 ⟨rfl, hb1⟩
  have K := K0.later hb1
  have M := M0.later hb1
  have N := N0.later hb1
  clear K0 M0 N0
  obtain ⟨⟨k0, k1, k2⟩, -, kz⟩ := id K
  obtain ⟨⟨m0, m1, m2⟩, -, mz⟩ := id M
  obtain ⟨⟨e0, e1, e2⟩, ⟨f0, f1, f2⟩, nz⟩ := id N
  cases q1
  · go_wp2
    refine bodyPost_ret (v := .agg #[.bool false, .int .i64 0, .int .i64 0]) ?_ rfl ⟨R0.out _ _ _ (n1.out (by first | rfl | trivial)) rfl rfl, (by repeat (first | exact Below.refl _ _ | refine Below.drew ?_ | refine Below.setCell ?_ (by first | (simp; done) | omega | (simp; omega)) _ | refine old_alloc ?_ _ | refine old_trans ?_ (by assumption)))⟩
    simp [results, Tryz.results53, go_sem, e0, e1, e2]
  clear k0 k1 k2 kz e0 e1 e2 f0 f1 f2 nz
  go_wp2_with fail
  refine (H2.out _).mono ?_
  rintro e w2 ⟨rfl, hb2⟩
  replace K := K.later hb2
  replace M := M.later hb2
  replace N := N.later hb2
  clear m0 m1 m2 mz
  obtain ⟨⟨k0, k1, k2⟩, -, kz⟩ := id K
  obtain ⟨⟨m0, m1, m2⟩, -, mz⟩ := id M
  obtain ⟨⟨e0, e1, e2⟩, ⟨f0, f1, f2⟩, nz⟩ := id N
  cases q2
  · go_wp2
    refine bodyPost_ret (v := .agg #[.bool false, .int .i64 0, .int .i64 0]) ?_ rfl ⟨R0.out _ _ _ (n2.out (by first | rfl | trivial)) rfl rfl, (by repeat (first | exact Below.refl _ _ | refine Below.drew ?_ | refine Below.setCell ?_ (by first | (simp; done) | omega | (simp; omega)) _ | refine old_alloc ?_ _ | refine old_trans ?_ (by assumption)))⟩
    simp [results, Tryz.results53, go_sem, e0, e1, e2]
  obtain rfl := (g1.out (by first | rfl | trivial)).symm
  obtain rfl := (g2.out (by first | rfl | trivial)).symm
  clear e0 e1 e2 f0 f1 f2 nz K M
  have C1 := hd (fun w' (hS : w'.cell? ⟨w.heap.size, 0, none⟩ = some (.bool s1) ∧ w'.cell? ⟨w.heap.size, 1, none⟩ = some (.int .i64 a) ∧ w'.cell? ⟨w.heap.size, 2, none⟩ = some (.int .i64 b) ∧ w'.cell? ⟨w.heap.size + 1, 0, none⟩ = some (.bool s2) ∧ w'.cell? ⟨w.heap.size + 1, 1, none⟩ = some (.int .i64 c) ∧ w'.cell? ⟨w.heap.size + 1, 2, none⟩ = some (.int .i64 d)) => (B1.out w').mono (fun e w'' (k : _ ∧ _) => (⟨k, six_later hS k.2⟩ : (_ ∧ _) ∧ (w''.cell? ⟨w.heap.size, 0, none⟩ = some (.bool s1) ∧ w''.cell? ⟨w.heap.size, 1, none⟩ = some (.int .i64 a) ∧ w''.cell? ⟨w.heap.size, 2, none⟩ = some (.int .i64 b) ∧ w''.cell? ⟨w.heap.size + 1, 0, none⟩ = some (.bool s2) ∧ w''.cell? ⟨w.heap.size + 1, 1, none⟩ = some (.int .i64 c) ∧ w''.cell? ⟨w.heap.size + 1, 2, none⟩ = some (.int .i64 d)))))
  have C2 := hd (fun w' (hS : w'.cell? ⟨w.heap.size, 0, none⟩ = some (.bool s1) ∧ w'.cell? ⟨w.heap.size, 1, none⟩ = some (.int .i64 a) ∧ w'.cell? ⟨w.heap.size, 2, none⟩ = some (.int .i64 b) ∧ w'.cell? ⟨w.heap.size + 1, 0, none⟩ = some (.bool s2) ∧ w'.cell? ⟨w.heap.size + 1, 1, none⟩ = some (.int .i64 c) ∧ w'.cell? ⟨w.heap.size + 1, 2, none⟩ = some (.int .i64 d)) => (B2.out w').mono (fun e w'' (k : _ ∧ _) => (⟨k, six_later hS k.2⟩ : (_ ∧ _) ∧ (w''.cell? ⟨w.heap.size, 0, none⟩ = some (.bool s1) ∧ w''.cell? ⟨w.heap.size, 1, none⟩ = some (.int .i64 a) ∧ w''.cell? ⟨w.heap.size, 2, none⟩ = some (.int .i64 b) ∧ w''.cell? ⟨w.heap.size + 1, 0, none⟩ = some (.bool s2) ∧ w''.cell? ⟨w.heap.size + 1, 1, none⟩ = some (.int .i64 c) ∧ w''.cell? ⟨w.heap.size + 1, 2, none⟩ = some (.int .i64 d)))))
  have HU := hd (fun x y w' h1 h2 (hS : w'.cell? ⟨w.heap.size, 0, none⟩ = some (.bool s1) ∧ w'.cell? ⟨w.heap.size, 1, none⟩ = some (.int .i64 a) ∧ w'.cell? ⟨w.heap.size, 2, none⟩ = some (.int .i64 b) ∧ w'.cell? ⟨w.heap.size + 1, 0, none⟩ = some (.bool s2) ∧ w'.cell? ⟨w.heap.size + 1, 1, none⟩ = some (.int .i64 c) ∧ w'.cell? ⟨w.heap.size + 1, 2, none⟩ = some (.int .i64 d)) => (iBHull 0 s1 s2 a b c d x y w' h1 h2 (Nat.zero_le _)).mono (fun e w'' (k : _ ∧ _) => (⟨k, six_later hS k.2⟩ : (_ ∧ _) ∧ (w''.cell? ⟨w.heap.size, 0, none⟩ = some (.bool s1) ∧ w''.cell? ⟨w.heap.size, 1, none⟩ = some (.int .i64 a) ∧ w''.cell? ⟨w.heap.size, 2, none⟩ = some (.int .i64 b) ∧ w''.cell? ⟨w.heap.size + 1, 0, none⟩ = some (.bool s2) ∧ w''.cell? ⟨w.heap.size + 1, 1, none⟩ = some (.int .i64 c) ∧ w''.cell? ⟨w.heap.size + 1, 2, none⟩ = some (.int .i64 d)))))
  have SU := hd (fun x w' h (hS : w'.cell? ⟨w.heap.size, 0, none⟩ = some (.bool s1) ∧ w'.cell? ⟨w.heap.size, 1, none⟩ = some (.int .i64 a) ∧ w'.cell? ⟨w.heap.size, 2, none⟩ = some (.int .i64 b) ∧ w'.cell? ⟨w.heap.size + 1, 0, none⟩ = some (.bool s2) ∧ w'.cell? ⟨w.heap.size + 1, 1, none⟩ = some (.int .i64 c) ∧ w'.cell? ⟨w.heap.size + 1, 2, none⟩ = some (.int .i64 d)) => (iBSpan 0 (s1 || s2) (hullLo s1 s2 a c) (hullHi s1 s2 b d) x w' h).mono (fun e w'' (k : _ ∧ _) => (⟨k, six_later hS k.2⟩ : (_ ∧ _) ∧ (w''.cell? ⟨w.heap.size, 0, none⟩ = some (.bool s1) ∧ w''.cell? ⟨w.heap.size, 1, none⟩ = some (.int .i64 a) ∧ w''.cell? ⟨w.heap.size, 2, none⟩ = some (.int .i64 b) ∧ w''.cell? ⟨w.heap.size + 1, 0, none⟩ = some (.bool s2) ∧ w''.cell? ⟨w.heap.size + 1, 1, none⟩ = some (.int .i64 c) ∧ w''.cell? ⟨w.heap.size + 1, 2, none⟩ = some (.int .i64 d)))))
  have R1 := R0.out _ _ _ (n3.out (by first | rfl | trivial) (by first | rfl | trivial)) rfl rfl
  clear R0 n1 n2 n3 g1 g2 H1 H2 B1 B2
  have z1 : w.heap.size ≠ w.heap.size + 1 + 1 := by omega
  have z2 : w.heap.size + 1 + 1 ≠ w.heap.size := by omega
  generalize hullLo s1 s2 a c = X0 at *
  generalize hullHi s1 s2 b d = Y0 at *
  generalize (if (s1 || s2) = true then X0 else 0) = X at *
  generalize (if (s1 || s2) = true then Y0 else 0) = Y at *
  generalize (s1 || s2) = g at *
  go_wp2_with fail
  go_region_held3 (fun w' => w'.cell? ⟨w.heap.size, 0, none⟩ = some (.bool s1) ∧ w'.cell? ⟨w.heap.size, 1, none⟩ = some (.int .i64 a) ∧ w'.cell? ⟨w.heap.size, 2, none⟩ = some (.int .i64 b) ∧ w'.cell? ⟨w.heap.size + 1, 0, none⟩ = some (.bool s2) ∧ w'.cell? ⟨w.heap.size + 1, 1, none⟩ = some (.int .i64 c) ∧ w'.cell? ⟨w.heap.size + 1, 2, none⟩ = some (.int .i64 d)) (go_keep) (first | (go_at_call_of 55 (Value.agg #[.bool s1, .int .i64 a, .int .i64 b]); refine (C1.out _ (by assumption)).mono ?_; rintro e wx ⟨⟨⟨vx, rfl, V⟩, hbx⟩, hcx⟩; replace V := V.zero; have N := (by first | exact N.later hbx | exact N.drew.later hbx : S3 wx _ _ _ _); (first | have U := (by first | exact U.later hbx | exact U.drew.later hbx : Bnd wx _ _ _ _ _) | skip)) | (go_at_call_of 55 (Value.agg #[.bool s2, .int .i64 c, .int .i64 d]); refine (C2.out _ (by assumption)).mono ?_; rintro e wx ⟨⟨⟨ux, rfl, U⟩, hbx⟩, hcx⟩; replace U := U.zero; have N := (by first | exact N.later hbx | exact N.drew.later hbx : S3 wx _ _ _ _); (first | have V := (by first | exact V.later hbx | exact V.drew.later hbx : Bnd wx _ _ _ _ _) | skip)) | (go_at_call 63; refine (HU.out _ _ _ (by first | exact V | exact V.drew) (by first | exact U | exact U.drew) (by assumption)).mono ?_; rintro e wx ⟨⟨⟨zx, rfl, Z⟩, hbx⟩, hcx⟩; have N := (by first | exact N.later hbx | exact N.drew.later hbx : S3 wx _ _ _ _)) | (go_at_call 45; refine (SU.out _ _ (by first | exact Z | exact Z.drew) (by assumption)).mono ?_; rintro e wx ⟨⟨rfl, hbx⟩, hcx⟩; have N := (by first | exact N.later hbx | exact N.drew.later hbx : S3 wx _ _ _ _); obtain ⟨⟨e0, e1, e2⟩, ⟨f0, f1, f2⟩, nz⟩ := id N))
  all_goals
    go_wp2
    refine bodyPost_ret (v := .agg #[.bool g, .int .i64 X, .int .i64 Y]) ?_ rfl ⟨R1, (by repeat (first | exact Below.refl _ _ | refine Below.drew ?_ | refine Below.setCell ?_ (by first | (simp; done) | omega | (simp; omega)) _ | refine old_alloc ?_ _ | refine old_trans ?_ (by assumption)))⟩
    simp [results, Tryz.results53, go_sem, e0, e1, e2]

set_option maxHeartbeats 4000000 in
theorem sSpanHull (wd : Int) (s1 s2 : Bool) (a b c d : Int) (w : World) :
    Calls Tryz.prog 39 #[.int .i64 wd, .agg #[.bool s1, .int .i64 a, .int .i64 b], .agg #[.bool s2, .int .i64 c, .int .i64 d]] w fun e w' => e = .returned (.agg #[.bool (hulB wd s1 s2 a b c d), .int .i64 (hulL wd s1 s2 a b c d), .int .i64 (hulH wd s1 s2 a b c d)]) ∧ Below w.heap.size w w' := by
  have H1 := hd (sSpanOk wd s1 a b)
  have H2 := hd (sSpanOk wd s2 c d)
  have R0 := hd (fun r x y h hx hy => @ret_hul r x y wd s1 s2 a b c d h hx hy)
  have n1 := hd (@hul_no1 wd s1 s2 a b c d)
  have n2 := hd (@hul_no2 wd s1 s2 a b c d)
  have n3 := hd (@hul_yes wd s1 s2 a b c d)
  have hz2 := hd (fun (h : s2 = false) (g : sokB wd s2 c d = true) => (sok_none h g : c = 0 ∧ d = 0))
  generalize sokB wd s1 a b = q1 at *
  generalize sokB wd s2 c d = q2 at *
  generalize hulB wd s1 s2 a b c d = r at *
  generalize hulL wd s1 s2 a b c d = x at *
  generalize hulH wd s1 s2 a b c d = y at *
  go_enter Tryz.func39, Tryz.ntmps39
  have K0 := ((S3.made w _ rfl (.bool s1) (.int .i64 a) (.int .i64 b) 24).alloc (.cells #[.bool s2, .int .i64 c, .int .i64 d] 24)).alloc (.cells #[.bool false, .int .i64 0, .int .i64 0] 24)
  have M0 := (S3.made (w.alloc (.cells #[.bool s1, .int .i64 a, .int .i64 b] 24)) (w.heap.size + 1) (by simp) (.bool s2) (.int .i64 c) (.int .i64 d) 24).alloc (.cells #[.bool false, .int .i64 0, .int .i64 0] 24)
  have N0 := S3.made ((w.alloc (.cells #[.bool s1, .int .i64 a, .int .i64 b] 24)).alloc (.cells #[.bool s2, .int .i64 c, .int .i64 d] 24)) (w.heap.size + 1 + 1) (by simp) (.bool false) (.int .i64 0) (.int .i64 0) 24
  go_wp2_with fail
  refine (H1.out _).mono ?_
  rintro e w1 ⟨rfl, hb1⟩
  have K := K0.later hb1
  have M := M0.later hb1
  have N := N0.later hb1
  clear K0 M0 N0
  obtain ⟨⟨k0, k1, k2⟩, -, kz⟩ := id K
  obtain ⟨⟨m0, m1, m2⟩, -, mz⟩ := id M
  obtain ⟨⟨e0, e1, e2⟩, ⟨f0, f1, f2⟩, nz⟩ := id N
  cases q1
  · go_wp2
    refine bodyPost_ret (v := .agg #[.bool false, .int .i64 0, .int .i64 0]) ?_ rfl ⟨R0.out _ _ _ (n1.out (by first | rfl | trivial)) rfl rfl, (by repeat (first | exact Below.refl _ _ | refine Below.drew ?_ | refine Below.setCell ?_ (by first | (simp; done) | omega | (simp; omega)) _ | refine old_alloc ?_ _ | refine old_trans ?_ (by assumption)))⟩
    simp [results, Tryz.results39, go_sem, e0, e1, e2]
  clear k0 k1 k2 kz e0 e1 e2 f0 f1 f2 nz
  go_wp2_with fail
  refine (H2.out _).mono ?_
  rintro e w2 ⟨rfl, hb2⟩
  replace K := K.later hb2
  replace M := M.later hb2
  replace N := N.later hb2
  clear m0 m1 m2 mz
  obtain ⟨⟨k0, k1, k2⟩, -, kz⟩ := id K
  obtain ⟨⟨m0, m1, m2⟩, -, mz⟩ := id M
  obtain ⟨⟨e0, e1, e2⟩, ⟨f0, f1, f2⟩, nz⟩ := id N
  cases q2
  · go_wp2
    refine bodyPost_ret (v := .agg #[.bool false, .int .i64 0, .int .i64 0]) ?_ rfl ⟨R0.out _ _ _ (n2.out (by first | rfl | trivial)) rfl rfl, (by repeat (first | exact Below.refl _ _ | refine Below.drew ?_ | refine Below.setCell ?_ (by first | (simp; done) | omega | (simp; omega)) _ | refine old_alloc ?_ _ | refine old_trans ?_ (by assumption)))⟩
    simp [results, Tryz.results39, go_sem, e0, e1, e2]
  cases s1
  · have R1 := R0.out _ _ _ (n3.out (by first | rfl | trivial) (by first | rfl | trivial)) rfl rfl
    have gx : (if (false || s2) = true then hullLo false s2 a c else 0) = (if s2 = true then c else 0) := by cases s2 <;> rfl
    have gy : (if (false || s2) = true then hullHi false s2 b d else 0) = (if s2 = true then d else 0) := by cases s2 <;> rfl
    rw [gx, gy] at R1
    cases s2
    · have hz := hd (hz2.out rfl (by first | rfl | trivial))
      go_wp2
      refine bodyPost_ret (v := .agg #[.bool false, .int .i64 c, .int .i64 d]) ?_ rfl ⟨?_, (by repeat (first | exact Below.refl _ _ | refine Below.drew ?_ | refine Below.setCell ?_ (by first | (simp; done) | omega | (simp; omega)) _ | refine old_alloc ?_ _ | refine old_trans ?_ (by assumption)))⟩
      · simp [results, Tryz.results39, go_sem, e0, e1, e2]
      · obtain ⟨rfl, rfl⟩ := hz.out
        exact R1
    · go_wp2
      refine bodyPost_ret (v := .agg #[.bool true, .int .i64 c, .int .i64 d]) ?_ rfl ⟨R1, (by repeat (first | exact Below.refl _ _ | refine Below.drew ?_ | refine Below.setCell ?_ (by first | (simp; done) | omega | (simp; omega)) _ | refine old_alloc ?_ _ | refine old_trans ?_ (by assumption)))⟩
      simp [results, Tryz.results39, go_sem, e0, e1, e2]
  cases s2
  · have R1 := R0.out _ _ _ (n3.out (by first | rfl | trivial) (by first | rfl | trivial)) rfl rfl
    go_wp2
    refine bodyPost_ret (v := .agg #[.bool true, .int .i64 a, .int .i64 b]) ?_ rfl ⟨R1, (by repeat (first | exact Below.refl _ _ | refine Below.drew ?_ | refine Below.setCell ?_ (by first | (simp; done) | omega | (simp; omega)) _ | refine old_alloc ?_ _ | refine old_trans ?_ (by assumption)))⟩
    simp [results, Tryz.results39, go_sem, e0, e1, e2]
  have R1 := R0.out _ _ _ (n3.out (by first | rfl | trivial) (by first | rfl | trivial)) rfl rfl
  have gx : (if (true || true) = true then hullLo true true a c else 0) = min a c := rfl
  have gy : (if (true || true) = true then hullHi true true b d else 0) = max b d := rfl
  rw [gx, gy] at R1
  have z1 : w.heap.size ≠ w.heap.size + 1 + 1 := by omega
  have z2 : w.heap.size + 1 + 1 ≠ w.heap.size := by omega
  have P1 := hd (sMin a c)
  have P2 := hd (sMax b d)
  have P3 := hd (sOfL (min a c) (max b d))
  generalize min a c = X at *
  generalize max b d = Y at *
  have C3 := hd (fun w' (hS : w'.cell? ⟨w.heap.size, 0, none⟩ = some (.bool true) ∧ w'.cell? ⟨w.heap.size, 1, none⟩ = some (.int .i64 a) ∧ w'.cell? ⟨w.heap.size, 2, none⟩ = some (.int .i64 b) ∧ w'.cell? ⟨w.heap.size + 1, 0, none⟩ = some (.bool true) ∧ w'.cell? ⟨w.heap.size + 1, 1, none⟩ = some (.int .i64 c) ∧ w'.cell? ⟨w.heap.size + 1, 2, none⟩ = some (.int .i64 d)) => (P3.out w').mono (fun e w'' (k : _ ∧ _) => (⟨k, six_later hS k.2⟩ : (_ ∧ _) ∧ (w''.cell? ⟨w.heap.size, 0, none⟩ = some (.bool true) ∧ w''.cell? ⟨w.heap.size, 1, none⟩ = some (.int .i64 a) ∧ w''.cell? ⟨w.heap.size, 2, none⟩ = some (.int .i64 b) ∧ w''.cell? ⟨w.heap.size + 1, 0, none⟩ = some (.bool true) ∧ w''.cell? ⟨w.heap.size + 1, 1, none⟩ = some (.int .i64 c) ∧ w''.cell? ⟨w.heap.size + 1, 2, none⟩ = some (.int .i64 d)))))
  clear R0 n1 n2 n3 H1 H2 K M P3 hz2 gx gy e0 e1 e2 f0 f1 f2 nz
  go_wp2_with fail
  go_region_held3 (fun w' => w'.cell? ⟨w.heap.size, 0, none⟩ = some (.bool true) ∧ w'.cell? ⟨w.heap.size, 1, none⟩ = some (.int .i64 a) ∧ w'.cell? ⟨w.heap.size, 2, none⟩ = some (.int .i64 b) ∧ w'.cell? ⟨w.heap.size + 1, 0, none⟩ = some (.bool true) ∧ w'.cell? ⟨w.heap.size + 1, 1, none⟩ = some (.int .i64 c) ∧ w'.cell? ⟨w.heap.size + 1, 2, none⟩ = some (.int .i64 d)) (go_keep) (first | (go_at_call 48; refine (P1.out _).mono ?_; rintro e w1 ⟨rfl, rfl⟩) | (go_at_call 47; refine (P2.out _).mono ?_; rintro e w1 ⟨rfl, rfl⟩) | (go_at_call 34; refine (C3.out _ (by assumption)).mono ?_; rintro e wx ⟨⟨rfl, hbx⟩, hcx⟩; have N := (by first | exact N.later hbx | exact N.drew.later hbx : S3 wx _ _ _ _); obtain ⟨⟨e0, e1, e2⟩, ⟨f0, f1, f2⟩, nz⟩ := id N))
  all_goals
    go_wp2
    refine bodyPost_ret (v := .agg #[.bool true, .int .i64 X, .int .i64 Y]) ?_ rfl ⟨R1, (by repeat (first | exact Below.refl _ _ | refine Below.drew ?_ | refine Below.setCell ?_ (by first | (simp; done) | omega | (simp; omega)) _ | refine old_alloc ?_ _ | refine old_trans ?_ (by assumption)))⟩
    simp [results, Tryz.results39, go_sem, e0, e1, e2]
end Go.Proofs.YtpjagplloljefaaGreat
