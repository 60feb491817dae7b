/- What goes back, by the specification: lesser, greater, size; nothing that was there is written. -/
import Derived.Test.YtpjagplloljefaaGreatRB
namespace Go.Proofs.YtpjagplloljefaaGreat
open Go.RowKit
set_option linter.unusedVariables false
set_option maxRecDepth 100000

set_option maxHeartbeats 2000000 in
theorem sThree (wd : Int) (s1 s2 s3 : Bool) (a b c d f g : Int) (w : World) :
    Calls Tryz.prog 41 #[.int .i64 wd, .agg #[.bool s1, .int .i64 a, .int .i64 b], .agg #[.bool s2, .int .i64 c, .int .i64 d], .agg #[.bool s3, .int .i64 f, .int .i64 g]] w fun e w' => e = .returned (.bool ((someS wd ⟨s1, a, b⟩ && someS wd ⟨s2, c, d⟩) && someS wd ⟨s3, f, g⟩)) ∧ Below w.heap.size w w' := by
  have H1 := hd (sBoth wd s1 s2 a b c d)
  have H2 := hd (sSpanOk wd s3 f g)
  have h0 : Hid (bothB wd s1 s2 a b c d = (someS wd ⟨s1, a, b⟩ && someS wd ⟨s2, c, d⟩)) := rfl
  have h3 : Hid ((sokB wd s3 f g && s3) = someS wd ⟨s3, f, g⟩) := by show _ = _; unfold sokB someS; cases s3 <;> simp
  rw [h0.out] at H1
  generalize (someS wd ⟨s1, a, b⟩ && someS wd ⟨s2, c, d⟩) = q at *
  generalize someS wd ⟨s3, f, g⟩ = r at *
  generalize sokB wd s3 f g = o at *
  have K := ((S3.made w _ rfl (.bool s1) (.int .i64 a) (.int .i64 b) 24).alloc (.cells #[.bool s2, .int .i64 c, .int .i64 d] 24)).alloc (.cells #[.bool s3, .int .i64 f, .int .i64 g] 24)
  have M := (S3.made (w.alloc (.cells #[.bool s1, .int .i64 a, .int .i64 b] 24)) (w.heap.size + 1) (by simp) (.bool s2) (.int .i64 c) (.int .i64 d) 24).alloc (.cells #[.bool s3, .int .i64 f, .int .i64 g] 24)
  have L := S3.made ((w.alloc (.cells #[.bool s1, .int .i64 a, .int .i64 b] 24)).alloc (.cells #[.bool s2, .int .i64 c, .int .i64 d] 24)) (w.heap.size + 1 + 1) (by simp) (.bool s3) (.int .i64 f) (.int .i64 g) 24
  obtain ⟨⟨K0, K1, K2⟩, -, Kz⟩ := id K
  obtain ⟨⟨M0, M1, M2⟩, -, Mz⟩ := id M
  obtain ⟨⟨L0, L1, L2⟩, -, Lz⟩ := id L
  go_enter Tryz.func41, Tryz.ntmps41
  go_wp2_with fail
  refine (H1.out _).mono ?_
  rintro e w1 ⟨rfl, hb1⟩
  replace K := K.later hb1
  replace M := M.later hb1
  replace L := L.later hb1
  clear K0 K1 K2 Kz M0 M1 M2 Mz L0 L1 L2 Lz
  obtain ⟨⟨K0, K1, K2⟩, -, Kz⟩ := id K
  obtain ⟨⟨M0, M1, M2⟩, -, Mz⟩ := id M
  obtain ⟨⟨L0, L1, L2⟩, -, Lz⟩ := id L
  cases q
  · go_wp2
    go_ret
    exact ⟨rfl, (by repeat (first | exact Below.refl _ _ | refine Below.drew ?_ | refine old_alloc ?_ _ | refine old_trans ?_ (by assumption)))⟩
  go_wp2_with fail
  refine (H2.out _).mono ?_
  rintro e w2 ⟨rfl, hb2⟩
  replace K := K.later hb2
  replace M := M.later hb2
  replace L := L.later hb2
  clear K0 K1 K2 Kz M0 M1 M2 Mz L0 L1 L2 Lz
  obtain ⟨⟨K0, K1, K2⟩, -, Kz⟩ := id K
  obtain ⟨⟨M0, M1, M2⟩, -, Mz⟩ := id M
  obtain ⟨⟨L0, L1, L2⟩, -, Lz⟩ := id L
  cases o
  · go_wp2
    go_ret
    exact ⟨ret_b2 (by rw [← h3.out]; rfl), (by repeat (first | exact Below.refl _ _ | refine Below.drew ?_ | refine old_alloc ?_ _ | refine old_trans ?_ (by assumption)))⟩
  go_wp2
  go_ret
  exact ⟨ret_b2 (by rw [← h3.out]; simp), (by repeat (first | exact Below.refl _ _ | refine Below.drew ?_ | refine old_alloc ?_ _ | refine old_trans ?_ (by assumption)))⟩
set_option maxHeartbeats 4000000 in
theorem sFrom (wd : Int) (s1 : Bool) (a b : Int) (w : World) :
    Calls Tryz.prog 38 #[.int .i64 wd, .agg #[.bool s1, .int .i64 a, .int .i64 b]] w fun e w' => e = .returned (.agg #[.bool (fromS wd ⟨s1, a, b⟩).s, .int .i64 (fromS wd ⟨s1, a, b⟩).lo, .int .i64 (fromS wd ⟨s1, a, b⟩).hi]) ∧ Below w.heap.size w w' := by
  have H0 := hd (sTop wd)
  have H1 := hd (sOfL 0 (topI wd))
  have H2 := hd (sMeetS wd s1 true a b 0 (topI wd))
  rw [show meetS wd ⟨s1, a, b⟩ ⟨true, 0, topI wd⟩ = fromS wd ⟨s1, a, b⟩ from rfl] at H2
  generalize fromS wd ⟨s1, a, b⟩ = r at *
  obtain ⟨r, x, y⟩ := r
  dsimp only at *
  generalize topI wd = t at *
  have K := (S3.made w _ rfl (.bool s1) (.int .i64 a) (.int .i64 b) 24).alloc (.cells #[.bool false, .int .i64 0, .int .i64 0] 24)
  have N := S3.made (w.alloc (.cells #[.bool s1, .int .i64 a, .int .i64 b] 24)) (w.heap.size + 1) (by simp) (.bool false) (.int .i64 0) (.int .i64 0) 24
  obtain ⟨⟨k0, k1, k2⟩, -, kz⟩ := id K
  have C1 := hd (fun w' (hS : w'.cell? ⟨w.heap.size, 0, none⟩ = some (.bool s1) ∧ w'.cell? ⟨w.heap.size, 1, none⟩ = some (.int .i64 a) ∧ w'.cell? ⟨w.heap.size, 2, none⟩ = some (.int .i64 b)) => (H1.out w').mono (fun e w'' (k : _ ∧ _) => (⟨k, ⟨cell_later k.2 hS.1, cell_later k.2 hS.2.1, cell_later k.2 hS.2.2⟩⟩ : (_ ∧ _) ∧ (w''.cell? ⟨w.heap.size, 0, none⟩ = some (.bool s1) ∧ w''.cell? ⟨w.heap.size, 1, none⟩ = some (.int .i64 a) ∧ w''.cell? ⟨w.heap.size, 2, none⟩ = some (.int .i64 b)))))
  have C2 := hd (fun w' (hS : w'.cell? ⟨w.heap.size, 0, none⟩ = some (.bool s1) ∧ w'.cell? ⟨w.heap.size, 1, none⟩ = some (.int .i64 a) ∧ w'.cell? ⟨w.heap.size, 2, none⟩ = some (.int .i64 b)) => (H2.out w').mono (fun e w'' (k : _ ∧ _) => (⟨k, ⟨cell_later k.2 hS.1, cell_later k.2 hS.2.1, cell_later k.2 hS.2.2⟩⟩ : (_ ∧ _) ∧ (w''.cell? ⟨w.heap.size, 0, none⟩ = some (.bool s1) ∧ w''.cell? ⟨w.heap.size, 1, none⟩ = some (.int .i64 a) ∧ w''.cell? ⟨w.heap.size, 2, none⟩ = some (.int .i64 b)))))
  clear H1 H2
  have z1 : w.heap.size ≠ w.heap.size + 1 := by omega
  have z2 : w.heap.size + 1 ≠ w.heap.size := by omega
  go_enter Tryz.func38, Tryz.ntmps38
  go_wp2_with fail
  go_region_held3 (fun w' => w'.cell? ⟨w.heap.size, 0, none⟩ = some (.bool s1) ∧ w'.cell? ⟨w.heap.size, 1, none⟩ = some (.int .i64 a) ∧ w'.cell? ⟨w.heap.size, 2, none⟩ = some (.int .i64 b)) (go_keep) (first | (go_at_call 35; refine (H0.out _).mono ?_; rintro e w1 ⟨rfl, rfl⟩) | (go_at_call 34; refine (C1.out _ (by assumption)).mono ?_; rintro e wx ⟨⟨rfl, hbx⟩, hcx⟩; have N := (by first | exact N.later hbx | exact N.drew.later hbx : S3 wx _ _ _ _); obtain ⟨⟨N0, N1, N2⟩, ⟨Nf, Ng, Nh⟩, Nz⟩ := id N) | (go_at_call 22; refine (C2.out _ (by assumption)).mono ?_; rintro e wx ⟨⟨rfl, hbx⟩, hcx⟩; have N := (by first | exact N.later hbx | exact N.drew.later hbx : S3 wx _ _ _ _); obtain ⟨⟨N0, N1, N2⟩, ⟨Nf, Ng, Nh⟩, Nz⟩ := id N))
  all_goals
    go_wp2
    refine bodyPost_ret (v := .agg #[.bool r, .int .i64 x, .int .i64 y]) ?_ rfl ⟨rfl, (by repeat (first | with_reducible exact Below.refl _ _ | with_reducible refine Below.drew ?_ | ((with_reducible refine Below.setCell ?_ ?_ _); rotate_left; (focus (first | (simp; done) | omega | (simp; omega)))) | with_reducible refine old_alloc ?_ _ | with_reducible refine old_trans ?_ (by with_reducible assumption)))⟩
    simp [results, Tryz.results38, go_sem, N0, N1, N2]
def minS (wd : Int) (z y x : Sp) : Sp := if (someS wd z && someS wd y) && someS wd x then (if y.hi < z.lo then nilS else if z.hi < y.lo then meetS wd x z else meetS wd x ⟨true, z.lo, topI wd⟩) else nilS
set_option maxHeartbeats 4000000 in
theorem sBackMin (wd : Int) (s1 s2 s3 : Bool) (a b c d f g : Int) (w : World) :
    Calls Tryz.prog 18 #[.int .i64 wd, .agg #[.bool s1, .int .i64 a, .int .i64 b], .agg #[.bool s2, .int .i64 c, .int .i64 d], .agg #[.bool s3, .int .i64 f, .int .i64 g]] w fun e w' => e = .returned (.agg #[.bool (minS wd ⟨s1, a, b⟩ ⟨s2, c, d⟩ ⟨s3, f, g⟩).s, .int .i64 (minS wd ⟨s1, a, b⟩ ⟨s2, c, d⟩ ⟨s3, f, g⟩).lo, .int .i64 (minS wd ⟨s1, a, b⟩ ⟨s2, c, d⟩ ⟨s3, f, g⟩).hi]) ∧ Below w.heap.size w w' := by
  have H0 := hd (sTop wd)
  have H1 := hd (sThree wd s1 s2 s3 a b c d f g)
  have H2 := hd (sMeetS wd s3 s1 f g a b)
  have H3 := hd (sOfL a (topI wd))
  have H4 := hd (sMeetS wd s3 true f g a (topI wd))
  have e0 : Hid (((someS wd ⟨s1, a, b⟩ && someS wd ⟨s2, c, d⟩) && someS wd ⟨s3, f, g⟩) = false → minS wd ⟨s1, a, b⟩ ⟨s2, c, d⟩ ⟨s3, f, g⟩ = nilS) := fun h => by unfold minS; rw [h]; rfl
  have e1 : Hid (((someS wd ⟨s1, a, b⟩ && someS wd ⟨s2, c, d⟩) && someS wd ⟨s3, f, g⟩) = true → d < a → minS wd ⟨s1, a, b⟩ ⟨s2, c, d⟩ ⟨s3, f, g⟩ = nilS) := fun h g => by unfold minS; rw [h, if_pos rfl, if_pos g]
  have e2 : Hid (((someS wd ⟨s1, a, b⟩ && someS wd ⟨s2, c, d⟩) && someS wd ⟨s3, f, g⟩) = true → ¬ d < a → b < c → minS wd ⟨s1, a, b⟩ ⟨s2, c, d⟩ ⟨s3, f, g⟩ = meetS wd ⟨s3, f, g⟩ ⟨s1, a, b⟩) := fun h g k => by unfold minS; rw [h, if_pos rfl, if_neg g, if_pos k]
  have e3 : Hid (((someS wd ⟨s1, a, b⟩ && someS wd ⟨s2, c, d⟩) && someS wd ⟨s3, f, g⟩) = true → ¬ d < a → ¬ b < c → minS wd ⟨s1, a, b⟩ ⟨s2, c, d⟩ ⟨s3, f, g⟩ = meetS wd ⟨s3, f, g⟩ ⟨true, a, topI wd⟩) := fun h g k => by unfold minS; rw [h, if_pos rfl, if_neg g, if_neg k]
  generalize minS wd ⟨s1, a, b⟩ ⟨s2, c, d⟩ ⟨s3, f, g⟩ = m at *
  generalize ((someS wd ⟨s1, a, b⟩ && someS wd ⟨s2, c, d⟩) && someS wd ⟨s3, f, g⟩) = q at *
  generalize meetS wd ⟨s3, f, g⟩ ⟨s1, a, b⟩ = U at *
  generalize meetS wd ⟨s3, f, g⟩ ⟨true, a, topI wd⟩ = V at *
  obtain ⟨u1, u2, u3⟩ := U
  obtain ⟨v1, v2, v3⟩ := V
  dsimp only at H2 H4
  generalize topI wd = t at *
  have K := (((S3.made w _ rfl (.bool s1) (.int .i64 a) (.int .i64 b) 24).alloc (.cells #[.bool s2, .int .i64 c, .int .i64 d] 24)).alloc (.cells #[.bool s3, .int .i64 f, .int .i64 g] 24)).alloc (.cells #[.bool false, .int .i64 0, .int .i64 0] 24)
  have M := ((S3.made (w.alloc (.cells #[.bool s1, .int .i64 a, .int .i64 b] 24)) (w.heap.size + 1) (by simp) (.bool s2) (.int .i64 c) (.int .i64 d) 24).alloc (.cells #[.bool s3, .int .i64 f, .int .i64 g] 24)).alloc (.cells #[.bool false, .int .i64 0, .int .i64 0] 24)
  have L := (S3.made ((w.alloc (.cells #[.bool s1, .int .i64 a, .int .i64 b] 24)).alloc (.cells #[.bool s2, .int .i64 c, .int .i64 d] 24)) (w.heap.size + 1 + 1) (by simp) (.bool s3) (.int .i64 f) (.int .i64 g) 24).alloc (.cells #[.bool false, .int .i64 0, .int .i64 0] 24)
  have N := S3.made (((w.alloc (.cells #[.bool s1, .int .i64 a, .int .i64 b] 24)).alloc (.cells #[.bool s2, .int .i64 c, .int .i64 d] 24)).alloc (.cells #[.bool s3, .int .i64 f, .int .i64 g] 24)) (w.heap.size + 1 + 1 + 1) (by simp) (.bool false) (.int .i64 0) (.int .i64 0) 24
  obtain ⟨⟨K0, K1, K2⟩, -, Kz⟩ := id K
  obtain ⟨⟨M0, M1, M2⟩, -, Mz⟩ := id M
  obtain ⟨⟨L0, L1, L2⟩, -, Lz⟩ := id L
  go_enter Tryz.func18, Tryz.ntmps18
  go_wp2_with fail
  refine (H1.out _).mono ?_
  rintro e w1 ⟨rfl, hb1⟩
  replace K := K.later hb1
  replace M := M.later hb1
  replace L := L.later hb1
  replace N := N.later hb1
  have hB : Below w.heap.size w w1 := (by repeat (first | with_reducible exact Below.refl _ _ | with_reducible refine Below.drew ?_ | ((with_reducible refine Below.setCell ?_ ?_ _); rotate_left; (focus (first | (simp; done) | omega | (simp; omega)))) | with_reducible refine old_alloc ?_ _ | with_reducible refine old_trans ?_ (by with_reducible assumption)))
  clear hb1
  clear K0 K1 K2 Kz M0 M1 M2 Mz L0 L1 L2 Lz
  obtain ⟨⟨K0, K1, K2⟩, -, Kz⟩ := id K
  obtain ⟨⟨M0, M1, M2⟩, -, Mz⟩ := id M
  obtain ⟨⟨L0, L1, L2⟩, -, Lz⟩ := id L
  obtain ⟨⟨N0, N1, N2⟩, ⟨Nf, Ng, Nh⟩, Nz⟩ := id N
  cases q
  · obtain rfl := (e0.out (by first | rfl | trivial)).symm
    go_wp2
    refine bodyPost_ret (v := .agg #[.bool false, .int .i64 0, .int .i64 0]) ?_ rfl ⟨rfl, (by repeat (first | with_reducible exact hB | with_reducible exact Below.refl _ _ | with_reducible refine Below.drew ?_ | ((with_reducible refine Below.setCell ?_ ?_ _); rotate_left; (focus (first | (simp; done) | omega | (simp; omega)))) | with_reducible refine old_alloc ?_ _ | with_reducible refine old_trans ?_ (by with_reducible assumption)))⟩
    simp [results, Tryz.results18, go_sem, N0, N1, N2]
  by_cases h1 : d < a
  · obtain rfl := (e1.out (by first | rfl | trivial) h1).symm
    go_wp2
    refine bodyPost_ret (v := .agg #[.bool false, .int .i64 0, .int .i64 0]) ?_ rfl ⟨rfl, (by repeat (first | with_reducible exact hB | with_reducible exact Below.refl _ _ | with_reducible refine Below.drew ?_ | ((with_reducible refine Below.setCell ?_ ?_ _); rotate_left; (focus (first | (simp; done) | omega | (simp; omega)))) | with_reducible refine old_alloc ?_ _ | with_reducible refine old_trans ?_ (by with_reducible assumption)))⟩
    simp [results, Tryz.results18, go_sem, N0, N1, N2]
  by_cases h2 : b < c
  · obtain rfl := (e2.out (by first | rfl | trivial) (by omega) h2).symm
    clear N0 N1 N2 Nf Ng Nh Nz
    go_wp2_with fail
    refine (H2.out _).mono ?_
    rintro e w2 ⟨rfl, hb2⟩
    replace N := N.later hb2
    obtain ⟨⟨N0, N1, N2⟩, ⟨Nf, Ng, Nh⟩, Nz⟩ := id N
    go_wp2
    refine bodyPost_ret (v := .agg #[.bool u1, .int .i64 u2, .int .i64 u3]) ?_ rfl ⟨rfl, (by repeat (first | with_reducible exact hB | with_reducible exact Below.refl _ _ | with_reducible refine Below.drew ?_ | ((with_reducible refine Below.setCell ?_ ?_ _); rotate_left; (focus (first | (simp; done) | omega | (simp; omega)))) | with_reducible refine old_alloc ?_ _ | with_reducible refine old_trans ?_ (by with_reducible assumption)))⟩
    simp [results, Tryz.results18, go_sem, N0, N1, N2]
  obtain rfl := (e3.out (by first | rfl | trivial) (by omega) (by omega)).symm
  clear e0 e1 e2 e3 H1 H2
  have C3 := hd (fun w' (hS : w'.cell? ⟨w.heap.size, 0, none⟩ = some (.bool s1) ∧ w'.cell? ⟨w.heap.size, 1, none⟩ = some (.int .i64 a) ∧ w'.cell? ⟨w.heap.size, 2, none⟩ = some (.int .i64 b) ∧ w'.cell? ⟨w.heap.size + 1, 0, none⟩ = some (.bool s2) ∧ w'.cell? ⟨w.heap.size + 1, 1, none⟩ = some (.int .i64 c) ∧ w'.cell? ⟨w.heap.size + 1, 2, none⟩ = some (.int .i64 d) ∧ w'.cell? ⟨w.heap.size + 1 + 1, 0, none⟩ = some (.bool s3) ∧ w'.cell? ⟨w.heap.size + 1 + 1, 1, none⟩ = some (.int .i64 f) ∧ w'.cell? ⟨w.heap.size + 1 + 1, 2, none⟩ = some (.int .i64 g)) => (H3.out w').mono (fun e w'' (k : _ ∧ _) => (⟨k, ⟨cell_later k.2 hS.1, cell_later k.2 hS.2.1, cell_later k.2 hS.2.2.1, cell_later k.2 hS.2.2.2.1, cell_later k.2 hS.2.2.2.2.1, cell_later k.2 hS.2.2.2.2.2.1, cell_later k.2 hS.2.2.2.2.2.2.1, cell_later k.2 hS.2.2.2.2.2.2.2.1, cell_later k.2 hS.2.2.2.2.2.2.2.2⟩⟩ : (_ ∧ _) ∧ (w''.cell? ⟨w.heap.size, 0, none⟩ = some (.bool s1) ∧ w''.cell? ⟨w.heap.size, 1, none⟩ = some (.int .i64 a) ∧ w''.cell? ⟨w.heap.size, 2, none⟩ = some (.int .i64 b) ∧ w''.cell? ⟨w.heap.size + 1, 0, none⟩ = some (.bool s2) ∧ w''.cell? ⟨w.heap.size + 1, 1, none⟩ = some (.int .i64 c) ∧ w''.cell? ⟨w.heap.size + 1, 2, none⟩ = some (.int .i64 d) ∧ w''.cell? ⟨w.heap.size + 1 + 1, 0, none⟩ = some (.bool s3) ∧ w''.cell? ⟨w.heap.size + 1 + 1, 1, none⟩ = some (.int .i64 f) ∧ w''.cell? ⟨w.heap.size + 1 + 1, 2, none⟩ = some (.int .i64 g)))))
  have C4 := hd (fun w' (hS : w'.cell? ⟨w.heap.size, 0, none⟩ = some (.bool s1) ∧ w'.cell? ⟨w.heap.size, 1, none⟩ = some (.int .i64 a) ∧ w'.cell? ⟨w.heap.size, 2, none⟩ = some (.int .i64 b) ∧ w'.cell? ⟨w.heap.size + 1, 0, none⟩ = some (.bool s2) ∧ w'.cell? ⟨w.heap.size + 1, 1, none⟩ = some (.int .i64 c) ∧ w'.cell? ⟨w.heap.size + 1, 2, none⟩ = some (.int .i64 d) ∧ w'.cell? ⟨w.heap.size + 1 + 1, 0, none⟩ = some (.bool s3) ∧ w'.cell? ⟨w.heap.size + 1 + 1, 1, none⟩ = some (.int .i64 f) ∧ w'.cell? ⟨w.heap.size + 1 + 1, 2, none⟩ = some (.int .i64 g)) => (H4.out w').mono (fun e w'' (k : _ ∧ _) => (⟨k, ⟨cell_later k.2 hS.1, cell_later k.2 hS.2.1, cell_later k.2 hS.2.2.1, cell_later k.2 hS.2.2.2.1, cell_later k.2 hS.2.2.2.2.1, cell_later k.2 hS.2.2.2.2.2.1, cell_later k.2 hS.2.2.2.2.2.2.1, cell_later k.2 hS.2.2.2.2.2.2.2.1, cell_later k.2 hS.2.2.2.2.2.2.2.2⟩⟩ : (_ ∧ _) ∧ (w''.cell? ⟨w.heap.size, 0, none⟩ = some (.bool s1) ∧ w''.cell? ⟨w.heap.size, 1, none⟩ = some (.int .i64 a) ∧ w''.cell? ⟨w.heap.size, 2, none⟩ = some (.int .i64 b) ∧ w''.cell? ⟨w.heap.size + 1, 0, none⟩ = some (.bool s2) ∧ w''.cell? ⟨w.heap.size + 1, 1, none⟩ = some (.int .i64 c) ∧ w''.cell? ⟨w.heap.size + 1, 2, none⟩ = some (.int .i64 d) ∧ w''.cell? ⟨w.heap.size + 1 + 1, 0, none⟩ = some (.bool s3) ∧ w''.cell? ⟨w.heap.size + 1 + 1, 1, none⟩ = some (.int .i64 f) ∧ w''.cell? ⟨w.heap.size + 1 + 1, 2, none⟩ = some (.int .i64 g)))))
  clear H3 H4
  have z1 : w.heap.size ≠ w.heap.size + 1 + 1 + 1 := by omega
  have z2 : w.heap.size + 1 + 1 + 1 ≠ w.heap.size := by omega
  have z3 : w.heap.size ≠ w.heap.size + 1 + 1 := by omega
  have z4 : w.heap.size + 1 + 1 ≠ w.heap.size := by omega
  have z5 : w.heap.size ≠ w.heap.size + 1 := by omega
  have z6 : w.heap.size + 1 ≠ w.heap.size := by omega
  have z7 : w.heap.size + 1 ≠ w.heap.size + 1 + 1 + 1 := by omega
  have z8 : w.heap.size + 1 + 1 ≠ w.heap.size + 1 + 1 + 1 := by omega
  clear N0 N1 N2 Nf Ng Nh Nz
  go_wp2_with fail
  go_region_held3 (fun w' => w'.cell? ⟨w.heap.size, 0, none⟩ = some (.bool s1) ∧ w'.cell? ⟨w.heap.size, 1, none⟩ = some (.int .i64 a) ∧ w'.cell? ⟨w.heap.size, 2, none⟩ = some (.int .i64 b) ∧ w'.cell? ⟨w.heap.size + 1, 0, none⟩ = some (.bool s2) ∧ w'.cell? ⟨w.heap.size + 1, 1, none⟩ = some (.int .i64 c) ∧ w'.cell? ⟨w.heap.size + 1, 2, none⟩ = some (.int .i64 d) ∧ w'.cell? ⟨w.heap.size + 1 + 1, 0, none⟩ = some (.bool s3) ∧ w'.cell? ⟨w.heap.size + 1 + 1, 1, none⟩ = some (.int .i64 f) ∧ w'.cell? ⟨w.heap.size + 1 + 1, 2, none⟩ = some (.int .i64 g)) (go_keep) (first | (go_at_call 35; refine (H0.out _).mono ?_; rintro e w1 ⟨rfl, rfl⟩) | (go_at_call 34; refine (C3.out _ (by assumption)).mono ?_; rintro e wx ⟨⟨rfl, hbx⟩, hcx⟩; have N := (by first | exact N.later hbx | exact N.drew.later hbx : S3 wx _ _ _ _); obtain ⟨⟨N0, N1, N2⟩, ⟨Nf, Ng, Nh⟩, Nz⟩ := id N) | (go_at_call 22; refine (C4.out _ (by assumption)).mono ?_; rintro e wx ⟨⟨rfl, hbx⟩, hcx⟩; have N := (by first | exact N.later hbx | exact N.drew.later hbx : S3 wx _ _ _ _); obtain ⟨⟨N0, N1, N2⟩, ⟨Nf, Ng, Nh⟩, Nz⟩ := id N))
  all_goals
    go_wp2
    refine bodyPost_ret (v := .agg #[.bool v1, .int .i64 v2, .int .i64 v3]) ?_ rfl ⟨rfl, (by repeat (first | with_reducible exact hB | with_reducible exact Below.refl _ _ | with_reducible refine Below.drew ?_ | ((with_reducible refine Below.setCell ?_ ?_ _); rotate_left; (focus (first | (simp; done) | omega | (simp; omega)))) | with_reducible refine old_alloc ?_ _ | with_reducible refine old_trans ?_ (by with_reducible assumption)))⟩
    simp [results, Tryz.results18, go_sem, N0, N1, N2]
def maxS (wd : Int) (z y x : Sp) : Sp := negS wd (minS wd (negS wd z) (negS wd y) (negS wd x))
set_option maxHeartbeats 4000000 in
theorem sBackMax (wd : Int) (s1 s2 s3 : Bool) (a b c d f g : Int) (w : World) :
    Calls Tryz.prog 20 #[.int .i64 wd, .agg #[.bool s1, .int .i64 a, .int .i64 b], .agg #[.bool s2, .int .i64 c, .int .i64 d], .agg #[.bool s3, .int .i64 f, .int .i64 g]] w fun e w' => e = .returned (.agg #[.bool (maxS wd ⟨s1, a, b⟩ ⟨s2, c, d⟩ ⟨s3, f, g⟩).s, .int .i64 (maxS wd ⟨s1, a, b⟩ ⟨s2, c, d⟩ ⟨s3, f, g⟩).lo, .int .i64 (maxS wd ⟨s1, a, b⟩ ⟨s2, c, d⟩ ⟨s3, f, g⟩).hi]) ∧ Below w.heap.size w w' := by
  have H1 := hd (sNegS wd s1 a b)
  have H2 := hd (sNegS wd s2 c d)
  have H3 := hd (sNegS wd s3 f g)
  unfold maxS
  generalize negS wd ⟨s1, a, b⟩ = U at *
  generalize negS wd ⟨s2, c, d⟩ = V at *
  generalize negS wd ⟨s3, f, g⟩ = W at *
  obtain ⟨u1, u2, u3⟩ := U
  obtain ⟨v1, v2, v3⟩ := V
  obtain ⟨x1, x2, x3⟩ := W
  dsimp only at H1 H2 H3
  have H4 := hd (sBackMin wd u1 v1 x1 u2 u3 v2 v3 x2 x3)
  generalize minS wd ⟨u1, u2, u3⟩ ⟨v1, v2, v3⟩ ⟨x1, x2, x3⟩ = m at *
  obtain ⟨m1, m2, m3⟩ := m
  dsimp only at H4
  have H5 := hd (sNegS wd m1 m2 m3)
  generalize negS wd ⟨m1, m2, m3⟩ = n at *
  obtain ⟨n1, n2, n3⟩ := n
  dsimp only at H5
  have K := (((S3.made w _ rfl (.bool s1) (.int .i64 a) (.int .i64 b) 24).alloc (.cells #[.bool s2, .int .i64 c, .int .i64 d] 24)).alloc (.cells #[.bool s3, .int .i64 f, .int .i64 g] 24)).alloc (.cells #[.bool false, .int .i64 0, .int .i64 0] 24)
  have M := ((S3.made (w.alloc (.cells #[.bool s1, .int .i64 a, .int .i64 b] 24)) (w.heap.size + 1) (by simp) (.bool s2) (.int .i64 c) (.int .i64 d) 24).alloc (.cells #[.bool s3, .int .i64 f, .int .i64 g] 24)).alloc (.cells #[.bool false, .int .i64 0, .int .i64 0] 24)
  have L := (S3.made ((w.alloc (.cells #[.bool s1, .int .i64 a, .int .i64 b] 24)).alloc (.cells #[.bool s2, .int .i64 c, .int .i64 d] 24)) (w.heap.size + 1 + 1) (by simp) (.bool s3) (.int .i64 f) (.int .i64 g) 24).alloc (.cells #[.bool false, .int .i64 0, .int .i64 0] 24)
  have N := S3.made (((w.alloc (.cells #[.bool s1, .int .i64 a, .int .i64 b] 24)).alloc (.cells #[.bool s2, .int .i64 c, .int .i64 d] 24)).alloc (.cells #[.bool s3, .int .i64 f, .int .i64 g] 24)) (w.heap.size + 1 + 1 + 1) (by simp) (.bool false) (.int .i64 0) (.int .i64 0) 24
  have C1 := hd (fun w' (hS : w'.cell? ⟨w.heap.size, 0, none⟩ = some (.bool s1) ∧ w'.cell? ⟨w.heap.size, 1, none⟩ = some (.int .i64 a) ∧ w'.cell? ⟨w.heap.size, 2, none⟩ = some (.int .i64 b) ∧ w'.cell? ⟨w.heap.size + 1, 0, none⟩ = some (.bool s2) ∧ w'.cell? ⟨w.heap.size + 1, 1, none⟩ = some (.int .i64 c) ∧ w'.cell? ⟨w.heap.size + 1, 2, none⟩ = some (.int .i64 d) ∧ w'.cell? ⟨w.heap.size + 1 + 1, 0, none⟩ = some (.bool s3) ∧ w'.cell? ⟨w.heap.size + 1 + 1, 1, none⟩ = some (.int .i64 f) ∧ w'.cell? ⟨w.heap.size + 1 + 1, 2, none⟩ = some (.int .i64 g)) => (H1.out w').mono (fun e w'' (k : _ ∧ _) => (⟨k, ⟨cell_later k.2 hS.1, cell_later k.2 hS.2.1, cell_later k.2 hS.2.2.1, cell_later k.2 hS.2.2.2.1, cell_later k.2 hS.2.2.2.2.1, cell_later k.2 hS.2.2.2.2.2.1, cell_later k.2 hS.2.2.2.2.2.2.1, cell_later k.2 hS.2.2.2.2.2.2.2.1, cell_later k.2 hS.2.2.2.2.2.2.2.2⟩⟩ : (_ ∧ _) ∧ (w''.cell? ⟨w.heap.size, 0, none⟩ = some (.bool s1) ∧ w''.cell? ⟨w.heap.size, 1, none⟩ = some (.int .i64 a) ∧ w''.cell? ⟨w.heap.size, 2, none⟩ = some (.int .i64 b) ∧ w''.cell? ⟨w.heap.size + 1, 0, none⟩ = some (.bool s2) ∧ w''.cell? ⟨w.heap.size + 1, 1, none⟩ = some (.int .i64 c) ∧ w''.cell? ⟨w.heap.size + 1, 2, none⟩ = some (.int .i64 d) ∧ w''.cell? ⟨w.heap.size + 1 + 1, 0, none⟩ = some (.bool s3) ∧ w''.cell? ⟨w.heap.size + 1 + 1, 1, none⟩ = some (.int .i64 f) ∧ w''.cell? ⟨w.heap.size + 1 + 1, 2, none⟩ = some (.int .i64 g)))))
  have C2 := hd (fun w' (hS : w'.cell? ⟨w.heap.size, 0, none⟩ = some (.bool s1) ∧ w'.cell? ⟨w.heap.size, 1, none⟩ = some (.int .i64 a) ∧ w'.cell? ⟨w.heap.size, 2, none⟩ = some (.int .i64 b) ∧ w'.cell? ⟨w.heap.size + 1, 0, none⟩ = some (.bool s2) ∧ w'.cell? ⟨w.heap.size + 1, 1, none⟩ = some (.int .i64 c) ∧ w'.cell? ⟨w.heap.size + 1, 2, none⟩ = some (.int .i64 d) ∧ w'.cell? ⟨w.heap.size + 1 + 1, 0, none⟩ = some (.bool s3) ∧ w'.cell? ⟨w.heap.size + 1 + 1, 1, none⟩ = some (.int .i64 f) ∧ w'.cell? ⟨w.heap.size + 1 + 1, 2, none⟩ = some (.int .i64 g)) => (H2.out w').mono (fun e w'' (k : _ ∧ _) => (⟨k, ⟨cell_later k.2 hS.1, cell_later k.2 hS.2.1, cell_later k.2 hS.2.2.1, cell_later k.2 hS.2.2.2.1, cell_later k.2 hS.2.2.2.2.1, cell_later k.2 hS.2.2.2.2.2.1, cell_later k.2 hS.2.2.2.2.2.2.1, cell_later k.2 hS.2.2.2.2.2.2.2.1, cell_later k.2 hS.2.2.2.2.2.2.2.2⟩⟩ : (_ ∧ _) ∧ (w''.cell? ⟨w.heap.size, 0, none⟩ = some (.bool s1) ∧ w''.cell? ⟨w.heap.size, 1, none⟩ = some (.int .i64 a) ∧ w''.cell? ⟨w.heap.size, 2, none⟩ = some (.int .i64 b) ∧ w''.cell? ⟨w.heap.size + 1, 0, none⟩ = some (.bool s2) ∧ w''.cell? ⟨w.heap.size + 1, 1, none⟩ = some (.int .i64 c) ∧ w''.cell? ⟨w.heap.size + 1, 2, none⟩ = some (.int .i64 d) ∧ w''.cell? ⟨w.heap.size + 1 + 1, 0, none⟩ = some (.bool s3) ∧ w''.cell? ⟨w.heap.size + 1 + 1, 1, none⟩ = some (.int .i64 f) ∧ w''.cell? ⟨w.heap.size + 1 + 1, 2, none⟩ = some (.int .i64 g)))))
  have C3 := hd (fun w' (hS : w'.cell? ⟨w.heap.size, 0, none⟩ = some (.bool s1) ∧ w'.cell? ⟨w.heap.size, 1, none⟩ = some (.int .i64 a) ∧ w'.cell? ⟨w.heap.size, 2, none⟩ = some (.int .i64 b) ∧ w'.cell? ⟨w.heap.size + 1, 0, none⟩ = some (.bool s2) ∧ w'.cell? ⟨w.heap.size + 1, 1, none⟩ = some (.int .i64 c) ∧ w'.cell? ⟨w.heap.size + 1, 2, none⟩ = some (.int .i64 d) ∧ w'.cell? ⟨w.heap.size + 1 + 1, 0, none⟩ = some (.bool s3) ∧ w'.cell? ⟨w.heap.size + 1 + 1, 1, none⟩ = some (.int .i64 f) ∧ w'.cell? ⟨w.heap.size + 1 + 1, 2, none⟩ = some (.int .i64 g)) => (H3.out w').mono (fun e w'' (k : _ ∧ _) => (⟨k, ⟨cell_later k.2 hS.1, cell_later k.2 hS.2.1, cell_later k.2 hS.2.2.1, cell_later k.2 hS.2.2.2.1, cell_later k.2 hS.2.2.2.2.1, cell_later k.2 hS.2.2.2.2.2.1, cell_later k.2 hS.2.2.2.2.2.2.1, cell_later k.2 hS.2.2.2.2.2.2.2.1, cell_later k.2 hS.2.2.2.2.2.2.2.2⟩⟩ : (_ ∧ _) ∧ (w''.cell? ⟨w.heap.size, 0, none⟩ = some (.bool s1) ∧ w''.cell? ⟨w.heap.size, 1, none⟩ = some (.int .i64 a) ∧ w''.cell? ⟨w.heap.size, 2, none⟩ = some (.int .i64 b) ∧ w''.cell? ⟨w.heap.size + 1, 0, none⟩ = some (.bool s2) ∧ w''.cell? ⟨w.heap.size + 1, 1, none⟩ = some (.int .i64 c) ∧ w''.cell? ⟨w.heap.size + 1, 2, none⟩ = some (.int .i64 d) ∧ w''.cell? ⟨w.heap.size + 1 + 1, 0, none⟩ = some (.bool s3) ∧ w''.cell? ⟨w.heap.size + 1 + 1, 1, none⟩ = some (.int .i64 f) ∧ w''.cell? ⟨w.heap.size + 1 + 1, 2, none⟩ = some (.int .i64 g)))))
  have C4 := hd (fun w' (hS : w'.cell? ⟨w.heap.size, 0, none⟩ = some (.bool s1) ∧ w'.cell? ⟨w.heap.size, 1, none⟩ = some (.int .i64 a) ∧ w'.cell? ⟨w.heap.size, 2, none⟩ = some (.int .i64 b) ∧ w'.cell? ⟨w.heap.size + 1, 0, none⟩ = some (.bool s2) ∧ w'.cell? ⟨w.heap.size + 1, 1, none⟩ = some (.int .i64 c) ∧ w'.cell? ⟨w.heap.size + 1, 2, none⟩ = some (.int .i64 d) ∧ w'.cell? ⟨w.heap.size + 1 + 1, 0, none⟩ = some (.bool s3) ∧ w'.cell? ⟨w.heap.size + 1 + 1, 1, none⟩ = some (.int .i64 f) ∧ w'.cell? ⟨w.heap.size + 1 + 1, 2, none⟩ = some (.int .i64 g)) => (H4.out w').mono (fun e w'' (k : _ ∧ _) => (⟨k, ⟨cell_later k.2 hS.1, cell_later k.2 hS.2.1, cell_later k.2 hS.2.2.1, cell_later k.2 hS.2.2.2.1, cell_later k.2 hS.2.2.2.2.1, cell_later k.2 hS.2.2.2.2.2.1, cell_later k.2 hS.2.2.2.2.2.2.1, cell_later k.2 hS.2.2.2.2.2.2.2.1, cell_later k.2 hS.2.2.2.2.2.2.2.2⟩⟩ : (_ ∧ _) ∧ (w''.cell? ⟨w.heap.size, 0, none⟩ = some (.bool s1) ∧ w''.cell? ⟨w.heap.size, 1, none⟩ = some (.int .i64 a) ∧ w''.cell? ⟨w.heap.size, 2, none⟩ = some (.int .i64 b) ∧ w''.cell? ⟨w.heap.size + 1, 0, none⟩ = some (.bool s2) ∧ w''.cell? ⟨w.heap.size + 1, 1, none⟩ = some (.int .i64 c) ∧ w''.cell? ⟨w.heap.size + 1, 2, none⟩ = some (.int .i64 d) ∧ w''.cell? ⟨w.heap.size + 1 + 1, 0, none⟩ = some (.bool s3) ∧ w''.cell? ⟨w.heap.size + 1 + 1, 1, none⟩ = some (.int .i64 f) ∧ w''.cell? ⟨w.heap.size + 1 + 1, 2, none⟩ = some (.int .i64 g)))))
  have C5 := hd (fun w' (hS : w'.cell? ⟨w.heap.size, 0, none⟩ = some (.bool s1) ∧ w'.cell? ⟨w.heap.size, 1, none⟩ = some (.int .i64 a) ∧ w'.cell? ⟨w.heap.size, 2, none⟩ = some (.int .i64 b) ∧ w'.cell? ⟨w.heap.size + 1, 0, none⟩ = some (.bool s2) ∧ w'.cell? ⟨w.heap.size + 1, 1, none⟩ = some (.int .i64 c) ∧ w'.cell? ⟨w.heap.size + 1, 2, none⟩ = some (.int .i64 d) ∧ w'.cell? ⟨w.heap.size + 1 + 1, 0, none⟩ = some (.bool s3) ∧ w'.cell? ⟨w.heap.size + 1 + 1, 1, none⟩ = some (.int .i64 f) ∧ w'.cell? ⟨w.heap.size + 1 + 1, 2, none⟩ = some (.int .i64 g)) => (H5.out w').mono (fun e w'' (k : _ ∧ _) => (⟨k, ⟨cell_later k.2 hS.1, cell_later k.2 hS.2.1, cell_later k.2 hS.2.2.1, cell_later k.2 hS.2.2.2.1, cell_later k.2 hS.2.2.2.2.1, cell_later k.2 hS.2.2.2.2.2.1, cell_later k.2 hS.2.2.2.2.2.2.1, cell_later k.2 hS.2.2.2.2.2.2.2.1, cell_later k.2 hS.2.2.2.2.2.2.2.2⟩⟩ : (_ ∧ _) ∧ (w''.cell? ⟨w.heap.size, 0, none⟩ = some (.bool s1) ∧ w''.cell? ⟨w.heap.size, 1, none⟩ = some (.int .i64 a) ∧ w''.cell? ⟨w.heap.size, 2, none⟩ = some (.int .i64 b) ∧ w''.cell? ⟨w.heap.size + 1, 0, none⟩ = some (.bool s2) ∧ w''.cell? ⟨w.heap.size + 1, 1, none⟩ = some (.int .i64 c) ∧ w''.cell? ⟨w.heap.size + 1, 2, none⟩ = some (.int .i64 d) ∧ w''.cell? ⟨w.heap.size + 1 + 1, 0, none⟩ = some (.bool s3) ∧ w''.cell? ⟨w.heap.size + 1 + 1, 1, none⟩ = some (.int .i64 f) ∧ w''.cell? ⟨w.heap.size + 1 + 1, 2, none⟩ = some (.int .i64 g)))))
  clear H1 H2 H3 H4 H5
  have z1 : w.heap.size ≠ w.heap.size + 1 + 1 + 1 := by omega
  have z2 : w.heap.size + 1 + 1 + 1 ≠ w.heap.size := by omega
  have z3 : w.heap.size ≠ w.heap.size + 1 + 1 := by omega
  have z4 : w.heap.size + 1 + 1 ≠ w.heap.size := by omega
  have z5 : w.heap.size ≠ w.heap.size + 1 := by omega
  have z6 : w.heap.size + 1 ≠ w.heap.size := by omega
  have z7 : w.heap.size + 1 ≠ w.heap.size + 1 + 1 + 1 := by omega
  have z8 : w.heap.size + 1 + 1 ≠ w.heap.size + 1 + 1 + 1 := by omega
  obtain ⟨⟨K0, K1, K2⟩, -, Kz⟩ := id K
  obtain ⟨⟨M0, M1, M2⟩, -, Mz⟩ := id M
  obtain ⟨⟨L0, L1, L2⟩, -, Lz⟩ := id L
  go_enter Tryz.func20, Tryz.ntmps20
  go_wp2_with fail
  go_region_held3 (fun w' => w'.cell? ⟨w.heap.size, 0, none⟩ = some (.bool s1) ∧ w'.cell? ⟨w.heap.size, 1, none⟩ = some (.int .i64 a) ∧ w'.cell? ⟨w.heap.size, 2, none⟩ = some (.int .i64 b) ∧ w'.cell? ⟨w.heap.size + 1, 0, none⟩ = some (.bool s2) ∧ w'.cell? ⟨w.heap.size + 1, 1, none⟩ = some (.int .i64 c) ∧ w'.cell? ⟨w.heap.size + 1, 2, none⟩ = some (.int .i64 d) ∧ w'.cell? ⟨w.heap.size + 1 + 1, 0, none⟩ = some (.bool s3) ∧ w'.cell? ⟨w.heap.size + 1 + 1, 1, none⟩ = some (.int .i64 f) ∧ w'.cell? ⟨w.heap.size + 1 + 1, 2, none⟩ = some (.int .i64 g)) (go_keep) (first | (go_at_call 24; with_reducible refine (C1.out _ (by assumption)).mono ?_; rintro e wx ⟨⟨rfl, hbx⟩, hcx⟩; have N := (by first | exact N.later hbx | exact N.drew.later hbx : S3 wx _ _ _ _); obtain ⟨⟨N0, N1, N2⟩, ⟨Nf, Ng, Nh⟩, Nz⟩ := id N) | (go_at_call 24; with_reducible refine (C2.out _ (by assumption)).mono ?_; rintro e wx ⟨⟨rfl, hbx⟩, hcx⟩; have N := (by first | exact N.later hbx | exact N.drew.later hbx : S3 wx _ _ _ _); obtain ⟨⟨N0, N1, N2⟩, ⟨Nf, Ng, Nh⟩, Nz⟩ := id N) | (go_at_call 24; with_reducible refine (C3.out _ (by assumption)).mono ?_; rintro e wx ⟨⟨rfl, hbx⟩, hcx⟩; have N := (by first | exact N.later hbx | exact N.drew.later hbx : S3 wx _ _ _ _); obtain ⟨⟨N0, N1, N2⟩, ⟨Nf, Ng, Nh⟩, Nz⟩ := id N) | (go_at_call 18; with_reducible refine (C4.out _ (by assumption)).mono ?_; rintro e wx ⟨⟨rfl, hbx⟩, hcx⟩; have N := (by first | exact N.later hbx | exact N.drew.later hbx : S3 wx _ _ _ _); obtain ⟨⟨N0, N1, N2⟩, ⟨Nf, Ng, Nh⟩, Nz⟩ := id N) | (go_at_call 24; with_reducible refine (C5.out _ (by assumption)).mono ?_; rintro e wx ⟨⟨rfl, hbx⟩, hcx⟩; have N := (by first | exact N.later hbx | exact N.drew.later hbx : S3 wx _ _ _ _); obtain ⟨⟨N0, N1, N2⟩, ⟨Nf, Ng, Nh⟩, Nz⟩ := id N))
  all_goals
    go_wp2
    refine bodyPost_ret (v := .agg #[.bool n1, .int .i64 n2, .int .i64 n3]) ?_ rfl ⟨rfl, (by repeat (first | with_reducible exact Below.refl _ _ | with_reducible refine Below.drew ?_ | ((with_reducible refine Below.setCell ?_ ?_ _); rotate_left; (focus (first | (simp; done) | omega | (simp; omega)))) | with_reducible refine old_alloc ?_ _ | with_reducible refine old_trans ?_ (by with_reducible assumption)))⟩
    simp [results, Tryz.results20, go_sem, N0, N1, N2]
def absBS (wd : Int) (z x : Sp) : Sp := hullS wd (meetS wd x (fromS wd z)) (meetS wd x (negS wd (fromS wd z)))
set_option maxHeartbeats 4000000 in
theorem sBackAbs (wd : Int) (s1 s2 : Bool) (a b c d : Int) (w : World) :
    Calls Tryz.prog 16 #[.int .i64 wd, .agg #[.bool s1, .int .i64 a, .int .i64 b], .agg #[.bool s2, .int .i64 c, .int .i64 d]] w fun e w' => e = .returned (.agg #[.bool (absBS wd ⟨s1, a, b⟩ ⟨s2, c, d⟩).s, .int .i64 (absBS wd ⟨s1, a, b⟩ ⟨s2, c, d⟩).lo, .int .i64 (absBS wd ⟨s1, a, b⟩ ⟨s2, c, d⟩).hi]) ∧ Below w.heap.size w w' := by
  have H1 := hd (sFrom wd s1 a b)
  unfold absBS
  generalize fromS wd ⟨s1, a, b⟩ = P at *
  obtain ⟨p1, p2, p3⟩ := P
  dsimp only at H1
  have H2 := hd (sMeetS wd s2 p1 c d p2 p3)
  have H3 := hd (sNegS wd p1 p2 p3)
  generalize negS wd ⟨p1, p2, p3⟩ = Q at *
  obtain ⟨q1, q2, q3⟩ := Q
  dsimp only at H3
  have H4 := hd (sMeetS wd s2 q1 c d q2 q3)
  generalize meetS wd ⟨s2, c, d⟩ ⟨p1, p2, p3⟩ = U at *
  generalize meetS wd ⟨s2, c, d⟩ ⟨q1, q2, q3⟩ = V at *
  obtain ⟨u1, u2, u3⟩ := U
  obtain ⟨v1, v2, v3⟩ := V
  dsimp only at H2 H4
  have H5 := hd (sHullS wd u1 v1 u2 u3 v2 v3)
  generalize hullS wd ⟨u1, u2, u3⟩ ⟨v1, v2, v3⟩ = R at *
  obtain ⟨r1, r2, r3⟩ := R
  dsimp only at H5
  have K := ((S3.made w _ rfl (.bool s1) (.int .i64 a) (.int .i64 b) 24).alloc (.cells #[.bool s2, .int .i64 c, .int .i64 d] 24)).alloc (.cells #[.bool false, .int .i64 0, .int .i64 0] 24)
  have M := (S3.made (w.alloc (.cells #[.bool s1, .int .i64 a, .int .i64 b] 24)) (w.heap.size + 1) (by simp) (.bool s2) (.int .i64 c) (.int .i64 d) 24).alloc (.cells #[.bool false, .int .i64 0, .int .i64 0] 24)
  have N := S3.made ((w.alloc (.cells #[.bool s1, .int .i64 a, .int .i64 b] 24)).alloc (.cells #[.bool s2, .int .i64 c, .int .i64 d] 24)) (w.heap.size + 1 + 1) (by simp) (.bool false) (.int .i64 0) (.int .i64 0) 24
  obtain ⟨⟨K0, K1, K2⟩, -, Kz⟩ := id K
  go_enter Tryz.func16, Tryz.ntmps16
  go_wp2_with fail
  refine (H1.out _).mono ?_
  rintro e w1 ⟨rfl, hb1⟩
  have hw1 : w.heap.size + 1 + 1 < w1.heap.size := Nat.lt_of_lt_of_le N.lt hb1.size
  have hB : Below w.heap.size w (w1.alloc (.cells #[.bool p1, .int .i64 p2, .int .i64 p3] 24)) := (by repeat (first | with_reducible exact Below.refl _ _ | with_reducible refine Below.drew ?_ | ((with_reducible refine Below.setCell ?_ ?_ _); rotate_left; (focus (first | (simp; done) | omega | (simp; omega)))) | with_reducible refine old_alloc ?_ _ | with_reducible refine old_trans ?_ (by with_reducible assumption)))
  have L := S3.made w1 _ rfl (.bool p1) (.int .i64 p2) (.int .i64 p3) 24
  replace M := (M.later hb1).alloc (.cells #[.bool p1, .int .i64 p2, .int .i64 p3] 24)
  replace N := (N.later hb1).alloc (.cells #[.bool p1, .int .i64 p2, .int .i64 p3] 24)
  clear K K0 K1 K2 Kz H1
  go_wp2_with fail
  generalize w1.alloc (.cells #[.bool p1, .int .i64 p2, .int .i64 p3] 24) = w2 at *
  generalize w1.heap.size = bp at *
  clear hb1
  have C2 := hd (fun w' (hS : w'.cell? ⟨w.heap.size + 1, 0, none⟩ = some (.bool s2) ∧ w'.cell? ⟨w.heap.size + 1, 1, none⟩ = some (.int .i64 c) ∧ w'.cell? ⟨w.heap.size + 1, 2, none⟩ = some (.int .i64 d) ∧ w'.cell? ⟨bp, 0, none⟩ = some (.bool p1) ∧ w'.cell? ⟨bp, 1, none⟩ = some (.int .i64 p2) ∧ w'.cell? ⟨bp, 2, none⟩ = some (.int .i64 p3)) => (H2.out w').mono (fun e w'' (k : _ ∧ _) => (⟨k, ⟨cell_later k.2 hS.1, cell_later k.2 hS.2.1, cell_later k.2 hS.2.2.1, cell_later k.2 hS.2.2.2.1, cell_later k.2 hS.2.2.2.2.1, cell_later k.2 hS.2.2.2.2.2⟩⟩ : (_ ∧ _) ∧ (w''.cell? ⟨w.heap.size + 1, 0, none⟩ = some (.bool s2) ∧ w''.cell? ⟨w.heap.size + 1, 1, none⟩ = some (.int .i64 c) ∧ w''.cell? ⟨w.heap.size + 1, 2, none⟩ = some (.int .i64 d) ∧ w''.cell? ⟨bp, 0, none⟩ = some (.bool p1) ∧ w''.cell? ⟨bp, 1, none⟩ = some (.int .i64 p2) ∧ w''.cell? ⟨bp, 2, none⟩ = some (.int .i64 p3)))))
  have C3 := hd (fun w' (hS : w'.cell? ⟨w.heap.size + 1, 0, none⟩ = some (.bool s2) ∧ w'.cell? ⟨w.heap.size + 1, 1, none⟩ = some (.int .i64 c) ∧ w'.cell? ⟨w.heap.size + 1, 2, none⟩ = some (.int .i64 d) ∧ w'.cell? ⟨bp, 0, none⟩ = some (.bool p1) ∧ w'.cell? ⟨bp, 1, none⟩ = some (.int .i64 p2) ∧ w'.cell? ⟨bp, 2, none⟩ = some (.int .i64 p3)) => (H3.out w').mono (fun e w'' (k : _ ∧ _) => (⟨k, ⟨cell_later k.2 hS.1, cell_later k.2 hS.2.1, cell_later k.2 hS.2.2.1, cell_later k.2 hS.2.2.2.1, cell_later k.2 hS.2.2.2.2.1, cell_later k.2 hS.2.2.2.2.2⟩⟩ : (_ ∧ _) ∧ (w''.cell? ⟨w.heap.size + 1, 0, none⟩ = some (.bool s2) ∧ w''.cell? ⟨w.heap.size + 1, 1, none⟩ = some (.int .i64 c) ∧ w''.cell? ⟨w.heap.size + 1, 2, none⟩ = some (.int .i64 d) ∧ w''.cell? ⟨bp, 0, none⟩ = some (.bool p1) ∧ w''.cell? ⟨bp, 1, none⟩ = some (.int .i64 p2) ∧ w''.cell? ⟨bp, 2, none⟩ = some (.int .i64 p3)))))
  have C4 := hd (fun w' (hS : w'.cell? ⟨w.heap.size + 1, 0, none⟩ = some (.bool s2) ∧ w'.cell? ⟨w.heap.size + 1, 1, none⟩ = some (.int .i64 c) ∧ w'.cell? ⟨w.heap.size + 1, 2, none⟩ = some (.int .i64 d) ∧ w'.cell? ⟨bp, 0, none⟩ = some (.bool p1) ∧ w'.cell? ⟨bp, 1, none⟩ = some (.int .i64 p2) ∧ w'.cell? ⟨bp, 2, none⟩ = some (.int .i64 p3)) => (H4.out w').mono (fun e w'' (k : _ ∧ _) => (⟨k, ⟨cell_later k.2 hS.1, cell_later k.2 hS.2.1, cell_later k.2 hS.2.2.1, cell_later k.2 hS.2.2.2.1, cell_later k.2 hS.2.2.2.2.1, cell_later k.2 hS.2.2.2.2.2⟩⟩ : (_ ∧ _) ∧ (w''.cell? ⟨w.heap.size + 1, 0, none⟩ = some (.bool s2) ∧ w''.cell? ⟨w.heap.size + 1, 1, none⟩ = some (.int .i64 c) ∧ w''.cell? ⟨w.heap.size + 1, 2, none⟩ = some (.int .i64 d) ∧ w''.cell? ⟨bp, 0, none⟩ = some (.bool p1) ∧ w''.cell? ⟨bp, 1, none⟩ = some (.int .i64 p2) ∧ w''.cell? ⟨bp, 2, none⟩ = some (.int .i64 p3)))))
  have C5 := hd (fun w' (hS : w'.cell? ⟨w.heap.size + 1, 0, none⟩ = some (.bool s2) ∧ w'.cell? ⟨w.heap.size + 1, 1, none⟩ = some (.int .i64 c) ∧ w'.cell? ⟨w.heap.size + 1, 2, none⟩ = some (.int .i64 d) ∧ w'.cell? ⟨bp, 0, none⟩ = some (.bool p1) ∧ w'.cell? ⟨bp, 1, none⟩ = some (.int .i64 p2) ∧ w'.cell? ⟨bp, 2, none⟩ = some (.int .i64 p3)) => (H5.out w').mono (fun e w'' (k : _ ∧ _) => (⟨k, ⟨cell_later k.2 hS.1, cell_later k.2 hS.2.1, cell_later k.2 hS.2.2.1, cell_later k.2 hS.2.2.2.1, cell_later k.2 hS.2.2.2.2.1, cell_later k.2 hS.2.2.2.2.2⟩⟩ : (_ ∧ _) ∧ (w''.cell? ⟨w.heap.size + 1, 0, none⟩ = some (.bool s2) ∧ w''.cell? ⟨w.heap.size + 1, 1, none⟩ = some (.int .i64 c) ∧ w''.cell? ⟨w.heap.size + 1, 2, none⟩ = some (.int .i64 d) ∧ w''.cell? ⟨bp, 0, none⟩ = some (.bool p1) ∧ w''.cell? ⟨bp, 1, none⟩ = some (.int .i64 p2) ∧ w''.cell? ⟨bp, 2, none⟩ = some (.int .i64 p3)))))
  clear H2 H3 H4 H5
  have z1 : bp ≠ w.heap.size + 1 := by omega
  have z2 : bp ≠ w.heap.size + 1 + 1 := by omega
  have z3 : w.heap.size + 1 + 1 ≠ bp := by omega
  have z4 : w.heap.size + 1 ≠ w.heap.size + 1 + 1 := by omega
  have z5 : w.heap.size ≠ w.heap.size + 1 := by omega
  clear hw1
  obtain ⟨⟨M0, M1, M2⟩, -, Mz⟩ := id M
  obtain ⟨⟨L0, L1, L2⟩, -, Lz⟩ := id L
  go_region_held3 (fun w' => w'.cell? ⟨w.heap.size + 1, 0, none⟩ = some (.bool s2) ∧ w'.cell? ⟨w.heap.size + 1, 1, none⟩ = some (.int .i64 c) ∧ w'.cell? ⟨w.heap.size + 1, 2, none⟩ = some (.int .i64 d) ∧ w'.cell? ⟨bp, 0, none⟩ = some (.bool p1) ∧ w'.cell? ⟨bp, 1, none⟩ = some (.int .i64 p2) ∧ w'.cell? ⟨bp, 2, none⟩ = some (.int .i64 p3)) (go_keep) (first | (go_at_call 22; with_reducible refine (C2.out _ (by assumption)).mono ?_; rintro e wx ⟨⟨rfl, hbx⟩, hcx⟩; have N := (by first | exact N.later hbx | exact N.drew.later hbx : S3 wx _ _ _ _); obtain ⟨⟨N0, N1, N2⟩, ⟨Nf, Ng, Nh⟩, Nz⟩ := id N) | (go_at_call 24; with_reducible refine (C3.out _ (by assumption)).mono ?_; rintro e wx ⟨⟨rfl, hbx⟩, hcx⟩; have N := (by first | exact N.later hbx | exact N.drew.later hbx : S3 wx _ _ _ _); obtain ⟨⟨N0, N1, N2⟩, ⟨Nf, Ng, Nh⟩, Nz⟩ := id N) | (go_at_call 22; with_reducible refine (C4.out _ (by assumption)).mono ?_; rintro e wx ⟨⟨rfl, hbx⟩, hcx⟩; have N := (by first | exact N.later hbx | exact N.drew.later hbx : S3 wx _ _ _ _); obtain ⟨⟨N0, N1, N2⟩, ⟨Nf, Ng, Nh⟩, Nz⟩ := id N) | (go_at_call 39; with_reducible refine (C5.out _ (by assumption)).mono ?_; rintro e wx ⟨⟨rfl, hbx⟩, hcx⟩; have N := (by first | exact N.later hbx | exact N.drew.later hbx : S3 wx _ _ _ _); obtain ⟨⟨N0, N1, N2⟩, ⟨Nf, Ng, Nh⟩, Nz⟩ := id N))
  all_goals
    go_wp2
    refine bodyPost_ret (v := .agg #[.bool r1, .int .i64 r2, .int .i64 r3]) ?_ rfl ⟨rfl, (by repeat (first | with_reducible exact hB | with_reducible exact Below.refl _ _ | with_reducible refine Below.drew ?_ | ((with_reducible refine Below.setCell ?_ ?_ _); rotate_left; (focus (first | (simp; done) | omega | (simp; omega)))) | with_reducible refine old_alloc ?_ _ | with_reducible refine old_trans ?_ (by with_reducible assumption)))⟩
    simp [results, Tryz.results16, go_sem, N0, N1, N2]
end Go.Proofs.YtpjagplloljefaaGreat
