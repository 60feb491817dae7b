/- Both sides of a relation narrowed, by the program; nothing that was there is written. -/
import Derived.Test.YtpjagplloljefaaGreatRB
namespace Go.Proofs.YtpjagplloljefaaGreat
open Go.RowKit
set_option linter.unusedVariables false
set_option maxRecDepth 100000

def lowM (wd : Int) (x y : Sp) : Sp := meetS wd x ⟨true, -topI wd, y.hi⟩
def highM (wd : Int) (x y : Sp) : Sp := meetS wd y ⟨true, x.lo, topI wd⟩
set_option maxHeartbeats 4000000 in
theorem iMet1 (wd : Int) (s1 s2 : Bool) (a b c d : Int) (w : World) :
    Calls Tryz.prog 37 #[.int .i64 1, .int .i64 wd, .agg #[.bool s1, .int .i64 a, .int .i64 b], .agg #[.bool s2, .int .i64 c, .int .i64 d]] w fun e w' => e = .returned (.tuple #[.agg #[.bool (lowM wd ⟨s1, a, b⟩ ⟨s2, c, d⟩).s, .int .i64 (lowM wd ⟨s1, a, b⟩ ⟨s2, c, d⟩).lo, .int .i64 (lowM wd ⟨s1, a, b⟩ ⟨s2, c, d⟩).hi], .agg #[.bool (highM wd ⟨s1, a, b⟩ ⟨s2, c, d⟩).s, .int .i64 (highM wd ⟨s1, a, b⟩ ⟨s2, c, d⟩).lo, .int .i64 (highM wd ⟨s1, a, b⟩ ⟨s2, c, d⟩).hi]]) ∧ Below w.heap.size w w' := by
  have H1 := hd (iUpTo wd d)
  have H2 := hd (iFromOn wd a)
  have H3 := hd (iMeetS wd s1 true a b (-topI wd) d)
  have H4 := hd (iMeetS wd s2 true c d a (topI wd))
  unfold lowM highM
  dsimp only
  generalize meetS wd ⟨s1, a, b⟩ ⟨true, -topI wd, d⟩ = U at *
  generalize meetS wd ⟨s2, c, d⟩ ⟨true, a, topI wd⟩ = V at *
  obtain ⟨u1, u2, u3⟩ := U
  obtain ⟨v1, v2, v3⟩ := V
  dsimp only at *
  generalize -topI wd = t' at *
  generalize topI wd = t at *
  have K := (((S3.made w _ rfl (.bool s1) (.int .i64 a) (.int .i64 b) 24).alloc (.cells #[.bool s2, .int .i64 c, .int .i64 d] 24)).alloc (.cells #[.bool false, .int .i64 0, .int .i64 0] 24)).alloc (.cells #[.bool false, .int .i64 0, .int .i64 0] 24)
  have L := ((S3.made (w.alloc (.cells #[.bool s1, .int .i64 a, .int .i64 b] 24)) (w.heap.size + 1) (by simp) (.bool s2) (.int .i64 c) (.int .i64 d) 24).alloc (.cells #[.bool false, .int .i64 0, .int .i64 0] 24)).alloc (.cells #[.bool false, .int .i64 0, .int .i64 0] 24)
  have N := (S3.made ((w.alloc (.cells #[.bool s1, .int .i64 a, .int .i64 b] 24)).alloc (.cells #[.bool s2, .int .i64 c, .int .i64 d] 24)) (w.heap.size + 1 + 1) (by simp) (.bool false) (.int .i64 0) (.int .i64 0) 24).alloc (.cells #[.bool false, .int .i64 0, .int .i64 0] 24)
  have M := S3.made (((w.alloc (.cells #[.bool s1, .int .i64 a, .int .i64 b] 24)).alloc (.cells #[.bool s2, .int .i64 c, .int .i64 d] 24)).alloc (.cells #[.bool false, .int .i64 0, .int .i64 0] 24)) (w.heap.size + 1 + 1 + 1) (by simp) (.bool false) (.int .i64 0) (.int .i64 0) 24
  have z01 : w.heap.size ≠ w.heap.size + 1 := by omega
  have z02 : w.heap.size ≠ w.heap.size + 1 + 1 := by omega
  have z03 : w.heap.size ≠ w.heap.size + 1 + 1 + 1 := by omega
  have z10 : w.heap.size + 1 ≠ w.heap.size := by omega
  have z12 : w.heap.size + 1 ≠ w.heap.size + 1 + 1 := by omega
  have z13 : w.heap.size + 1 ≠ w.heap.size + 1 + 1 + 1 := by omega
  have z20 : w.heap.size + 1 + 1 ≠ w.heap.size := by omega
  have z21 : w.heap.size + 1 + 1 ≠ w.heap.size + 1 := by omega
  have z23 : w.heap.size + 1 + 1 ≠ w.heap.size + 1 + 1 + 1 := by omega
  have z30 : w.heap.size + 1 + 1 + 1 ≠ w.heap.size := by omega
  have z31 : w.heap.size + 1 + 1 + 1 ≠ w.heap.size + 1 := by omega
  have z32 : w.heap.size + 1 + 1 + 1 ≠ w.heap.size + 1 + 1 := by omega
  obtain ⟨⟨K0, K1, K2⟩, -, Kz⟩ := id K
  obtain ⟨⟨L0, L1, L2⟩, -, Lz⟩ := id L
  have C1 := hd (fun w' (hS : w'.cell? ⟨w.heap.size, 0, none⟩ = some (.bool s1) ∧ w'.cell? ⟨w.heap.size, 1, none⟩ = some (.int .i64 a) ∧ w'.cell? ⟨w.heap.size, 2, none⟩ = some (.int .i64 b) ∧ w'.cell? ⟨w.heap.size + 1, 0, none⟩ = some (.bool s2) ∧ w'.cell? ⟨w.heap.size + 1, 1, none⟩ = some (.int .i64 c) ∧ w'.cell? ⟨w.heap.size + 1, 2, none⟩ = some (.int .i64 d)) => (H1.out w').mono (fun e w'' (k : _ ∧ _) => (⟨k, ⟨cell_later k.2 hS.1, cell_later k.2 hS.2.1, cell_later k.2 hS.2.2.1, cell_later k.2 hS.2.2.2.1, cell_later k.2 hS.2.2.2.2.1, cell_later k.2 hS.2.2.2.2.2⟩⟩ : (_ ∧ _) ∧ (w''.cell? ⟨w.heap.size, 0, none⟩ = some (.bool s1) ∧ w''.cell? ⟨w.heap.size, 1, none⟩ = some (.int .i64 a) ∧ w''.cell? ⟨w.heap.size, 2, none⟩ = some (.int .i64 b) ∧ w''.cell? ⟨w.heap.size + 1, 0, none⟩ = some (.bool s2) ∧ w''.cell? ⟨w.heap.size + 1, 1, none⟩ = some (.int .i64 c) ∧ w''.cell? ⟨w.heap.size + 1, 2, none⟩ = some (.int .i64 d)))))
  have C2 := hd (fun w' (hS : w'.cell? ⟨w.heap.size, 0, none⟩ = some (.bool s1) ∧ w'.cell? ⟨w.heap.size, 1, none⟩ = some (.int .i64 a) ∧ w'.cell? ⟨w.heap.size, 2, none⟩ = some (.int .i64 b) ∧ w'.cell? ⟨w.heap.size + 1, 0, none⟩ = some (.bool s2) ∧ w'.cell? ⟨w.heap.size + 1, 1, none⟩ = some (.int .i64 c) ∧ w'.cell? ⟨w.heap.size + 1, 2, none⟩ = some (.int .i64 d)) => (H2.out w').mono (fun e w'' (k : _ ∧ _) => (⟨k, ⟨cell_later k.2 hS.1, cell_later k.2 hS.2.1, cell_later k.2 hS.2.2.1, cell_later k.2 hS.2.2.2.1, cell_later k.2 hS.2.2.2.2.1, cell_later k.2 hS.2.2.2.2.2⟩⟩ : (_ ∧ _) ∧ (w''.cell? ⟨w.heap.size, 0, none⟩ = some (.bool s1) ∧ w''.cell? ⟨w.heap.size, 1, none⟩ = some (.int .i64 a) ∧ w''.cell? ⟨w.heap.size, 2, none⟩ = some (.int .i64 b) ∧ w''.cell? ⟨w.heap.size + 1, 0, none⟩ = some (.bool s2) ∧ w''.cell? ⟨w.heap.size + 1, 1, none⟩ = some (.int .i64 c) ∧ w''.cell? ⟨w.heap.size + 1, 2, none⟩ = some (.int .i64 d)))))
  have C3 := hd (fun w' (hS : w'.cell? ⟨w.heap.size, 0, none⟩ = some (.bool s1) ∧ w'.cell? ⟨w.heap.size, 1, none⟩ = some (.int .i64 a) ∧ w'.cell? ⟨w.heap.size, 2, none⟩ = some (.int .i64 b) ∧ w'.cell? ⟨w.heap.size + 1, 0, none⟩ = some (.bool s2) ∧ w'.cell? ⟨w.heap.size + 1, 1, none⟩ = some (.int .i64 c) ∧ w'.cell? ⟨w.heap.size + 1, 2, none⟩ = some (.int .i64 d)) => (H3.out w').mono (fun e w'' (k : _ ∧ _) => (⟨k, ⟨cell_later k.2 hS.1, cell_later k.2 hS.2.1, cell_later k.2 hS.2.2.1, cell_later k.2 hS.2.2.2.1, cell_later k.2 hS.2.2.2.2.1, cell_later k.2 hS.2.2.2.2.2⟩⟩ : (_ ∧ _) ∧ (w''.cell? ⟨w.heap.size, 0, none⟩ = some (.bool s1) ∧ w''.cell? ⟨w.heap.size, 1, none⟩ = some (.int .i64 a) ∧ w''.cell? ⟨w.heap.size, 2, none⟩ = some (.int .i64 b) ∧ w''.cell? ⟨w.heap.size + 1, 0, none⟩ = some (.bool s2) ∧ w''.cell? ⟨w.heap.size + 1, 1, none⟩ = some (.int .i64 c) ∧ w''.cell? ⟨w.heap.size + 1, 2, none⟩ = some (.int .i64 d)))))
  have C4 := hd (fun w' (hS : w'.cell? ⟨w.heap.size, 0, none⟩ = some (.bool s1) ∧ w'.cell? ⟨w.heap.size, 1, none⟩ = some (.int .i64 a) ∧ w'.cell? ⟨w.heap.size, 2, none⟩ = some (.int .i64 b) ∧ w'.cell? ⟨w.heap.size + 1, 0, none⟩ = some (.bool s2) ∧ w'.cell? ⟨w.heap.size + 1, 1, none⟩ = some (.int .i64 c) ∧ w'.cell? ⟨w.heap.size + 1, 2, none⟩ = some (.int .i64 d)) => (H4.out w').mono (fun e w'' (k : _ ∧ _) => (⟨k, ⟨cell_later k.2 hS.1, cell_later k.2 hS.2.1, cell_later k.2 hS.2.2.1, cell_later k.2 hS.2.2.2.1, cell_later k.2 hS.2.2.2.2.1, cell_later k.2 hS.2.2.2.2.2⟩⟩ : (_ ∧ _) ∧ (w''.cell? ⟨w.heap.size, 0, none⟩ = some (.bool s1) ∧ w''.cell? ⟨w.heap.size, 1, none⟩ = some (.int .i64 a) ∧ w''.cell? ⟨w.heap.size, 2, none⟩ = some (.int .i64 b) ∧ w''.cell? ⟨w.heap.size + 1, 0, none⟩ = some (.bool s2) ∧ w''.cell? ⟨w.heap.size + 1, 1, none⟩ = some (.int .i64 c) ∧ w''.cell? ⟨w.heap.size + 1, 2, none⟩ = some (.int .i64 d)))))
  clear H1 H2 H3 H4
  go_enter Tryz.func37, Tryz.ntmps37
  go_wp2_with fail
  go_region_held3 (fun w' => w'.cell? ⟨w.heap.size, 0, none⟩ = some (.bool s1) ∧ w'.cell? ⟨w.heap.size, 1, none⟩ = some (.int .i64 a) ∧ w'.cell? ⟨w.heap.size, 2, none⟩ = some (.int .i64 b) ∧ w'.cell? ⟨w.heap.size + 1, 0, none⟩ = some (.bool s2) ∧ w'.cell? ⟨w.heap.size + 1, 1, none⟩ = some (.int .i64 c) ∧ w'.cell? ⟨w.heap.size + 1, 2, none⟩ = some (.int .i64 d)) (go_keep) (first | (go_at_call 50; with_reducible refine (C1.out _ (by assumption)).mono ?_; rintro e wx ⟨⟨rfl, hbx⟩, hcx⟩; have N := (by first | exact N.later hbx | exact N.drew.later hbx : S3 wx _ _ _ _); obtain ⟨⟨N0, N1, N2⟩, ⟨Nf, Ng, Nh⟩, Nz⟩ := id N; have M := (by first | exact M.later hbx | exact M.drew.later hbx : S3 wx _ _ _ _); obtain ⟨⟨M0, M1, M2⟩, ⟨Mf, Mg, Mh⟩, Mz⟩ := id M) | (go_at_call 51; with_reducible refine (C2.out _ (by assumption)).mono ?_; rintro e wx ⟨⟨rfl, hbx⟩, hcx⟩; have N := (by first | exact N.later hbx | exact N.drew.later hbx : S3 wx _ _ _ _); obtain ⟨⟨N0, N1, N2⟩, ⟨Nf, Ng, Nh⟩, Nz⟩ := id N; have M := (by first | exact M.later hbx | exact M.drew.later hbx : S3 wx _ _ _ _); obtain ⟨⟨M0, M1, M2⟩, ⟨Mf, Mg, Mh⟩, Mz⟩ := id M) | (go_at_call 23; with_reducible refine (C3.out _ (by assumption)).mono ?_; rintro e wx ⟨⟨rfl, hbx⟩, hcx⟩; have N := (by first | exact N.later hbx | exact N.drew.later hbx : S3 wx _ _ _ _); obtain ⟨⟨N0, N1, N2⟩, ⟨Nf, Ng, Nh⟩, Nz⟩ := id N; have M := (by first | exact M.later hbx | exact M.drew.later hbx : S3 wx _ _ _ _); obtain ⟨⟨M0, M1, M2⟩, ⟨Mf, Mg, Mh⟩, Mz⟩ := id M) | (go_at_call 23; with_reducible refine (C4.out _ (by assumption)).mono ?_; rintro e wx ⟨⟨rfl, hbx⟩, hcx⟩; have N := (by first | exact N.later hbx | exact N.drew.later hbx : S3 wx _ _ _ _); obtain ⟨⟨N0, N1, N2⟩, ⟨Nf, Ng, Nh⟩, Nz⟩ := id N; have M := (by first | exact M.later hbx | exact M.drew.later hbx : S3 wx _ _ _ _); obtain ⟨⟨M0, M1, M2⟩, ⟨Mf, Mg, Mh⟩, Mz⟩ := id M))
  all_goals
    go_wp2
    refine bodyPost_ret (v := .tuple #[.agg #[.bool u1, .int .i64 u2, .int .i64 u3], .agg #[.bool v1, .int .i64 v2, .int .i64 v3]]) ?_ rfl ⟨rfl, (by repeat (first | with_reducible exact Below.refl _ _ | with_reducible refine Below.drew ?_ | ((with_reducible refine Below.setCell ?_ ?_ _); rotate_left; (focus (first | (simp; done) | omega | (simp; omega)))) | with_reducible refine old_alloc ?_ _ | with_reducible refine old_trans ?_ (by with_reducible assumption)))⟩
    simp [results, Tryz.results37, go_sem, N0, N1, N2, M0, M1, M2]
set_option maxHeartbeats 4000000 in
theorem iMet2 (wd : Int) (s1 s2 : Bool) (a b c d : Int) (w : World) :
    Calls Tryz.prog 37 #[.int .i64 2, .int .i64 wd, .agg #[.bool s1, .int .i64 a, .int .i64 b], .agg #[.bool s2, .int .i64 c, .int .i64 d]] w fun e w' => e = .returned (.tuple #[.agg #[.bool (highM wd ⟨s2, c, d⟩ ⟨s1, a, b⟩).s, .int .i64 (highM wd ⟨s2, c, d⟩ ⟨s1, a, b⟩).lo, .int .i64 (highM wd ⟨s2, c, d⟩ ⟨s1, a, b⟩).hi], .agg #[.bool (lowM wd ⟨s2, c, d⟩ ⟨s1, a, b⟩).s, .int .i64 (lowM wd ⟨s2, c, d⟩ ⟨s1, a, b⟩).lo, .int .i64 (lowM wd ⟨s2, c, d⟩ ⟨s1, a, b⟩).hi]]) ∧ Below w.heap.size w w' := by
  have H1 := hd (iMet1 wd s2 s1 c d a b)
  generalize lowM wd ⟨s2, c, d⟩ ⟨s1, a, b⟩ = U at *
  generalize highM wd ⟨s2, c, d⟩ ⟨s1, a, b⟩ = V at *
  obtain ⟨u1, u2, u3⟩ := U
  obtain ⟨v1, v2, v3⟩ := V
  dsimp only at *
  have K := (((S3.made w _ rfl (.bool s1) (.int .i64 a) (.int .i64 b) 24).alloc (.cells #[.bool s2, .int .i64 c, .int .i64 d] 24)).alloc (.cells #[.bool false, .int .i64 0, .int .i64 0] 24)).alloc (.cells #[.bool false, .int .i64 0, .int .i64 0] 24)
  have L := ((S3.made (w.alloc (.cells #[.bool s1, .int .i64 a, .int .i64 b] 24)) (w.heap.size + 1) (by simp) (.bool s2) (.int .i64 c) (.int .i64 d) 24).alloc (.cells #[.bool false, .int .i64 0, .int .i64 0] 24)).alloc (.cells #[.bool false, .int .i64 0, .int .i64 0] 24)
  have N := (S3.made ((w.alloc (.cells #[.bool s1, .int .i64 a, .int .i64 b] 24)).alloc (.cells #[.bool s2, .int .i64 c, .int .i64 d] 24)) (w.heap.size + 1 + 1) (by simp) (.bool false) (.int .i64 0) (.int .i64 0) 24).alloc (.cells #[.bool false, .int .i64 0, .int .i64 0] 24)
  have M := S3.made (((w.alloc (.cells #[.bool s1, .int .i64 a, .int .i64 b] 24)).alloc (.cells #[.bool s2, .int .i64 c, .int .i64 d] 24)).alloc (.cells #[.bool false, .int .i64 0, .int .i64 0] 24)) (w.heap.size + 1 + 1 + 1) (by simp) (.bool false) (.int .i64 0) (.int .i64 0) 24
  have z01 : w.heap.size ≠ w.heap.size + 1 := by omega
  have z02 : w.heap.size ≠ w.heap.size + 1 + 1 := by omega
  have z03 : w.heap.size ≠ w.heap.size + 1 + 1 + 1 := by omega
  have z10 : w.heap.size + 1 ≠ w.heap.size := by omega
  have z12 : w.heap.size + 1 ≠ w.heap.size + 1 + 1 := by omega
  have z13 : w.heap.size + 1 ≠ w.heap.size + 1 + 1 + 1 := by omega
  have z20 : w.heap.size + 1 + 1 ≠ w.heap.size := by omega
  have z21 : w.heap.size + 1 + 1 ≠ w.heap.size + 1 := by omega
  have z23 : w.heap.size + 1 + 1 ≠ w.heap.size + 1 + 1 + 1 := by omega
  have z30 : w.heap.size + 1 + 1 + 1 ≠ w.heap.size := by omega
  have z31 : w.heap.size + 1 + 1 + 1 ≠ w.heap.size + 1 := by omega
  have z32 : w.heap.size + 1 + 1 + 1 ≠ w.heap.size + 1 + 1 := by omega
  obtain ⟨⟨K0, K1, K2⟩, -, Kz⟩ := id K
  obtain ⟨⟨L0, L1, L2⟩, -, Lz⟩ := id L
  go_enter Tryz.func37, Tryz.ntmps37
  go_wp2_with fail
  refine (H1.out _).mono ?_
  rintro e w1 ⟨rfl, hb1⟩
  have hw1 : w.heap.size + 1 + 1 + 1 < w1.heap.size := Nat.lt_of_lt_of_le M.lt hb1.size
  have hB : Below w.heap.size w ((w1.alloc (.cells #[.bool u1, .int .i64 u2, .int .i64 u3] 24)).alloc (.cells #[.bool v1, .int .i64 v2, .int .i64 v3] 24)) := (by repeat (first | with_reducible exact Below.refl _ _ | with_reducible refine Below.drew ?_ | ((with_reducible refine Below.setCell ?_ ?_ _); rotate_left; (focus (first | (simp; done) | omega | (simp; omega)))) | with_reducible refine old_alloc ?_ _ | with_reducible refine old_trans ?_ (by with_reducible assumption)))
  have G := (S3.made w1 _ rfl (.bool u1) (.int .i64 u2) (.int .i64 u3) 24).alloc (.cells #[.bool v1, .int .i64 v2, .int .i64 v3] 24)
  have O := S3.made (w1.alloc (.cells #[.bool u1, .int .i64 u2, .int .i64 u3] 24)) (w1.heap.size + 1) (by simp) (.bool v1) (.int .i64 v2) (.int .i64 v3) 24
  replace N := ((N.later hb1).alloc (.cells #[.bool u1, .int .i64 u2, .int .i64 u3] 24)).alloc (.cells #[.bool v1, .int .i64 v2, .int .i64 v3] 24)
  replace M := ((M.later hb1).alloc (.cells #[.bool u1, .int .i64 u2, .int .i64 u3] 24)).alloc (.cells #[.bool v1, .int .i64 v2, .int .i64 v3] 24)
  clear K L K0 K1 K2 Kz L0 L1 L2 Lz H1
  go_wp2_with fail
  generalize (w1.alloc (.cells #[.bool u1, .int .i64 u2, .int .i64 u3] 24)).alloc (.cells #[.bool v1, .int .i64 v2, .int .i64 v3] 24) = w2 at *
  generalize w1.heap.size = bp at *
  clear hb1
  have y1 : w.heap.size + 1 + 1 ≠ bp := by omega
  have y2 : w.heap.size + 1 + 1 + 1 ≠ bp := by omega
  have y3 : bp ≠ w.heap.size + 1 + 1 := by omega
  have y4 : bp ≠ w.heap.size + 1 + 1 + 1 := by omega
  have y5 : bp ≠ w.heap.size + 1 := by omega
  have y6 : w.heap.size + 1 ≠ bp := by omega
  clear hw1
  obtain ⟨⟨G0, G1, G2⟩, -, Gz⟩ := id G
  obtain ⟨⟨O0, O1, O2⟩, -, Oz⟩ := id O
  obtain ⟨⟨N0, N1, N2⟩, ⟨Nf, Ng, Nh⟩, Nz⟩ := id N
  obtain ⟨⟨M0, M1, M2⟩, ⟨Mf, Mg, Mh⟩, Mz⟩ := id M
  go_region
  all_goals
    go_wp2
    refine bodyPost_ret (v := .tuple #[.agg #[.bool v1, .int .i64 v2, .int .i64 v3], .agg #[.bool u1, .int .i64 u2, .int .i64 u3]]) ?_ rfl ⟨rfl, (by repeat (first | with_reducible exact hB | with_reducible exact Below.refl _ _ | with_reducible refine Below.drew ?_ | ((with_reducible refine Below.setCell ?_ ?_ _); rotate_left; (focus (first | (simp; done) | omega | (simp; omega)))) | with_reducible refine old_alloc ?_ _ | with_reducible refine old_trans ?_ (by with_reducible assumption)))⟩
    simp [results, Tryz.results37, go_sem, N0, N1, N2, M0, M1, M2]
set_option maxHeartbeats 4000000 in
theorem iMet3 (wd : Int) (s1 s2 : Bool) (a b c d : Int) (w : World) :
    Calls Tryz.prog 37 #[.int .i64 3, .int .i64 wd, .agg #[.bool s1, .int .i64 a, .int .i64 b], .agg #[.bool s2, .int .i64 c, .int .i64 d]] w fun e w' => e = .returned (.tuple #[.agg #[.bool (meetS wd ⟨s1, a, b⟩ ⟨s2, c, d⟩).s, .int .i64 (meetS wd ⟨s1, a, b⟩ ⟨s2, c, d⟩).lo, .int .i64 (meetS wd ⟨s1, a, b⟩ ⟨s2, c, d⟩).hi], .agg #[.bool (meetS wd ⟨s1, a, b⟩ ⟨s2, c, d⟩).s, .int .i64 (meetS wd ⟨s1, a, b⟩ ⟨s2, c, d⟩).lo, .int .i64 (meetS wd ⟨s1, a, b⟩ ⟨s2, c, d⟩).hi]]) ∧ Below w.heap.size w w' := by
  have H1 := hd (iMeetS wd s1 s2 a b c d)
  generalize meetS wd ⟨s1, a, b⟩ ⟨s2, c, d⟩ = U at *
  obtain ⟨u1, u2, u3⟩ := U
  dsimp only at *
  have K := (((S3.made w _ rfl (.bool s1) (.int .i64 a) (.int .i64 b) 24).alloc (.cells #[.bool s2, .int .i64 c, .int .i64 d] 24)).alloc (.cells #[.bool false, .int .i64 0, .int .i64 0] 24)).alloc (.cells #[.bool false, .int .i64 0, .int .i64 0] 24)
  have L := ((S3.made (w.alloc (.cells #[.bool s1, .int .i64 a, .int .i64 b] 24)) (w.heap.size + 1) (by simp) (.bool s2) (.int .i64 c) (.int .i64 d) 24).alloc (.cells #[.bool false, .int .i64 0, .int .i64 0] 24)).alloc (.cells #[.bool false, .int .i64 0, .int .i64 0] 24)
  have N := (S3.made ((w.alloc (.cells #[.bool s1, .int .i64 a, .int .i64 b] 24)).alloc (.cells #[.bool s2, .int .i64 c, .int .i64 d] 24)) (w.heap.size + 1 + 1) (by simp) (.bool false) (.int .i64 0) (.int .i64 0) 24).alloc (.cells #[.bool false, .int .i64 0, .int .i64 0] 24)
  have M := S3.made (((w.alloc (.cells #[.bool s1, .int .i64 a, .int .i64 b] 24)).alloc (.cells #[.bool s2, .int .i64 c, .int .i64 d] 24)).alloc (.cells #[.bool false, .int .i64 0, .int .i64 0] 24)) (w.heap.size + 1 + 1 + 1) (by simp) (.bool false) (.int .i64 0) (.int .i64 0) 24
  have z01 : w.heap.size ≠ w.heap.size + 1 := by omega
  have z02 : w.heap.size ≠ w.heap.size + 1 + 1 := by omega
  have z03 : w.heap.size ≠ w.heap.size + 1 + 1 + 1 := by omega
  have z10 : w.heap.size + 1 ≠ w.heap.size := by omega
  have z12 : w.heap.size + 1 ≠ w.heap.size + 1 + 1 := by omega
  have z13 : w.heap.size + 1 ≠ w.heap.size + 1 + 1 + 1 := by omega
  have z20 : w.heap.size + 1 + 1 ≠ w.heap.size := by omega
  have z21 : w.heap.size + 1 + 1 ≠ w.heap.size + 1 := by omega
  have z23 : w.heap.size + 1 + 1 ≠ w.heap.size + 1 + 1 + 1 := by omega
  have z30 : w.heap.size + 1 + 1 + 1 ≠ w.heap.size := by omega
  have z31 : w.heap.size + 1 + 1 + 1 ≠ w.heap.size + 1 := by omega
  have z32 : w.heap.size + 1 + 1 + 1 ≠ w.heap.size + 1 + 1 := by omega
  obtain ⟨⟨K0, K1, K2⟩, -, Kz⟩ := id K
  obtain ⟨⟨L0, L1, L2⟩, -, Lz⟩ := id L
  go_enter Tryz.func37, Tryz.ntmps37
  go_wp2_with fail
  refine (H1.out _).mono ?_
  rintro e w1 ⟨rfl, hb1⟩
  have hw1 : w.heap.size + 1 + 1 + 1 < w1.heap.size := Nat.lt_of_lt_of_le M.lt hb1.size
  have hB : Below w.heap.size w (w1.alloc (.cells #[.bool u1, .int .i64 u2, .int .i64 u3] 24)) := (by repeat (first | with_reducible exact Below.refl _ _ | with_reducible refine Below.drew ?_ | ((with_reducible refine Below.setCell ?_ ?_ _); rotate_left; (focus (first | (simp; done) | omega | (simp; omega)))) | with_reducible refine old_alloc ?_ _ | with_reducible refine old_trans ?_ (by with_reducible assumption)))
  have G := S3.made w1 _ rfl (.bool u1) (.int .i64 u2) (.int .i64 u3) 24
  replace N := (N.later hb1).alloc (.cells #[.bool u1, .int .i64 u2, .int .i64 u3] 24)
  replace M := (M.later hb1).alloc (.cells #[.bool u1, .int .i64 u2, .int .i64 u3] 24)
  clear K L K0 K1 K2 Kz L0 L1 L2 Lz H1
  go_wp2_with fail
  generalize w1.alloc (.cells #[.bool u1, .int .i64 u2, .int .i64 u3] 24) = w2 at *
  generalize w1.heap.size = bp at *
  clear hb1
  have y1 : w.heap.size + 1 + 1 ≠ bp := by omega
  have y2 : w.heap.size + 1 + 1 + 1 ≠ bp := by omega
  have y3 : bp ≠ w.heap.size + 1 + 1 := by omega
  have y4 : bp ≠ w.heap.size + 1 + 1 + 1 := by omega
  clear hw1
  obtain ⟨⟨G0, G1, G2⟩, -, Gz⟩ := id G
  obtain ⟨⟨N0, N1, N2⟩, ⟨Nf, Ng, Nh⟩, Nz⟩ := id N
  obtain ⟨⟨M0, M1, M2⟩, ⟨Mf, Mg, Mh⟩, Mz⟩ := id M
  go_region
  all_goals
    go_wp2
    refine bodyPost_ret (v := .tuple #[.agg #[.bool u1, .int .i64 u2, .int .i64 u3], .agg #[.bool u1, .int .i64 u2, .int .i64 u3]]) ?_ rfl ⟨rfl, (by repeat (first | with_reducible exact hB | with_reducible exact Below.refl _ _ | with_reducible refine Below.drew ?_ | ((with_reducible refine Below.setCell ?_ ?_ _); rotate_left; (focus (first | (simp; done) | omega | (simp; omega)))) | with_reducible refine old_alloc ?_ _ | with_reducible refine old_trans ?_ (by with_reducible assumption)))⟩
    simp [results, Tryz.results37, go_sem, N0, N1, N2, M0, M1, M2]
set_option maxHeartbeats 2000000 in
theorem iMet0 (rl wd : Int) (h1 : rl ≠ 1) (h2 : rl ≠ 2) (h3 : rl ≠ 3) (s1 s2 : Bool) (a b c d : Int) (w : World) :
    Calls Tryz.prog 37 #[.int .i64 rl, .int .i64 wd, .agg #[.bool s1, .int .i64 a, .int .i64 b], .agg #[.bool s2, .int .i64 c, .int .i64 d]] w fun e w' => e = .returned (.tuple #[.agg #[.bool false, .int .i64 0, .int .i64 0], .agg #[.bool false, .int .i64 0, .int .i64 0]]) ∧ Below w.heap.size w w' := by
  have d1 : (rl == 1) = false := by simpa using h1
  have d2 : (rl == 2) = false := by simpa using h2
  have d3 : (rl == 3) = false := by simpa using h3
  go_enter Tryz.func37, Tryz.ntmps37
  go_wp2
  refine bodyPost_ret (v := .tuple #[.agg #[.bool false, .int .i64 0, .int .i64 0], .agg #[.bool false, .int .i64 0, .int .i64 0]]) ?_ rfl ⟨rfl, (by repeat (first | with_reducible exact Below.refl _ _ | with_reducible refine Below.drew ?_ | ((with_reducible refine Below.setCell ?_ ?_ _); rotate_left; (focus (first | (simp; done) | omega | (simp; omega)))) | with_reducible refine old_alloc ?_ _ | with_reducible refine old_trans ?_ (by with_reducible assumption)))⟩
  simp [results, Tryz.results37, go_sem]
def relA (wd rl : Int) (x y : Sp) : Sp := if rl = 1 then lowM wd x y else if rl = 2 then highM wd y x else if rl = 3 then meetS wd x y else nilS
def relB (wd rl : Int) (x y : Sp) : Sp := if rl = 1 then highM wd x y else if rl = 2 then lowM wd y x else if rl = 3 then meetS wd x y else nilS
theorem iMet (wd rl : Int) (s1 s2 : Bool) (a b c d : Int) (w : World) :
    Calls Tryz.prog 37 #[.int .i64 rl, .int .i64 wd, .agg #[.bool s1, .int .i64 a, .int .i64 b], .agg #[.bool s2, .int .i64 c, .int .i64 d]] w fun e w' => e = .returned (.tuple #[.agg #[.bool (relA wd rl ⟨s1, a, b⟩ ⟨s2, c, d⟩).s, .int .i64 (relA wd rl ⟨s1, a, b⟩ ⟨s2, c, d⟩).lo, .int .i64 (relA wd rl ⟨s1, a, b⟩ ⟨s2, c, d⟩).hi], .agg #[.bool (relB wd rl ⟨s1, a, b⟩ ⟨s2, c, d⟩).s, .int .i64 (relB wd rl ⟨s1, a, b⟩ ⟨s2, c, d⟩).lo, .int .i64 (relB wd rl ⟨s1, a, b⟩ ⟨s2, c, d⟩).hi]]) ∧ Below w.heap.size w w' := by
  by_cases h1 : rl = 1
  · subst h1; exact iMet1 wd s1 s2 a b c d w
  by_cases h2 : rl = 2
  · subst h2; exact iMet2 wd s1 s2 a b c d w
  by_cases h3 : rl = 3
  · subst h3; exact iMet3 wd s1 s2 a b c d w
  have e1 : relA wd rl ⟨s1, a, b⟩ ⟨s2, c, d⟩ = nilS := by unfold relA; rw [if_neg h1, if_neg h2, if_neg h3]
  have e2 : relB wd rl ⟨s1, a, b⟩ ⟨s2, c, d⟩ = nilS := by unfold relB; rw [if_neg h1, if_neg h2, if_neg h3]
  rw [e1, e2]
  exact iMet0 rl wd h1 h2 h3 s1 s2 a b c d w
def metA (wd rl : Int) (x y : Sp) : Sp := if someS wd x && someS wd y then relA wd rl x y else nilS
def metB (wd rl : Int) (x y : Sp) : Sp := if someS wd x && someS wd y then relB wd rl x y else nilS
set_option maxHeartbeats 4000000 in
theorem iRelMeet (wd rl : Int) (s1 s2 : Bool) (a b c d : Int) (w : World) :
    Calls Tryz.prog 14 #[.int .i64 wd, .int .i64 rl, .agg #[.bool s1, .int .i64 a, .int .i64 b], .agg #[.bool s2, .int .i64 c, .int .i64 d]] w fun e w' => e = .returned (.tuple #[.agg #[.bool (metA wd rl ⟨s1, a, b⟩ ⟨s2, c, d⟩).s, .int .i64 (metA wd rl ⟨s1, a, b⟩ ⟨s2, c, d⟩).lo, .int .i64 (metA wd rl ⟨s1, a, b⟩ ⟨s2, c, d⟩).hi], .agg #[.bool (metB wd rl ⟨s1, a, b⟩ ⟨s2, c, d⟩).s, .int .i64 (metB wd rl ⟨s1, a, b⟩ ⟨s2, c, d⟩).lo, .int .i64 (metB wd rl ⟨s1, a, b⟩ ⟨s2, c, d⟩).hi]]) ∧ Below w.heap.size w w' := by
  have H1 := hd (iIsSome wd s1 a b)
  have H2 := hd (iIsSome wd s2 c d)
  have H3 := hd (iMet wd rl s1 s2 a b c d)
  unfold metA metB
  generalize relA wd rl ⟨s1, a, b⟩ ⟨s2, c, d⟩ = U at *
  generalize relB wd rl ⟨s1, a, b⟩ ⟨s2, c, d⟩ = V at *
  generalize someS wd ⟨s1, a, b⟩ = q1 at *
  generalize someS wd ⟨s2, c, d⟩ = q2 at *
  obtain ⟨u1, u2, u3⟩ := U
  obtain ⟨v1, v2, v3⟩ := V
  dsimp only at H3
  have K := (((S3.made w _ rfl (.bool s1) (.int .i64 a) (.int .i64 b) 24).alloc (.cells #[.bool s2, .int .i64 c, .int .i64 d] 24)).alloc (.cells #[.bool false, .int .i64 0, .int .i64 0] 24)).alloc (.cells #[.bool false, .int .i64 0, .int .i64 0] 24)
  have L := ((S3.made (w.alloc (.cells #[.bool s1, .int .i64 a, .int .i64 b] 24)) (w.heap.size + 1) (by simp) (.bool s2) (.int .i64 c) (.int .i64 d) 24).alloc (.cells #[.bool false, .int .i64 0, .int .i64 0] 24)).alloc (.cells #[.bool false, .int .i64 0, .int .i64 0] 24)
  have N := (S3.made ((w.alloc (.cells #[.bool s1, .int .i64 a, .int .i64 b] 24)).alloc (.cells #[.bool s2, .int .i64 c, .int .i64 d] 24)) (w.heap.size + 1 + 1) (by simp) (.bool false) (.int .i64 0) (.int .i64 0) 24).alloc (.cells #[.bool false, .int .i64 0, .int .i64 0] 24)
  have M := S3.made (((w.alloc (.cells #[.bool s1, .int .i64 a, .int .i64 b] 24)).alloc (.cells #[.bool s2, .int .i64 c, .int .i64 d] 24)).alloc (.cells #[.bool false, .int .i64 0, .int .i64 0] 24)) (w.heap.size + 1 + 1 + 1) (by simp) (.bool false) (.int .i64 0) (.int .i64 0) 24
  obtain ⟨⟨K0, K1, K2⟩, -, Kz⟩ := id K
  obtain ⟨⟨L0, L1, L2⟩, -, Lz⟩ := id L
  go_enter Tryz.func14, Tryz.ntmps14
  go_wp2_with fail
  refine (H1.out _).mono ?_
  rintro e w1 ⟨rfl, hb1⟩
  replace K := K.later hb1
  replace L := L.later hb1
  replace N := N.later hb1
  replace M := M.later hb1
  have hB : Below w.heap.size w w1 := (by repeat (first | with_reducible exact Below.refl _ _ | with_reducible refine Below.drew ?_ | ((with_reducible refine Below.setCell ?_ ?_ _); rotate_left; (focus (first | (simp; done) | omega | (simp; omega)))) | with_reducible refine old_alloc ?_ _ | with_reducible refine old_trans ?_ (by with_reducible assumption)))
  clear hb1
  clear K0 K1 K2 Kz L0 L1 L2 Lz
  obtain ⟨⟨K0, K1, K2⟩, -, Kz⟩ := id K
  obtain ⟨⟨L0, L1, L2⟩, -, Lz⟩ := id L
  cases q1
  · obtain ⟨⟨N0, N1, N2⟩, ⟨Nf, Ng, Nh⟩, Nz⟩ := id N
    obtain ⟨⟨M0, M1, M2⟩, ⟨Mf, Mg, Mh⟩, Mz⟩ := id M
    go_wp2
    refine bodyPost_ret (v := .tuple #[.agg #[.bool false, .int .i64 0, .int .i64 0], .agg #[.bool false, .int .i64 0, .int .i64 0]]) ?_ rfl ⟨rfl, (by repeat (first | with_reducible exact hB | with_reducible exact Below.refl _ _ | with_reducible refine Below.drew ?_ | ((with_reducible refine Below.setCell ?_ ?_ _); rotate_left; (focus (first | (simp; done) | omega | (simp; omega)))) | with_reducible refine old_alloc ?_ _ | with_reducible refine old_trans ?_ (by with_reducible assumption)))⟩
    simp [results, Tryz.results14, go_sem, N0, N1, N2, M0, M1, M2]
  go_wp2_with fail
  refine (H2.out _).mono ?_
  rintro e w2 ⟨rfl, hb2⟩
  replace K := K.later hb2
  replace L := L.later hb2
  replace N := N.later hb2
  replace M := M.later hb2
  replace hB := old_trans hB hb2
  clear hb2
  clear K0 K1 K2 Kz L0 L1 L2 Lz
  obtain ⟨⟨K0, K1, K2⟩, -, Kz⟩ := id K
  obtain ⟨⟨L0, L1, L2⟩, -, Lz⟩ := id L
  cases q2
  · obtain ⟨⟨N0, N1, N2⟩, ⟨Nf, Ng, Nh⟩, Nz⟩ := id N
    obtain ⟨⟨M0, M1, M2⟩, ⟨Mf, Mg, Mh⟩, Mz⟩ := id M
    go_wp2
    refine bodyPost_ret (v := .tuple #[.agg #[.bool false, .int .i64 0, .int .i64 0], .agg #[.bool false, .int .i64 0, .int .i64 0]]) ?_ rfl ⟨rfl, (by repeat (first | with_reducible exact hB | with_reducible exact Below.refl _ _ | with_reducible refine Below.drew ?_ | ((with_reducible refine Below.setCell ?_ ?_ _); rotate_left; (focus (first | (simp; done) | omega | (simp; omega)))) | with_reducible refine old_alloc ?_ _ | with_reducible refine old_trans ?_ (by with_reducible assumption)))⟩
    simp [results, Tryz.results14, go_sem, N0, N1, N2, M0, M1, M2]
  go_wp2_with fail
  refine (H3.out _).mono ?_
  rintro e w3 ⟨rfl, hb3⟩
  replace N := N.later hb3
  replace M := M.later hb3
  replace hB := old_trans hB hb3
  clear hb3
  obtain ⟨⟨N0, N1, N2⟩, ⟨Nf, Ng, Nh⟩, Nz⟩ := id N
  obtain ⟨⟨M0, M1, M2⟩, ⟨Mf, Mg, Mh⟩, Mz⟩ := id M
  go_wp2
  refine bodyPost_ret (v := .tuple #[.agg #[.bool u1, .int .i64 u2, .int .i64 u3], .agg #[.bool v1, .int .i64 v2, .int .i64 v3]]) ?_ rfl ⟨rfl, (by repeat (first | with_reducible exact hB | with_reducible exact Below.refl _ _ | with_reducible refine Below.drew ?_ | ((with_reducible refine Below.setCell ?_ ?_ _); rotate_left; (focus (first | (simp; done) | omega | (simp; omega)))) | with_reducible refine old_alloc ?_ _ | with_reducible refine old_trans ?_ (by with_reducible assumption)))⟩
  simp [results, Tryz.results14, go_sem, N0, N1, N2, M0, M1, M2]
end Go.Proofs.YtpjagplloljefaaGreat
