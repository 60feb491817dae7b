/- Relations of two spans that are sure, by the program and by the specification; nothing that was there is written. No condition. -/
import Derived.Test.YtpjagplloljefaaRQ
import Derived.Test.YtpjagplloljefaaST
namespace Go.Proofs.Ytpjagplloljefaa
open Go.RowKit
set_option linter.unusedVariables false

attribute [local go_sem] fld_some eql_span
def lessS (a b c d : Int) : Int := if b ≤ c then 1 else if d < a then -1 else 0
theorem less_1 {a b c d : Int} (h : b ≤ c) : lessS a b c d = 1 := if_pos h
theorem less_m {a b c d : Int} (h : ¬ b ≤ c) (g : d < a) : lessS a b c d = -1 := by unfold lessS; rw [if_neg h, if_pos g]
theorem less_0 {a b c d : Int} (h : ¬ b ≤ c) (g : ¬ d < a) : lessS a b c d = 0 := by unfold lessS; rw [if_neg h, if_neg g]
theorem ret_i {x y : Int} (h : x = y) : Ending.returned (.int .i64 x) = .returned (.int .i64 y) := by rw [h]
set_option maxHeartbeats 2000000 in
theorem iSure1 (s1 s2 : Bool) (a b c d : Int) (w : World) :
    Calls Try.prog 12 #[.int .i64 1, .agg #[.bool s1, .int .i64 a, .int .i64 b], .agg #[.bool s2, .int .i64 c, .int .i64 d]] w fun e w' => e = .returned (.int .i64 (lessS a b c d)) ∧ Below w.heap.size w w' := by
  have K := (S3.made w _ rfl (.bool s1) (.int .i64 a) (.int .i64 b) 25).alloc (.cells #[.bool s2, .int .i64 c, .int .i64 d] 25)
  have M := S3.made (w.alloc (.cells #[.bool s1, .int .i64 a, .int .i64 b] 25)) (w.heap.size + 1) (by simp) (.bool s2) (.int .i64 c) (.int .i64 d) 25
  obtain ⟨⟨k0, k1, k2⟩, -, kz⟩ := id K
  obtain ⟨⟨m0, m1, m2⟩, -, mz⟩ := id M
  by_cases h1 : b ≤ c
  · have hr := hd (@less_1 a b c d h1)
    go_enter Try.func12, Try.ntmps12
    go_wp2
    go_ret
    exact ⟨ret_i hr.out.symm, (by repeat (first | exact Below.refl _ _ | refine Below.drew ?_ | refine old_alloc ?_ _ | refine old_trans ?_ (by assumption)))⟩
  by_cases h2 : d < a
  · have hr := hd (less_m h1 h2)
    go_enter Try.func12, Try.ntmps12
    go_wp2
    go_ret
    exact ⟨ret_i hr.out.symm, (by repeat (first | exact Below.refl _ _ | refine Below.drew ?_ | refine old_alloc ?_ _ | refine old_trans ?_ (by assumption)))⟩
  have hr := hd (less_0 h1 h2)
  go_enter Try.func12, Try.ntmps12
  go_wp2
  go_ret
  exact ⟨ret_i hr.out.symm, (by repeat (first | exact Below.refl _ _ | refine Below.drew ?_ | refine old_alloc ?_ _ | refine old_trans ?_ (by assumption)))⟩
set_option maxHeartbeats 2000000 in
theorem iSure2 (s1 s2 : Bool) (a b c d : Int) (w : World) :
    Calls Try.prog 12 #[.int .i64 2, .agg #[.bool s1, .int .i64 a, .int .i64 b], .agg #[.bool s2, .int .i64 c, .int .i64 d]] w fun e w' => e = .returned (.int .i64 (lessS c d a b)) ∧ Below w.heap.size w w' := by
  have K := (S3.made w _ rfl (.bool s1) (.int .i64 a) (.int .i64 b) 25).alloc (.cells #[.bool s2, .int .i64 c, .int .i64 d] 25)
  have M := S3.made (w.alloc (.cells #[.bool s1, .int .i64 a, .int .i64 b] 25)) (w.heap.size + 1) (by simp) (.bool s2) (.int .i64 c) (.int .i64 d) 25
  obtain ⟨⟨k0, k1, k2⟩, -, kz⟩ := id K
  obtain ⟨⟨m0, m1, m2⟩, -, mz⟩ := id M
  have H := hd (iSure1 s2 s1 c d a b)
  generalize lessS c d a b = r at *
  go_enter Try.func12, Try.ntmps12
  go_wp2_with fail
  refine (H.out _).mono ?_
  rintro e w1 ⟨rfl, hb1⟩
  go_wp2
  go_ret
  exact ⟨rfl, (by repeat (first | exact Below.refl _ _ | refine Below.drew ?_ | refine old_alloc ?_ _ | refine old_trans ?_ (by assumption)))⟩
set_option maxHeartbeats 4000000 in
theorem iSure3 (s1 s2 : Bool) (a b c d : Int) (w : World) :
    Calls Try.prog 12 #[.int .i64 3, .agg #[.bool s1, .int .i64 a, .int .i64 b], .agg #[.bool s2, .int .i64 c, .int .i64 d]] w fun e w' => e = .returned (.int .i64 (min (lessS a b c d) (lessS c d a b))) ∧ Below w.heap.size w w' := by
  have K := (S3.made w _ rfl (.bool s1) (.int .i64 a) (.int .i64 b) 25).alloc (.cells #[.bool s2, .int .i64 c, .int .i64 d] 25)
  have M := S3.made (w.alloc (.cells #[.bool s1, .int .i64 a, .int .i64 b] 25)) (w.heap.size + 1) (by simp) (.bool s2) (.int .i64 c) (.int .i64 d) 25
  obtain ⟨⟨k0, k1, k2⟩, -, kz⟩ := id K
  obtain ⟨⟨m0, m1, m2⟩, -, mz⟩ := id M
  have H1 := hd (iSure1 s1 s2 a b c d)
  have H2 := hd (iSure1 s2 s1 c d a b)
  generalize lessS c d a b = r at *
  generalize lessS a b c d = q at *
  have C1 := hd (fun w' (hS : w'.cell? ⟨w.heap.size, 0, none⟩ = some (.bool s1) ∧ w'.cell? ⟨w.heap.size, 1, none⟩ = some (.int .i64 a) ∧ w'.cell? ⟨w.heap.size, 2, none⟩ = some (.int .i64 b) ∧ w'.cell? ⟨w.heap.size + 1, 0, none⟩ = some (.bool s2) ∧ w'.cell? ⟨w.heap.size + 1, 1, none⟩ = some (.int .i64 c) ∧ w'.cell? ⟨w.heap.size + 1, 2, none⟩ = some (.int .i64 d)) => (H1.out w').mono (fun e w'' (k : _ ∧ _) => (⟨k, six_later hS k.2⟩ : (_ ∧ _) ∧ (w''.cell? ⟨w.heap.size, 0, none⟩ = some (.bool s1) ∧ w''.cell? ⟨w.heap.size, 1, none⟩ = some (.int .i64 a) ∧ w''.cell? ⟨w.heap.size, 2, none⟩ = some (.int .i64 b) ∧ w''.cell? ⟨w.heap.size + 1, 0, none⟩ = some (.bool s2) ∧ w''.cell? ⟨w.heap.size + 1, 1, none⟩ = some (.int .i64 c) ∧ w''.cell? ⟨w.heap.size + 1, 2, none⟩ = some (.int .i64 d)))))
  have C2 := hd (fun w' (hS : w'.cell? ⟨w.heap.size, 0, none⟩ = some (.bool s1) ∧ w'.cell? ⟨w.heap.size, 1, none⟩ = some (.int .i64 a) ∧ w'.cell? ⟨w.heap.size, 2, none⟩ = some (.int .i64 b) ∧ w'.cell? ⟨w.heap.size + 1, 0, none⟩ = some (.bool s2) ∧ w'.cell? ⟨w.heap.size + 1, 1, none⟩ = some (.int .i64 c) ∧ w'.cell? ⟨w.heap.size + 1, 2, none⟩ = some (.int .i64 d)) => (H2.out w').mono (fun e w'' (k : _ ∧ _) => (⟨k, six_later hS k.2⟩ : (_ ∧ _) ∧ (w''.cell? ⟨w.heap.size, 0, none⟩ = some (.bool s1) ∧ w''.cell? ⟨w.heap.size, 1, none⟩ = some (.int .i64 a) ∧ w''.cell? ⟨w.heap.size, 2, none⟩ = some (.int .i64 b) ∧ w''.cell? ⟨w.heap.size + 1, 0, none⟩ = some (.bool s2) ∧ w''.cell? ⟨w.heap.size + 1, 1, none⟩ = some (.int .i64 c) ∧ w''.cell? ⟨w.heap.size + 1, 2, none⟩ = some (.int .i64 d)))))
  clear H1 H2
  go_enter Try.func12, Try.ntmps12
  go_wp2_with fail
  go_region_held3 (fun w' => w'.cell? ⟨w.heap.size, 0, none⟩ = some (.bool s1) ∧ w'.cell? ⟨w.heap.size, 1, none⟩ = some (.int .i64 a) ∧ w'.cell? ⟨w.heap.size, 2, none⟩ = some (.int .i64 b) ∧ w'.cell? ⟨w.heap.size + 1, 0, none⟩ = some (.bool s2) ∧ w'.cell? ⟨w.heap.size + 1, 1, none⟩ = some (.int .i64 c) ∧ w'.cell? ⟨w.heap.size + 1, 2, none⟩ = some (.int .i64 d)) (go_keep) (first | (go_at_call 12; with_reducible refine (C1.out _ (by assumption)).mono ?_; rintro e w1 ⟨⟨rfl, hb1⟩, hc1⟩) | (go_at_call 12; with_reducible refine (C2.out _ (by assumption)).mono ?_; rintro e w2 ⟨⟨rfl, hb2⟩, hc2⟩))
  all_goals
    go_wp2
    go_ret
    exact ⟨rfl, (by repeat (first | exact Below.refl _ _ | refine Below.drew ?_ | refine old_alloc ?_ _ | refine old_trans ?_ (by assumption)))⟩
def relV (rl a b c d : Int) : Int := if rl = 1 then lessS a b c d else if rl = 2 then lessS c d a b else min (lessS a b c d) (lessS c d a b)
def relS (wd rl : Int) (s1 : Bool) (a b : Int) (s2 : Bool) (c d : Int) : Int := if isR rl && (sokB wd s1 a b && sokB wd s2 c d) then (if s1 && s2 then relV rl a b c d else -1) else 0
theorem iSure (rl : Int) (h : isR rl = true) (s1 s2 : Bool) (a b c d : Int) (w : World) :
    Calls Try.prog 12 #[.int .i64 rl, .agg #[.bool s1, .int .i64 a, .int .i64 b], .agg #[.bool s2, .int .i64 c, .int .i64 d]] w fun e w' => e = .returned (.int .i64 (relV rl a b c d)) ∧ Below w.heap.size w w' := by
  rcases isR_is h with rfl | rfl | rfl
  · exact iSure1 s1 s2 a b c d w
  · exact iSure2 s1 s2 a b c d w
  · exact iSure3 s1 s2 a b c d w
set_option maxHeartbeats 4000000 in
theorem iRelSure (wd rl : Int) (s1 s2 : Bool) (a b c d : Int) (w : World) :
    Calls Try.prog 6 #[.int .i64 wd, .int .i64 rl, .agg #[.bool s1, .int .i64 a, .int .i64 b], .agg #[.bool s2, .int .i64 c, .int .i64 d]] w fun e w' => e = .returned (.int .i64 (relS wd rl s1 a b s2 c d)) ∧ Below w.heap.size w w' := by
  have H1 := hd (iSpanOk wd s1 a b)
  have H2 := hd (iSpanOk wd s2 c d)
  have HO := hd (iIsOne rl)
  have hS := hd (fun h => iSure rl h s1 s2 a b c d)
  have hr : Hid (relS wd rl s1 a b s2 c d = if isR rl && (sokB wd s1 a b && sokB wd s2 c d) then (if s1 && s2 then relV rl a b c d else -1) else 0) := rfl
  generalize relV rl a b c d = v at *
  generalize relS wd rl s1 a b s2 c d = r at *
  generalize isR rl = o at *
  generalize sokB wd s1 a b = q1 at *
  generalize sokB wd s2 c d = q2 at *
  have K := (S3.made w _ rfl (.bool s1) (.int .i64 a) (.int .i64 b) 25).alloc (.cells #[.bool s2, .int .i64 c, .int .i64 d] 25)
  have M := S3.made (w.alloc (.cells #[.bool s1, .int .i64 a, .int .i64 b] 25)) (w.heap.size + 1) (by simp) (.bool s2) (.int .i64 c) (.int .i64 d) 25
  obtain ⟨⟨k0, k1, k2⟩, -, kz⟩ := id K
  obtain ⟨⟨m0, m1, m2⟩, -, mz⟩ := id M
  go_enter Try.func6, Try.ntmps6
  go_wp2_with fail
  refine (HO.out _).mono ?_
  rintro e w1 ⟨rfl, rfl⟩
  cases o
  · go_wp2
    go_ret
    exact ⟨ret_i (by rw [hr.out]; rfl), (by repeat (first | exact Below.refl _ _ | refine Below.drew ?_ | refine old_alloc ?_ _ | refine old_trans ?_ (by assumption)))⟩
  go_wp2_with fail
  refine (H1.out _).mono ?_
  rintro e w2 ⟨rfl, hb2⟩
  replace K := K.later hb2
  replace M := M.later hb2
  clear k0 k1 k2 kz m0 m1 m2 mz
  obtain ⟨⟨k0, k1, k2⟩, -, kz⟩ := id K
  obtain ⟨⟨m0, m1, m2⟩, -, mz⟩ := id M
  cases q1
  · go_wp2
    go_ret
    exact ⟨ret_i (by rw [hr.out]; rfl), (by repeat (first | exact Below.refl _ _ | refine Below.drew ?_ | refine old_alloc ?_ _ | refine old_trans ?_ (by assumption)))⟩
  go_wp2_with fail
  refine (H2.out _).mono ?_
  rintro e w3 ⟨rfl, hb3⟩
  replace K := K.later hb3
  replace M := M.later hb3
  clear k0 k1 k2 kz m0 m1 m2 mz
  obtain ⟨⟨k0, k1, k2⟩, -, kz⟩ := id K
  obtain ⟨⟨m0, m1, m2⟩, -, mz⟩ := id M
  cases q2
  · go_wp2
    go_ret
    exact ⟨ret_i (by rw [hr.out]; rfl), (by repeat (first | exact Below.refl _ _ | refine Below.drew ?_ | refine old_alloc ?_ _ | refine old_trans ?_ (by assumption)))⟩
  cases s1
  · go_wp2
    go_ret
    exact ⟨ret_i (by rw [hr.out]; rfl), (by repeat (first | exact Below.refl _ _ | refine Below.drew ?_ | refine old_alloc ?_ _ | refine old_trans ?_ (by assumption)))⟩
  cases s2
  · go_wp2
    go_ret
    exact ⟨ret_i (by rw [hr.out]; rfl), (by repeat (first | exact Below.refl _ _ | refine Below.drew ?_ | refine old_alloc ?_ _ | refine old_trans ?_ (by assumption)))⟩
  replace hS := hd (hS.out (by first | rfl | trivial | omega))
  go_wp2_with fail
  refine (hS.out _).mono ?_
  rintro e w4 ⟨rfl, hb4⟩
  go_wp2
  go_ret
  exact ⟨ret_i (by rw [hr.out]; rfl), (by repeat (first | exact Below.refl _ _ | refine Below.drew ?_ | refine old_alloc ?_ _ | refine old_trans ?_ (by assumption)))⟩
set_option maxHeartbeats 4000000 in
theorem sRelSure1 (wd : Int) (s1 s2 : Bool) (a b c d : Int) (w : World) :
    Calls Try.prog 4 #[.int .i64 wd, .int .i64 1, .agg #[.bool s1, .int .i64 a, .int .i64 b], .agg #[.bool s2, .int .i64 c, .int .i64 d]] w fun e w' => e = .returned (.int .i64 (relS wd 1 s1 a b s2 c d)) ∧ Below w.heap.size w w' := by
  have H1 := hd (sSpanOk wd s1 a b)
  have H2 := hd (sSpanOk wd s2 c d)
  have HO := hd (sRel 1)
  rw [show isR 1 = true from rfl] at HO
  have hv1 : Hid (b ≤ c → 1 = relV 1 a b c d) := fun h => (less_1 h).symm
  have hv2 : Hid (¬ b ≤ c → d < a → -1 = relV 1 a b c d) := fun h g => (less_m h g).symm
  have hv3 : Hid (¬ b ≤ c → ¬ d < a → 0 = relV 1 a b c d) := fun h g => (less_0 h g).symm
  have hr : Hid (relS wd 1 s1 a b s2 c d = if true && (sokB wd s1 a b && sokB wd s2 c d) then (if s1 && s2 then relV 1 a b c d else -1) else 0) := rfl
  generalize relV 1 a b c d = v at *
  generalize relS wd 1 s1 a b s2 c d = r at *
  generalize sokB wd s1 a b = q1 at *
  generalize sokB wd s2 c d = q2 at *
  have K := (S3.made w _ rfl (.bool s1) (.int .i64 a) (.int .i64 b) 25).alloc (.cells #[.bool s2, .int .i64 c, .int .i64 d] 25)
  have M := S3.made (w.alloc (.cells #[.bool s1, .int .i64 a, .int .i64 b] 25)) (w.heap.size + 1) (by simp) (.bool s2) (.int .i64 c) (.int .i64 d) 25
  obtain ⟨⟨k0, k1, k2⟩, -, kz⟩ := id K
  obtain ⟨⟨m0, m1, m2⟩, -, mz⟩ := id M
  go_enter Try.func4, Try.ntmps4
  go_wp2_with fail
  refine (H1.out _).mono ?_
  rintro e w2 ⟨rfl, hb2⟩
  replace K := K.later hb2
  replace M := M.later hb2
  clear k0 k1 k2 kz m0 m1 m2 mz
  obtain ⟨⟨k0, k1, k2⟩, -, kz⟩ := id K
  obtain ⟨⟨m0, m1, m2⟩, -, mz⟩ := id M
  cases q1
  · go_wp2
    go_ret
    exact ⟨ret_i (by rw [hr.out]; rfl), (by repeat (first | exact Below.refl _ _ | refine Below.drew ?_ | refine old_alloc ?_ _ | refine old_trans ?_ (by assumption)))⟩
  go_wp2_with fail
  refine (H2.out _).mono ?_
  rintro e w3 ⟨rfl, hb3⟩
  replace K := K.later hb3
  replace M := M.later hb3
  clear k0 k1 k2 kz m0 m1 m2 mz
  obtain ⟨⟨k0, k1, k2⟩, -, kz⟩ := id K
  obtain ⟨⟨m0, m1, m2⟩, -, mz⟩ := id M
  cases q2
  · go_wp2
    go_ret
    exact ⟨ret_i (by rw [hr.out]; rfl), (by repeat (first | exact Below.refl _ _ | refine Below.drew ?_ | refine old_alloc ?_ _ | refine old_trans ?_ (by assumption)))⟩
  go_wp2_with fail
  refine (HO.out _).mono ?_
  rintro e w1 ⟨rfl, rfl⟩
  cases s1
  · go_wp2
    go_ret
    exact ⟨ret_i (by rw [hr.out]; rfl), (by repeat (first | exact Below.refl _ _ | refine Below.drew ?_ | refine old_alloc ?_ _ | refine old_trans ?_ (by assumption)))⟩
  cases s2
  · go_wp2
    go_ret
    exact ⟨ret_i (by rw [hr.out]; rfl), (by repeat (first | exact Below.refl _ _ | refine Below.drew ?_ | refine old_alloc ?_ _ | refine old_trans ?_ (by assumption)))⟩
  by_cases h1 : b ≤ c
  · have hv' := hd (hv1.out (by first | rfl | trivial | omega))
    go_wp2
    go_ret
    exact ⟨ret_i (by rw [hr.out]; exact hv'.out), (by repeat (first | exact Below.refl _ _ | refine Below.drew ?_ | refine old_alloc ?_ _ | refine old_trans ?_ (by assumption)))⟩
  by_cases h2 : d < a
  · have hv' := hd (hv2.out (by first | rfl | trivial | omega) (by first | rfl | trivial | omega))
    go_wp2
    go_ret
    exact ⟨ret_i (by rw [hr.out]; exact hv'.out), (by repeat (first | exact Below.refl _ _ | refine Below.drew ?_ | refine old_alloc ?_ _ | refine old_trans ?_ (by assumption)))⟩
  · have hv' := hd (hv3.out (by first | rfl | trivial | omega) (by first | rfl | trivial | omega))
    go_wp2
    go_ret
    exact ⟨ret_i (by rw [hr.out]; exact hv'.out), (by repeat (first | exact Below.refl _ _ | refine Below.drew ?_ | refine old_alloc ?_ _ | refine old_trans ?_ (by assumption)))⟩
theorem relS_swap (wd : Int) (a b c d : Int) (h1 : sokB wd true a b = true) (h2 : sokB wd true c d = true) : relS wd 1 true c d true a b = lessS c d a b := by
  unfold relS
  rw [h1, h2]; rfl
set_option maxHeartbeats 4000000 in
theorem sRelSure2 (wd : Int) (s1 s2 : Bool) (a b c d : Int) (w : World) :
    Calls Try.prog 4 #[.int .i64 wd, .int .i64 2, .agg #[.bool s1, .int .i64 a, .int .i64 b], .agg #[.bool s2, .int .i64 c, .int .i64 d]] w fun e w' => e = .returned (.int .i64 (relS wd 2 s1 a b s2 c d)) ∧ Below w.heap.size w w' := by
  have H1 := hd (sSpanOk wd s1 a b)
  have H2 := hd (sSpanOk wd s2 c d)
  have HO := hd (sRel 2)
  rw [show isR 2 = true from rfl] at HO
  have HR := hd (sRelSure1 wd s2 s1 c d a b)
  have hv : Hid (s1 = true → s2 = true → sokB wd s1 a b = true → sokB wd s2 c d = true → relS wd 1 s2 c d s1 a b = relV 2 a b c d) := fun e1 e2 g1 g2 => by
    subst e1 e2; exact relS_swap wd a b c d g1 g2
  generalize relS wd 1 s2 c d s1 a b = u at *
  have hr : Hid (relS wd 2 s1 a b s2 c d = if true && (sokB wd s1 a b && sokB wd s2 c d) then (if s1 && s2 then relV 2 a b c d else -1) else 0) := rfl
  generalize relV 2 a b c d = v at *
  generalize relS wd 2 s1 a b s2 c d = r at *
  generalize sokB wd s1 a b = q1 at *
  generalize sokB wd s2 c d = q2 at *
  have K := (S3.made w _ rfl (.bool s1) (.int .i64 a) (.int .i64 b) 25).alloc (.cells #[.bool s2, .int .i64 c, .int .i64 d] 25)
  have M := S3.made (w.alloc (.cells #[.bool s1, .int .i64 a, .int .i64 b] 25)) (w.heap.size + 1) (by simp) (.bool s2) (.int .i64 c) (.int .i64 d) 25
  obtain ⟨⟨k0, k1, k2⟩, -, kz⟩ := id K
  obtain ⟨⟨m0, m1, m2⟩, -, mz⟩ := id M
  go_enter Try.func4, Try.ntmps4
  go_wp2_with fail
  refine (H1.out _).mono ?_
  rintro e w2 ⟨rfl, hb2⟩
  replace K := K.later hb2
  replace M := M.later hb2
  clear k0 k1 k2 kz m0 m1 m2 mz
  obtain ⟨⟨k0, k1, k2⟩, -, kz⟩ := id K
  obtain ⟨⟨m0, m1, m2⟩, -, mz⟩ := id M
  cases q1
  · go_wp2
    go_ret
    exact ⟨ret_i (by rw [hr.out]; rfl), (by repeat (first | exact Below.refl _ _ | refine Below.drew ?_ | refine old_alloc ?_ _ | refine old_trans ?_ (by assumption)))⟩
  go_wp2_with fail
  refine (H2.out _).mono ?_
  rintro e w3 ⟨rfl, hb3⟩
  replace K := K.later hb3
  replace M := M.later hb3
  clear k0 k1 k2 kz m0 m1 m2 mz
  obtain ⟨⟨k0, k1, k2⟩, -, kz⟩ := id K
  obtain ⟨⟨m0, m1, m2⟩, -, mz⟩ := id M
  cases q2
  · go_wp2
    go_ret
    exact ⟨ret_i (by rw [hr.out]; rfl), (by repeat (first | exact Below.refl _ _ | refine Below.drew ?_ | refine old_alloc ?_ _ | refine old_trans ?_ (by assumption)))⟩
  go_wp2_with fail
  refine (HO.out _).mono ?_
  rintro e w1 ⟨rfl, rfl⟩
  cases s1
  · go_wp2
    go_ret
    exact ⟨ret_i (by rw [hr.out]; rfl), (by repeat (first | exact Below.refl _ _ | refine Below.drew ?_ | refine old_alloc ?_ _ | refine old_trans ?_ (by assumption)))⟩
  cases s2
  · go_wp2
    go_ret
    exact ⟨ret_i (by rw [hr.out]; rfl), (by repeat (first | exact Below.refl _ _ | refine Below.drew ?_ | refine old_alloc ?_ _ | refine old_trans ?_ (by assumption)))⟩
  go_wp2_with fail
  refine (HR.out _).mono ?_
  rintro e w4 ⟨rfl, hb4⟩
  have hv' := hd (hv.out (by first | rfl | trivial | omega) (by first | rfl | trivial | omega) (by first | rfl | trivial | omega) (by first | rfl | trivial | omega))
  go_wp2
  go_ret
  exact ⟨ret_i (by rw [hr.out]; exact hv'.out), (by repeat (first | exact Below.refl _ _ | refine Below.drew ?_ | refine old_alloc ?_ _ | refine old_trans ?_ (by assumption)))⟩
theorem both_ok {wd : Int} {s1 s2 : Bool} {a b c d : Int} (e1 : s1 = true) (e2 : s2 = true) (h1 : sokB wd s1 a b = true) (h2 : sokB wd s2 c d = true) : bothB wd s1 s2 a b c d = true := by
  rw [← both_eq, h1, h2, e1, e2]; rfl
theorem sok_le {wd : Int} {s : Bool} {a b : Int} (e : s = true) (h : sokB wd s a b = true) : a ≤ b := by
  subst e; exact (pokB_in h).2.2.1
theorem eq_m {a b c d : Int} (h1 : a ≤ b) (h2 : c ≤ d) (h : ¬ max a c ≤ min b d) : -1 = relV 3 a b c d := by
  unfold relV lessS; omega
theorem eq_1 {a b c d : Int} (h : a = b) (h1 : a = c) (h2 : b = d) : 1 = relV 3 a b c d := by
  unfold relV lessS; omega
theorem eq_0 {a b c d : Int} (h1 : a ≤ b) (h2 : c ≤ d) (h : max a c ≤ min b d) (g : ¬ (a = b ∧ a = c ∧ b = d)) : 0 = relV 3 a b c d := by
  unfold relV lessS; omega
set_option maxHeartbeats 4000000 in
theorem sRelSure3 (wd : Int) (s1 s2 : Bool) (a b c d : Int) (w : World) :
    Calls Try.prog 4 #[.int .i64 wd, .int .i64 3, .agg #[.bool s1, .int .i64 a, .int .i64 b], .agg #[.bool s2, .int .i64 c, .int .i64 d]] w fun e w' => e = .returned (.int .i64 (relS wd 3 s1 a b s2 c d)) ∧ Below w.heap.size w w' := by
  have H1 := hd (sSpanOk wd s1 a b)
  have H2 := hd (sSpanOk wd s2 c d)
  have HO := hd (sRel 3)
  rw [show isR 3 = true from rfl] at HO
  have HM := hd (sSpanMeet wd s1 s2 a b c d)
  have hbo := hd (@both_ok wd s1 s2 a b c d)
  have hl1 := hd (@sok_le wd s1 a b)
  have hl2 := hd (@sok_le wd s2 c d)
  have hm : Hid (¬ max a c ≤ min b d → a ≤ b → c ≤ d → -1 = relV 3 a b c d) := fun h g k => eq_m g k h
  have h1 := hd (@eq_1 a b c d)
  have h0 := hd (@eq_0 a b c d)
  have EQ := eql_span s1 a b s2 c d
  generalize bothB wd s1 s2 a b c d = bo at *
  obtain ⟨z, hz⟩ : ∃ z, decide (max a c ≤ min b d) = z := ⟨_, rfl⟩
  rw [hz] at HM
  replace hz := hd hz
  generalize (if (bo && z) = true then max a c else 0) = X at *
  generalize (if (bo && z) = true then min b d else 0) = Y at *
  have hr : Hid (relS wd 3 s1 a b s2 c d = if true && (sokB wd s1 a b && sokB wd s2 c d) then (if s1 && s2 then relV 3 a b c d else -1) else 0) := rfl
  generalize relV 3 a b c d = v at *
  generalize relS wd 3 s1 a b s2 c d = r at *
  generalize sokB wd s1 a b = q1 at *
  generalize sokB wd s2 c d = q2 at *
  have K := (S3.made w _ rfl (.bool s1) (.int .i64 a) (.int .i64 b) 25).alloc (.cells #[.bool s2, .int .i64 c, .int .i64 d] 25)
  have M := S3.made (w.alloc (.cells #[.bool s1, .int .i64 a, .int .i64 b] 25)) (w.heap.size + 1) (by simp) (.bool s2) (.int .i64 c) (.int .i64 d) 25
  obtain ⟨⟨k0, k1, k2⟩, -, kz⟩ := id K
  obtain ⟨⟨m0, m1, m2⟩, -, mz⟩ := id M
  go_enter Try.func4, Try.ntmps4
  go_wp2_with fail
  refine (H1.out _).mono ?_
  rintro e w2 ⟨rfl, hb2⟩
  replace K := K.later hb2
  replace M := M.later hb2
  clear k0 k1 k2 kz m0 m1 m2 mz
  obtain ⟨⟨k0, k1, k2⟩, -, kz⟩ := id K
  obtain ⟨⟨m0, m1, m2⟩, -, mz⟩ := id M
  cases q1
  · go_wp2
    go_ret
    exact ⟨ret_i (by rw [hr.out]; rfl), (by repeat (first | exact Below.refl _ _ | refine Below.drew ?_ | refine old_alloc ?_ _ | refine old_trans ?_ (by assumption)))⟩
  go_wp2_with fail
  refine (H2.out _).mono ?_
  rintro e w3 ⟨rfl, hb3⟩
  replace K := K.later hb3
  replace M := M.later hb3
  clear k0 k1 k2 kz m0 m1 m2 mz
  obtain ⟨⟨k0, k1, k2⟩, -, kz⟩ := id K
  obtain ⟨⟨m0, m1, m2⟩, -, mz⟩ := id M
  cases q2
  · go_wp2
    go_ret
    exact ⟨ret_i (by rw [hr.out]; rfl), (by repeat (first | exact Below.refl _ _ | refine Below.drew ?_ | refine old_alloc ?_ _ | refine old_trans ?_ (by assumption)))⟩
  go_wp2_with fail
  refine (HO.out _).mono ?_
  rintro e w1 ⟨rfl, rfl⟩
  cases s1
  · go_wp2
    go_ret
    exact ⟨ret_i (by rw [hr.out]; rfl), (by repeat (first | exact Below.refl _ _ | refine Below.drew ?_ | refine old_alloc ?_ _ | refine old_trans ?_ (by assumption)))⟩
  cases s2
  · go_wp2
    go_ret
    exact ⟨ret_i (by rw [hr.out]; rfl), (by repeat (first | exact Below.refl _ _ | refine Below.drew ?_ | refine old_alloc ?_ _ | refine old_trans ?_ (by assumption)))⟩
  have hl1' := hd (hl1.out (by first | rfl | trivial | omega) (by first | rfl | trivial | omega))
  have hl2' := hd (hl2.out (by first | rfl | trivial | omega) (by first | rfl | trivial | omega))
  obtain rfl := (hbo.out (by first | rfl | trivial | omega) (by first | rfl | trivial | omega) (by first | rfl | trivial | omega) (by first | rfl | trivial | omega)).symm
  go_wp2_with fail
  refine (HM.out _).mono ?_
  rintro e w4 ⟨rfl, hb4⟩
  replace K := K.later hb4
  replace M := M.later hb4
  clear k0 k1 k2 kz m0 m1 m2 mz
  obtain ⟨⟨k0, k1, k2⟩, -, kz⟩ := id K
  obtain ⟨⟨m0, m1, m2⟩, -, mz⟩ := id M
  rw [Bool.true_and]
  cases z
  · have hv' := hd (hm.out (by have := of_decide_eq_false hz.out; omega) hl1'.out hl2'.out)
    go_wp2
    go_ret
    exact ⟨ret_i (by rw [hr.out]; exact hv'.out), (by repeat (first | exact Below.refl _ _ | refine Below.drew ?_ | refine old_alloc ?_ _ | refine old_trans ?_ (by assumption)))⟩
  have hz' := hd (of_decide_eq_true hz.out)
  by_cases e1 : a = b
  · by_cases e2 : a = c
    · by_cases e3 : b = d
      · have hv' := hd (h1.out e1 e2 e3)
        subst e1 e2 e3
        go_wp2
        go_ret
        exact ⟨ret_i (by rw [hr.out]; exact hv'.out), (by repeat (first | exact Below.refl _ _ | refine Below.drew ?_ | refine old_alloc ?_ _ | refine old_trans ?_ (by assumption)))⟩
      · have hv' := hd (h0.out hl1'.out hl2'.out hz'.out (fun h => e3 h.2.2))
        subst e1 e2
        have e4 : (a == d) = false := by simpa using e3
        go_wp2
        go_ret
        exact ⟨ret_i (by rw [hr.out]; exact hv'.out), (by repeat (first | exact Below.refl _ _ | refine Below.drew ?_ | refine old_alloc ?_ _ | refine old_trans ?_ (by assumption)))⟩
    · have hv' := hd (h0.out hl1'.out hl2'.out hz'.out (fun h => e2 h.2.1))
      subst e1
      have e4 : (a == c) = false := by simpa using e2
      go_wp2
      go_ret
      exact ⟨ret_i (by rw [hr.out]; exact hv'.out), (by repeat (first | exact Below.refl _ _ | refine Below.drew ?_ | refine old_alloc ?_ _ | refine old_trans ?_ (by assumption)))⟩
  · have hv' := hd (h0.out hl1'.out hl2'.out hz'.out (fun h => e1 h.1))
    go_wp2
    go_ret
    exact ⟨ret_i (by rw [hr.out]; exact hv'.out), (by repeat (first | exact Below.refl _ _ | refine Below.drew ?_ | refine old_alloc ?_ _ | refine old_trans ?_ (by assumption)))⟩
set_option maxHeartbeats 4000000 in
theorem sRelSure0 (wd rl : Int) (s1 s2 : Bool) (a b c d : Int) (hn : isR rl = false) (w : World) :
    Calls Try.prog 4 #[.int .i64 wd, .int .i64 rl, .agg #[.bool s1, .int .i64 a, .int .i64 b], .agg #[.bool s2, .int .i64 c, .int .i64 d]] w fun e w' => e = .returned (.int .i64 0) ∧ Below w.heap.size w w' := by
  have H1 := hd (sSpanOk wd s1 a b)
  have H2 := hd (sSpanOk wd s2 c d)
  have HO := hd (sRel rl)
  rw [hn] at HO
  generalize sokB wd s1 a b = q1 at *
  generalize sokB wd s2 c d = q2 at *
  have K := (S3.made w _ rfl (.bool s1) (.int .i64 a) (.int .i64 b) 25).alloc (.cells #[.bool s2, .int .i64 c, .int .i64 d] 25)
  have M := S3.made (w.alloc (.cells #[.bool s1, .int .i64 a, .int .i64 b] 25)) (w.heap.size + 1) (by simp) (.bool s2) (.int .i64 c) (.int .i64 d) 25
  obtain ⟨⟨k0, k1, k2⟩, -, kz⟩ := id K
  obtain ⟨⟨m0, m1, m2⟩, -, mz⟩ := id M
  go_enter Try.func4, Try.ntmps4
  go_wp2_with fail
  refine (H1.out _).mono ?_
  rintro e w2 ⟨rfl, hb2⟩
  replace K := K.later hb2
  replace M := M.later hb2
  clear k0 k1 k2 kz m0 m1 m2 mz
  obtain ⟨⟨k0, k1, k2⟩, -, kz⟩ := id K
  obtain ⟨⟨m0, m1, m2⟩, -, mz⟩ := id M
  cases q1
  · go_wp2
    go_ret
    exact ⟨rfl, (by repeat (first | exact Below.refl _ _ | refine Below.drew ?_ | refine old_alloc ?_ _ | refine old_trans ?_ (by assumption)))⟩
  go_wp2_with fail
  refine (H2.out _).mono ?_
  rintro e w3 ⟨rfl, hb3⟩
  replace K := K.later hb3
  replace M := M.later hb3
  clear k0 k1 k2 kz m0 m1 m2 mz
  obtain ⟨⟨k0, k1, k2⟩, -, kz⟩ := id K
  obtain ⟨⟨m0, m1, m2⟩, -, mz⟩ := id M
  cases q2
  · go_wp2
    go_ret
    exact ⟨rfl, (by repeat (first | exact Below.refl _ _ | refine Below.drew ?_ | refine old_alloc ?_ _ | refine old_trans ?_ (by assumption)))⟩
  go_wp2_with fail
  refine (HO.out _).mono ?_
  rintro e w1 ⟨rfl, rfl⟩
  go_wp2
  go_ret
  exact ⟨rfl, (by repeat (first | exact Below.refl _ _ | refine Below.drew ?_ | refine old_alloc ?_ _ | refine old_trans ?_ (by assumption)))⟩
theorem sRelSure (wd rl : Int) (s1 s2 : Bool) (a b c d : Int) (w : World) :
    Calls Try.prog 4 #[.int .i64 wd, .int .i64 rl, .agg #[.bool s1, .int .i64 a, .int .i64 b], .agg #[.bool s2, .int .i64 c, .int .i64 d]] w fun e w' => e = .returned (.int .i64 (relS wd rl s1 a b s2 c d)) ∧ Below w.heap.size w w' := by
  cases h : isR rl
  · have e : relS wd rl s1 a b s2 c d = 0 := by unfold relS; rw [h]; rfl
    rw [e]
    exact sRelSure0 wd rl s1 s2 a b c d h w
  · rcases isR_is h with rfl | rfl | rfl
    · exact sRelSure1 wd s1 s2 a b c d w
    · exact sRelSure2 wd s1 s2 a b c d w
    · exact sRelSure3 wd s1 s2 a b c d w
end Go.Proofs.Ytpjagplloljefaa
