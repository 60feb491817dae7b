/- Spans: what both have, turned at nought, without sign, the lesser and the greater, by the specification. Nothing that was there is written. -/
import Derived.Test.YtpjagplloljefaaGreatSS
import Derived.Deep.DeepCutAuto
namespace Go.Proofs.YtpjagplloljefaaGreat
open Go.RowKit
set_option linter.unusedVariables false
set_option maxRecDepth 100000

theorem pairV_is (r : Bool) (x y : Int) : pairV r x y = .tuple #[.agg #[.int .i64 (if r then x else 0), .int .i64 (if r then y else 0)], .bool r] := by cases r <;> rfl
theorem meet_eq {wd : Int} {s1 s2 : Bool} {a b c d : Int} (h : bothB wd s1 s2 a b c d = true) : meetB wd a b c d = decide (max a c ≤ min b d) := by
  unfold bothB at h
  simp only [Bool.and_eq_true] at h
  unfold meetB
  rw [h.1.2, h.2.2]
  rfl
set_option maxHeartbeats 4000000 in
theorem sSpanMeet (wd : Int) (s1 s2 : Bool) (a b c d : Int) (w : World) :
    Calls Tryz.prog 22 #[.int .i64 wd, .agg #[.bool s1, .int .i64 a, .int .i64 b], .agg #[.bool s2, .int .i64 c, .int .i64 d]] w fun e w' => e = .returned (.agg #[.bool (bothB wd s1 s2 a b c d && decide (max a c ≤ min b d)), .int .i64 (if (bothB wd s1 s2 a b c d && decide (max a c ≤ min b d)) then max a c else 0), .int .i64 (if (bothB wd s1 s2 a b c d && decide (max a c ≤ min b d)) then min b d else 0)]) ∧ Below w.heap.size w w' := by
  have H := hd (sBoth wd s1 s2 a b c d)
  have ME := hd (@meet_eq wd s1 s2 a b c d)
  have P1 := hd (sPairL s1 a b)
  have P2 := hd (sPairL s2 c d)
  have P3 := hd (sPairMeet wd a b c d)
  have P4 := hd (sOfL (max a c) (min b d))
  rw [pairV_is] at P3
  generalize bothB wd s1 s2 a b c d = r at *
  generalize meetB wd a b c d = q at *
  generalize decide (max a c ≤ min b d) = q2 at *
  generalize max a c = x at *
  generalize min b d = y at *
  have C1 := hd (fun w' (hS : w'.cell? ⟨w.heap.size, 0, none⟩ = some (.bool s1) ∧ w'.cell? ⟨w.heap.size, 1, none⟩ = some (.int .i64 a) ∧ w'.cell? ⟨w.heap.size, 2, none⟩ = some (.int .i64 b) ∧ w'.cell? ⟨w.heap.size + 1, 0, none⟩ = some (.bool s2) ∧ w'.cell? ⟨w.heap.size + 1, 1, none⟩ = some (.int .i64 c) ∧ w'.cell? ⟨w.heap.size + 1, 2, none⟩ = some (.int .i64 d)) => (P1.out w').mono (fun e w'' (k : _ ∧ _) => (⟨k, six_later hS k.2⟩ : (_ ∧ _) ∧ (w''.cell? ⟨w.heap.size, 0, none⟩ = some (.bool s1) ∧ w''.cell? ⟨w.heap.size, 1, none⟩ = some (.int .i64 a) ∧ w''.cell? ⟨w.heap.size, 2, none⟩ = some (.int .i64 b) ∧ w''.cell? ⟨w.heap.size + 1, 0, none⟩ = some (.bool s2) ∧ w''.cell? ⟨w.heap.size + 1, 1, none⟩ = some (.int .i64 c) ∧ w''.cell? ⟨w.heap.size + 1, 2, none⟩ = some (.int .i64 d)))))
  have C2 := hd (fun w' (hS : w'.cell? ⟨w.heap.size, 0, none⟩ = some (.bool s1) ∧ w'.cell? ⟨w.heap.size, 1, none⟩ = some (.int .i64 a) ∧ w'.cell? ⟨w.heap.size, 2, none⟩ = some (.int .i64 b) ∧ w'.cell? ⟨w.heap.size + 1, 0, none⟩ = some (.bool s2) ∧ w'.cell? ⟨w.heap.size + 1, 1, none⟩ = some (.int .i64 c) ∧ w'.cell? ⟨w.heap.size + 1, 2, none⟩ = some (.int .i64 d)) => (P2.out w').mono (fun e w'' (k : _ ∧ _) => (⟨k, six_later hS k.2⟩ : (_ ∧ _) ∧ (w''.cell? ⟨w.heap.size, 0, none⟩ = some (.bool s1) ∧ w''.cell? ⟨w.heap.size, 1, none⟩ = some (.int .i64 a) ∧ w''.cell? ⟨w.heap.size, 2, none⟩ = some (.int .i64 b) ∧ w''.cell? ⟨w.heap.size + 1, 0, none⟩ = some (.bool s2) ∧ w''.cell? ⟨w.heap.size + 1, 1, none⟩ = some (.int .i64 c) ∧ w''.cell? ⟨w.heap.size + 1, 2, none⟩ = some (.int .i64 d)))))
  have C3 := hd (fun w' (hS : w'.cell? ⟨w.heap.size, 0, none⟩ = some (.bool s1) ∧ w'.cell? ⟨w.heap.size, 1, none⟩ = some (.int .i64 a) ∧ w'.cell? ⟨w.heap.size, 2, none⟩ = some (.int .i64 b) ∧ w'.cell? ⟨w.heap.size + 1, 0, none⟩ = some (.bool s2) ∧ w'.cell? ⟨w.heap.size + 1, 1, none⟩ = some (.int .i64 c) ∧ w'.cell? ⟨w.heap.size + 1, 2, none⟩ = some (.int .i64 d)) => (P3.out w').mono (fun e w'' (k : _ ∧ _) => (⟨k, six_later hS k.2⟩ : (_ ∧ _) ∧ (w''.cell? ⟨w.heap.size, 0, none⟩ = some (.bool s1) ∧ w''.cell? ⟨w.heap.size, 1, none⟩ = some (.int .i64 a) ∧ w''.cell? ⟨w.heap.size, 2, none⟩ = some (.int .i64 b) ∧ w''.cell? ⟨w.heap.size + 1, 0, none⟩ = some (.bool s2) ∧ w''.cell? ⟨w.heap.size + 1, 1, none⟩ = some (.int .i64 c) ∧ w''.cell? ⟨w.heap.size + 1, 2, none⟩ = some (.int .i64 d)))))
  clear P1 P2 P3
  have K := ((S3.made w _ rfl (.bool s1) (.int .i64 a) (.int .i64 b) 24).alloc (.cells #[.bool s2, .int .i64 c, .int .i64 d] 24)).alloc (.cells #[.bool false, .int .i64 0, .int .i64 0] 24)
  have M := (S3.made (w.alloc (.cells #[.bool s1, .int .i64 a, .int .i64 b] 24)) (w.heap.size + 1) (by simp) (.bool s2) (.int .i64 c) (.int .i64 d) 24).alloc (.cells #[.bool false, .int .i64 0, .int .i64 0] 24)
  have N := S3.made ((w.alloc (.cells #[.bool s1, .int .i64 a, .int .i64 b] 24)).alloc (.cells #[.bool s2, .int .i64 c, .int .i64 d] 24)) (w.heap.size + 1 + 1) (by simp) (.bool false) (.int .i64 0) (.int .i64 0) 24
  have z1 : w.heap.size ≠ w.heap.size + 1 + 1 := by omega
  have z2 : w.heap.size + 1 + 1 ≠ w.heap.size := by omega
  go_enter Tryz.func22, Tryz.ntmps22
  go_wp2_with fail
  refine (H.out _).mono ?_
  rintro e w1 ⟨rfl, hb1⟩
  replace K := K.later hb1
  replace M := M.later hb1
  replace N := N.later hb1
  have hB : Below w.heap.size w w1 := (by repeat (first | exact Below.refl _ _ | refine Below.drew ?_ | refine Below.setCell ?_ (by first | (simp; done) | omega | (simp; omega)) _ | refine old_alloc ?_ _ | refine old_trans ?_ (by assumption)))
  clear hb1
  obtain ⟨⟨k0, k1, k2⟩, -, kz⟩ := id K
  obtain ⟨⟨m0, m1, m2⟩, -, mz⟩ := id M
  cases r
  · obtain ⟨⟨e0, e1, e2⟩, ⟨f0, f1, f2⟩, nz⟩ := id N
    go_wp2
    refine bodyPost_ret (v := .agg #[.bool false, .int .i64 0, .int .i64 0]) ?_ rfl ⟨rfl, (by repeat (first | exact Below.refl _ _ | refine Below.drew ?_ | refine Below.setCell ?_ (by first | (simp; done) | omega | (simp; omega)) _ | refine old_alloc ?_ _ | refine old_trans ?_ (by assumption)))⟩
    simp [results, Tryz.results22, go_sem, e0, e1, e2]
  replace ME := ME.out rfl
  subst ME
  clear H
  go_upto_region 3 with fail
  go_cut [7, 8] (fun s t wx => ∃ bk, s = .pointer (some ⟨bk, 0, none⟩) ∧ t = .bool q ∧ Cel2 wx bk (.int .i64 (if q then x else 0)) (.int .i64 (if q then y else 0)) ∧ S3 wx (w.heap.size + 1 + 1) (.bool false) (.int .i64 0) (.int .i64 0) ∧ Below w.heap.size w wx)
  case first =>
    generalize (if q = true then x else 0) = X at *
    generalize (if q = true then y else 0) = Y at *
    have Kn1 := Nat.ne_of_lt K.lt
    have Ko1 := Nat.ne_of_gt K.lt
    have Mn1 := Nat.ne_of_lt M.lt
    have Mo1 := Nat.ne_of_gt M.lt
    have Nn1 := Nat.ne_of_lt N.lt
    have No1 := Nat.ne_of_gt N.lt
    go_wp2_with fail
    go_region_held3 (fun w' => w'.cell? ⟨w.heap.size, 0, none⟩ = some (.bool s1) ∧ w'.cell? ⟨w.heap.size, 1, none⟩ = some (.int .i64 a) ∧ w'.cell? ⟨w.heap.size, 2, none⟩ = some (.int .i64 b) ∧ w'.cell? ⟨w.heap.size + 1, 0, none⟩ = some (.bool s2) ∧ w'.cell? ⟨w.heap.size + 1, 1, none⟩ = some (.int .i64 c) ∧ w'.cell? ⟨w.heap.size + 1, 2, none⟩ = some (.int .i64 d)) (go_keep) (first | (go_at_call_of 43 (Value.agg #[.bool s1, .int .i64 a, .int .i64 b]); refine (C1.out _ (by assumption)).mono ?_; rintro e wx ⟨⟨rfl, hbx⟩, hcx⟩; have K := (by first | exact K.later hbx | exact K.drew.later hbx | exact (K.alloc _).later hbx | exact (K.drew.alloc _).later hbx | exact (K.alloc _).drew.later hbx : S3 wx _ _ _ _); obtain ⟨-, -, Kz⟩ := id K; have Kn := Nat.ne_of_lt Kz; have Ko := Nat.ne_of_gt Kz; have M := (by first | exact M.later hbx | exact M.drew.later hbx | exact (M.alloc _).later hbx | exact (M.drew.alloc _).later hbx | exact (M.alloc _).drew.later hbx : S3 wx _ _ _ _); obtain ⟨-, -, Mz⟩ := id M; have Mn := Nat.ne_of_lt Mz; have Mo := Nat.ne_of_gt Mz; have N := (by first | exact N.later hbx | exact N.drew.later hbx | exact (N.alloc _).later hbx | exact (N.drew.alloc _).later hbx | exact (N.alloc _).drew.later hbx : S3 wx _ _ _ _); obtain ⟨⟨e0, e1, e2⟩, -, Nz⟩ := id N; have Nn := Nat.ne_of_lt Nz; have No := Nat.ne_of_gt Nz; (first | (have L := L.later hbx; have L0 := L.1; have L1 := L.2.1; have L2 := L.2.2.1; have L3 := L.2.2.2.1; have Lz := L.2.2.2.2) | (have L := L.drew.later hbx; have L0 := L.1; have L1 := L.2.1; have L2 := L.2.2.1; have L3 := L.2.2.2.1; have Lz := L.2.2.2.2) | (have L := (Cel2.made _ _ rfl (.int .i64 0) (.int .i64 0) 52).later hbx; (try simp only [World.size_alloc] at L); have L0 := L.1; have L1 := L.2.1; have L2 := L.2.2.1; have L3 := L.2.2.2.1; have Lz := L.2.2.2.2) | (have L := (Cel2.made _ _ rfl (.int .i64 0) (.int .i64 0) 52).drew.later hbx; (try simp only [World.size_alloc] at L); have L0 := L.1; have L1 := L.2.1; have L2 := L.2.2.1; have L3 := L.2.2.2.1; have Lz := L.2.2.2.2) | skip)) | (go_at_call_of 43 (Value.agg #[.bool s2, .int .i64 c, .int .i64 d]); refine (C2.out _ (by assumption)).mono ?_; rintro e wx ⟨⟨rfl, hbx⟩, hcx⟩; have K := (by first | exact K.later hbx | exact K.drew.later hbx | exact (K.alloc _).later hbx | exact (K.drew.alloc _).later hbx | exact (K.alloc _).drew.later hbx : S3 wx _ _ _ _); obtain ⟨-, -, Kz⟩ := id K; have Kn := Nat.ne_of_lt Kz; have Ko := Nat.ne_of_gt Kz; have M := (by first | exact M.later hbx | exact M.drew.later hbx | exact (M.alloc _).later hbx | exact (M.drew.alloc _).later hbx | exact (M.alloc _).drew.later hbx : S3 wx _ _ _ _); obtain ⟨-, -, Mz⟩ := id M; have Mn := Nat.ne_of_lt Mz; have Mo := Nat.ne_of_gt Mz; have N := (by first | exact N.later hbx | exact N.drew.later hbx | exact (N.alloc _).later hbx | exact (N.drew.alloc _).later hbx | exact (N.alloc _).drew.later hbx : S3 wx _ _ _ _); obtain ⟨⟨e0, e1, e2⟩, -, Nz⟩ := id N; have Nn := Nat.ne_of_lt Nz; have No := Nat.ne_of_gt Nz; (first | (have L := L.later hbx; have L0 := L.1; have L1 := L.2.1; have L2 := L.2.2.1; have L3 := L.2.2.2.1; have Lz := L.2.2.2.2) | (have L := L.drew.later hbx; have L0 := L.1; have L1 := L.2.1; have L2 := L.2.2.1; have L3 := L.2.2.2.1; have Lz := L.2.2.2.2) | (have L := (Cel2.made _ _ rfl (.int .i64 0) (.int .i64 0) 52).later hbx; (try simp only [World.size_alloc] at L); have L0 := L.1; have L1 := L.2.1; have L2 := L.2.2.1; have L3 := L.2.2.2.1; have Lz := L.2.2.2.2) | (have L := (Cel2.made _ _ rfl (.int .i64 0) (.int .i64 0) 52).drew.later hbx; (try simp only [World.size_alloc] at L); have L0 := L.1; have L1 := L.2.1; have L2 := L.2.2.1; have L3 := L.2.2.2.1; have Lz := L.2.2.2.2) | skip)) | (go_at_call 42; refine (C3.out _ (by assumption)).mono ?_; rintro e wx ⟨⟨rfl, hbx⟩, hcx⟩; have K := (by first | exact K.later hbx | exact K.drew.later hbx | exact (K.alloc _).later hbx | exact (K.drew.alloc _).later hbx | exact (K.alloc _).drew.later hbx : S3 wx _ _ _ _); obtain ⟨-, -, Kz⟩ := id K; have Kn := Nat.ne_of_lt Kz; have Ko := Nat.ne_of_gt Kz; have M := (by first | exact M.later hbx | exact M.drew.later hbx | exact (M.alloc _).later hbx | exact (M.drew.alloc _).later hbx | exact (M.alloc _).drew.later hbx : S3 wx _ _ _ _); obtain ⟨-, -, Mz⟩ := id M; have Mn := Nat.ne_of_lt Mz; have Mo := Nat.ne_of_gt Mz; have N := (by first | exact N.later hbx | exact N.drew.later hbx | exact (N.alloc _).later hbx | exact (N.drew.alloc _).later hbx | exact (N.alloc _).drew.later hbx : S3 wx _ _ _ _); obtain ⟨⟨e0, e1, e2⟩, -, Nz⟩ := id N; have Nn := Nat.ne_of_lt Nz; have No := Nat.ne_of_gt Nz; (first | (have L := L.later hbx; have L0 := L.1; have L1 := L.2.1; have L2 := L.2.2.1; have L3 := L.2.2.2.1; have Lz := L.2.2.2.2) | (have L := L.drew.later hbx; have L0 := L.1; have L1 := L.2.1; have L2 := L.2.2.1; have L3 := L.2.2.2.1; have Lz := L.2.2.2.2) | (have L := (Cel2.made _ _ rfl (.int .i64 0) (.int .i64 0) 52).later hbx; (try simp only [World.size_alloc] at L); have L0 := L.1; have L1 := L.2.1; have L2 := L.2.2.1; have L3 := L.2.2.2.1; have Lz := L.2.2.2.2) | (have L := (Cel2.made _ _ rfl (.int .i64 0) (.int .i64 0) 52).drew.later hbx; (try simp only [World.size_alloc] at L); have L0 := L.1; have L1 := L.2.1; have L2 := L.2.2.1; have L3 := L.2.2.2.1; have Lz := L.2.2.2.2) | skip)))
    all_goals
      go_wp2_with fail
      go_meet
      exact ⟨_, rfl, rfl, (by first | with_reducible exact L.stored _ _ | with_reducible exact (L.stored _ _).drew | with_reducible exact Cel2.made _ _ rfl _ _ _ | with_reducible exact (Cel2.made _ _ rfl _ _ _).drew | exact L.stored _ _ | exact (L.stored _ _).drew | exact Cel2.made _ _ rfl _ _ _ | exact (Cel2.made _ _ rfl _ _ _).drew), (by first | with_reducible exact N | with_reducible exact N.drew | with_reducible exact N.alloc _ | with_reducible exact (N.alloc _).drew | with_reducible exact (N.far (by omega)).far (by omega) | with_reducible exact ((N.far (by omega)).far (by omega)).drew | exact N.alloc _ | exact (N.far (by omega)).far (by omega) | exact ((N.far (by omega)).far (by omega)).drew), (by repeat (first | exact Below.refl _ _ | refine Below.drew ?_ | refine Below.setCell ?_ (by first | (simp; done) | omega | (simp; omega)) _ | refine old_alloc ?_ _ | refine old_trans ?_ (by assumption)))⟩
  case rest =>
    obtain ⟨bk, hs7, hs8, L, N, hB⟩ := hcut
    subst hs7 hs8
    clear C1 C2 C3 k0 k1 k2 kz m0 m1 m2 mz K M
    cases q
    · obtain ⟨⟨e0, e1, e2⟩, ⟨f0, f1, f2⟩, nz⟩ := id N
      go_wp2
      refine bodyPost_ret (v := .agg #[.bool false, .int .i64 0, .int .i64 0]) ?_ rfl ⟨rfl, (by repeat (first | exact Below.refl _ _ | refine Below.drew ?_ | refine Below.setCell ?_ (by first | (simp; done) | omega | (simp; omega)) _ | refine old_alloc ?_ _ | refine old_trans ?_ (by assumption)))⟩
      simp [results, Tryz.results22, go_sem, e0, e1, e2]
    · have l0 : _ = some (Value.int .i64 x) := L.1
      have l1 : _ = some (Value.int .i64 y) := L.2.1
      go_wp2_with fail
      refine (P4.out _).mono ?_
      rintro e w2 ⟨rfl, hb2⟩
      replace N := N.later hb2
      obtain ⟨⟨e0, e1, e2⟩, ⟨f0, f1, f2⟩, nz⟩ := id N
      go_wp2
      refine bodyPost_ret (v := .agg #[.bool true, .int .i64 x, .int .i64 y]) ?_ rfl ⟨rfl, (by repeat (first | exact Below.refl _ _ | refine Below.drew ?_ | refine Below.setCell ?_ (by first | (simp; done) | omega | (simp; omega)) _ | refine old_alloc ?_ _ | refine old_trans ?_ (by assumption)))⟩
      simp [results, Tryz.results22, go_sem, e0, e1, e2]
end Go.Proofs.YtpjagplloljefaaGreat
