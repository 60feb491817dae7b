/- The program's SpanMax answers as the specification's SpanMax at every argument; nothing that was there is written. No condition. -/
import Derived.Test.YtpjagplloljefaaGreatRows
import Derived.WalkKit
import Derived.ProofKit
import Derived.OpenShut
import Derived.Below
import Derived.Carry
import Derived.Test.YtpjagplloljefaaGreatOS
import Derived.Test.YtpjagplloljefaaGreatS9
import Derived.Test.YtpjagplloljefaaGreatSS
import Derived.Test.YtpjagplloljefaaGreatBJ
namespace Go.Proofs.YtpjagplloljefaaGreat
open Go.ChangeShapes Go.WideShapes Go.ChangeAt Go.RowKit
set_option linter.unusedVariables false
set_option maxRecDepth 100000

theorem FnExactSpanMax_own : ownKnob Tryz.prog.godebug = none := by kernel_rfl

set_option maxRecDepth 100000 in
set_option maxHeartbeats 4000000 in
theorem FnExactSpanMax_walk (a0 : Int) (wa0 : -9223372036854775808 ≤ a0 ∧ a0 ≤ 9223372036854775807) (s1 : Bool) (a1 b1 : Int) (wa1 : -9223372036854775808 ≤ a1 ∧ a1 ≤ 9223372036854775807) (wb1 : -9223372036854775808 ≤ b1 ∧ b1 ≤ 9223372036854775807) (s2 : Bool) (a2 b2 : Int) (wa2 : -9223372036854775808 ≤ a2 ∧ a2 ≤ 9223372036854775807) (wb2 : -9223372036854775808 ≤ b2 ∧ b2 ≤ 9223372036854775807) (w : World) :
    Calls Tryz.prog 11 #[.int .i64 a0, .agg #[.bool s1, .int .i64 a1, .int .i64 b1], .agg #[.bool s2, .int .i64 a2, .int .i64 b2]] w fun e w' => e = .returned (.bool true) ∧ Below w.heap.size w w' := by
  have S := hd (sSpanMax a0 s1 s2 a1 b1 a2 b2)
  have I := hd (iSpanMax a0 s1 s2 a1 b1 a2 b2)
  generalize (bothB a0 s1 s2 a1 b1 a2 b2 && true) = r at *
  generalize (if r = true then max a1 a2 else 0) = x at *
  generalize (if r = true then max b1 b2 else 0) = y at *
  have E := hd (eqSpan_same r x y)
  have U1 := hd (toSpan s1 a1 b1)
  have U2 := hd (toSpan s2 a2 b2)
  have T1 := hd (fun w' (hS : w'.cell? ⟨w.heap.size, 0, none⟩ = some (.bool s1) ∧ w'.cell? ⟨w.heap.size, 1, none⟩ = some (.int .i64 a1) ∧ w'.cell? ⟨w.heap.size, 2, none⟩ = some (.int .i64 b1) ∧ w'.cell? ⟨w.heap.size + 1, 0, none⟩ = some (.bool s2) ∧ w'.cell? ⟨w.heap.size + 1, 1, none⟩ = some (.int .i64 a2) ∧ w'.cell? ⟨w.heap.size + 1, 2, none⟩ = some (.int .i64 b2)) => (U1.out w').mono (fun e w'' (k : _ ∧ _) => (⟨k, six_later hS k.2⟩ : (_ ∧ _) ∧ (w''.cell? ⟨w.heap.size, 0, none⟩ = some (.bool s1) ∧ w''.cell? ⟨w.heap.size, 1, none⟩ = some (.int .i64 a1) ∧ w''.cell? ⟨w.heap.size, 2, none⟩ = some (.int .i64 b1) ∧ w''.cell? ⟨w.heap.size + 1, 0, none⟩ = some (.bool s2) ∧ w''.cell? ⟨w.heap.size + 1, 1, none⟩ = some (.int .i64 a2) ∧ w''.cell? ⟨w.heap.size + 1, 2, none⟩ = some (.int .i64 b2)))))
  have T2 := hd (fun w' (hS : w'.cell? ⟨w.heap.size, 0, none⟩ = some (.bool s1) ∧ w'.cell? ⟨w.heap.size, 1, none⟩ = some (.int .i64 a1) ∧ w'.cell? ⟨w.heap.size, 2, none⟩ = some (.int .i64 b1) ∧ w'.cell? ⟨w.heap.size + 1, 0, none⟩ = some (.bool s2) ∧ w'.cell? ⟨w.heap.size + 1, 1, none⟩ = some (.int .i64 a2) ∧ w'.cell? ⟨w.heap.size + 1, 2, none⟩ = some (.int .i64 b2)) => (U2.out w').mono (fun e w'' (k : _ ∧ _) => (⟨k, six_later hS k.2⟩ : (_ ∧ _) ∧ (w''.cell? ⟨w.heap.size, 0, none⟩ = some (.bool s1) ∧ w''.cell? ⟨w.heap.size, 1, none⟩ = some (.int .i64 a1) ∧ w''.cell? ⟨w.heap.size, 2, none⟩ = some (.int .i64 b1) ∧ w''.cell? ⟨w.heap.size + 1, 0, none⟩ = some (.bool s2) ∧ w''.cell? ⟨w.heap.size + 1, 1, none⟩ = some (.int .i64 a2) ∧ w''.cell? ⟨w.heap.size + 1, 2, none⟩ = some (.int .i64 b2)))))
  have SS := hd (fun w' (hS : w'.cell? ⟨w.heap.size, 0, none⟩ = some (.bool s1) ∧ w'.cell? ⟨w.heap.size, 1, none⟩ = some (.int .i64 a1) ∧ w'.cell? ⟨w.heap.size, 2, none⟩ = some (.int .i64 b1) ∧ w'.cell? ⟨w.heap.size + 1, 0, none⟩ = some (.bool s2) ∧ w'.cell? ⟨w.heap.size + 1, 1, none⟩ = some (.int .i64 a2) ∧ w'.cell? ⟨w.heap.size + 1, 2, none⟩ = some (.int .i64 b2)) => (S.out w').mono (fun e w'' (k : _ ∧ _) => (⟨k, six_later hS k.2⟩ : (_ ∧ _) ∧ (w''.cell? ⟨w.heap.size, 0, none⟩ = some (.bool s1) ∧ w''.cell? ⟨w.heap.size, 1, none⟩ = some (.int .i64 a1) ∧ w''.cell? ⟨w.heap.size, 2, none⟩ = some (.int .i64 b1) ∧ w''.cell? ⟨w.heap.size + 1, 0, none⟩ = some (.bool s2) ∧ w''.cell? ⟨w.heap.size + 1, 1, none⟩ = some (.int .i64 a2) ∧ w''.cell? ⟨w.heap.size + 1, 2, none⟩ = some (.int .i64 b2)))))
  have II := hd (fun w' (hS : w'.cell? ⟨w.heap.size, 0, none⟩ = some (.bool s1) ∧ w'.cell? ⟨w.heap.size, 1, none⟩ = some (.int .i64 a1) ∧ w'.cell? ⟨w.heap.size, 2, none⟩ = some (.int .i64 b1) ∧ w'.cell? ⟨w.heap.size + 1, 0, none⟩ = some (.bool s2) ∧ w'.cell? ⟨w.heap.size + 1, 1, none⟩ = some (.int .i64 a2) ∧ w'.cell? ⟨w.heap.size + 1, 2, none⟩ = some (.int .i64 b2)) => (I.out w').mono (fun e w'' (k : _ ∧ _) => (⟨k, six_later hS k.2⟩ : (_ ∧ _) ∧ (w''.cell? ⟨w.heap.size, 0, none⟩ = some (.bool s1) ∧ w''.cell? ⟨w.heap.size, 1, none⟩ = some (.int .i64 a1) ∧ w''.cell? ⟨w.heap.size, 2, none⟩ = some (.int .i64 b1) ∧ w''.cell? ⟨w.heap.size + 1, 0, none⟩ = some (.bool s2) ∧ w''.cell? ⟨w.heap.size + 1, 1, none⟩ = some (.int .i64 a2) ∧ w''.cell? ⟨w.heap.size + 1, 2, none⟩ = some (.int .i64 b2)))))
  have K0 := (S3.made w _ rfl (.bool s1) (.int .i64 a1) (.int .i64 b1) 23).alloc (.cells #[.bool s2, .int .i64 a2, .int .i64 b2] 23)
  have M0 := S3.made (w.alloc (.cells #[.bool s1, .int .i64 a1, .int .i64 b1] 23)) (w.heap.size + 1) (by simp) (.bool s2) (.int .i64 a2) (.int .i64 b2) 23
  have z1 : w.heap.size ≠ w.heap.size + 1 + 1 := by omega
  have z2 : w.heap.size + 1 + 1 ≠ w.heap.size := by omega
  clear S I U1 U2
  go_enter Tryz.func11, Tryz.ntmps11
  go_upto_region 1 with fail
  go_cut [7] (fun s wx => ∃ b, s = .pointer (some ⟨b, 0, none⟩) ∧ S3 wx b (.bool r) (.int .i64 x) (.int .i64 y) ∧ S3 wx (w.heap.size) (.bool s1) (.int .i64 a1) (.int .i64 b1) ∧ S3 wx (w.heap.size + 1) (.bool s2) (.int .i64 a2) (.int .i64 b2) ∧ Below w.heap.size w wx)
  case first =>
    have K := K0
    have M := M0
    clear K0 M0
    go_wp2_with fail
    go_region_held3 (fun w' => w'.cell? ⟨w.heap.size, 0, none⟩ = some (.bool s1) ∧ w'.cell? ⟨w.heap.size, 1, none⟩ = some (.int .i64 a1) ∧ w'.cell? ⟨w.heap.size, 2, none⟩ = some (.int .i64 b1) ∧ w'.cell? ⟨w.heap.size + 1, 0, none⟩ = some (.bool s2) ∧ w'.cell? ⟨w.heap.size + 1, 1, none⟩ = some (.int .i64 a2) ∧ w'.cell? ⟨w.heap.size + 1, 2, none⟩ = some (.int .i64 b2)) (go_keep) (first | (go_at_call_of 13 (Value.agg #[.bool s1, .int .i64 a1, .int .i64 b1]); refine (T1.out _ (by assumption)).mono ?_; rintro e wx ⟨⟨rfl, hbx⟩, hcx⟩; (have hc0 := hcx.1; have hc1 := hcx.2.2.2.1); have K := (by first | exact K.later hbx | exact K.drew.later hbx | exact (K.alloc _).later hbx | exact (K.drew.alloc _).later hbx | exact (K.alloc _).drew.later hbx : S3 wx _ _ _ _); obtain ⟨⟨K0, K1, K2⟩, -, Kz⟩ := id K; have Kn := Nat.ne_of_lt Kz; have Ko := Nat.ne_of_gt Kz; have M := (by first | exact M.later hbx | exact M.drew.later hbx | exact (M.alloc _).later hbx | exact (M.drew.alloc _).later hbx | exact (M.alloc _).drew.later hbx : S3 wx _ _ _ _); obtain ⟨⟨M0, M1, M2⟩, -, Mz⟩ := id M; have Mn := Nat.ne_of_lt Mz; have Mo := Nat.ne_of_gt Mz; (first | (have N := N.later hbx; obtain ⟨⟨N0, N1, N2⟩, ⟨F0, F1, F2⟩, Nz⟩ := id N) | (have N := N.drew.later hbx; obtain ⟨⟨N0, N1, N2⟩, ⟨F0, F1, F2⟩, Nz⟩ := id N) | (have N := (S3.made _ _ rfl (.bool false) (.int .i64 0) (.int .i64 0) 24).later hbx; (try simp only [World.size_alloc] at N); obtain ⟨⟨N0, N1, N2⟩, ⟨F0, F1, F2⟩, Nz⟩ := id N) | (have N := (S3.made _ _ rfl (.bool false) (.int .i64 0) (.int .i64 0) 24).drew.later hbx; (try simp only [World.size_alloc] at N); obtain ⟨⟨N0, N1, N2⟩, ⟨F0, F1, F2⟩, Nz⟩ := id N) | skip)) | (go_at_call_of 13 (Value.agg #[.bool s2, .int .i64 a2, .int .i64 b2]); refine (T2.out _ (by assumption)).mono ?_; rintro e wx ⟨⟨rfl, hbx⟩, hcx⟩; (have hc0 := hcx.1; have hc1 := hcx.2.2.2.1); have K := (by first | exact K.later hbx | exact K.drew.later hbx | exact (K.alloc _).later hbx | exact (K.drew.alloc _).later hbx | exact (K.alloc _).drew.later hbx : S3 wx _ _ _ _); obtain ⟨⟨K0, K1, K2⟩, -, Kz⟩ := id K; have Kn := Nat.ne_of_lt Kz; have Ko := Nat.ne_of_gt Kz; have M := (by first | exact M.later hbx | exact M.drew.later hbx | exact (M.alloc _).later hbx | exact (M.drew.alloc _).later hbx | exact (M.alloc _).drew.later hbx : S3 wx _ _ _ _); obtain ⟨⟨M0, M1, M2⟩, -, Mz⟩ := id M; have Mn := Nat.ne_of_lt Mz; have Mo := Nat.ne_of_gt Mz; (first | (have N := N.later hbx; obtain ⟨⟨N0, N1, N2⟩, ⟨F0, F1, F2⟩, Nz⟩ := id N) | (have N := N.drew.later hbx; obtain ⟨⟨N0, N1, N2⟩, ⟨F0, F1, F2⟩, Nz⟩ := id N) | (have N := (S3.made _ _ rfl (.bool false) (.int .i64 0) (.int .i64 0) 24).later hbx; (try simp only [World.size_alloc] at N); obtain ⟨⟨N0, N1, N2⟩, ⟨F0, F1, F2⟩, Nz⟩ := id N) | (have N := (S3.made _ _ rfl (.bool false) (.int .i64 0) (.int .i64 0) 24).drew.later hbx; (try simp only [World.size_alloc] at N); obtain ⟨⟨N0, N1, N2⟩, ⟨F0, F1, F2⟩, Nz⟩ := id N) | skip)) | (go_at_call 30; refine (SS.out _ (by assumption)).mono ?_; rintro e wx ⟨⟨rfl, hbx⟩, hcx⟩; (have hc0 := hcx.1; have hc1 := hcx.2.2.2.1); have K := (by first | exact K.later hbx | exact K.drew.later hbx | exact (K.alloc _).later hbx | exact (K.drew.alloc _).later hbx | exact (K.alloc _).drew.later hbx : S3 wx _ _ _ _); obtain ⟨⟨K0, K1, K2⟩, -, Kz⟩ := id K; have Kn := Nat.ne_of_lt Kz; have Ko := Nat.ne_of_gt Kz; have M := (by first | exact M.later hbx | exact M.drew.later hbx | exact (M.alloc _).later hbx | exact (M.drew.alloc _).later hbx | exact (M.alloc _).drew.later hbx : S3 wx _ _ _ _); obtain ⟨⟨M0, M1, M2⟩, -, Mz⟩ := id M; have Mn := Nat.ne_of_lt Mz; have Mo := Nat.ne_of_gt Mz; (first | (have N := N.later hbx; obtain ⟨⟨N0, N1, N2⟩, ⟨F0, F1, F2⟩, Nz⟩ := id N) | (have N := N.drew.later hbx; obtain ⟨⟨N0, N1, N2⟩, ⟨F0, F1, F2⟩, Nz⟩ := id N) | (have N := (S3.made _ _ rfl (.bool false) (.int .i64 0) (.int .i64 0) 24).later hbx; (try simp only [World.size_alloc] at N); obtain ⟨⟨N0, N1, N2⟩, ⟨F0, F1, F2⟩, Nz⟩ := id N) | (have N := (S3.made _ _ rfl (.bool false) (.int .i64 0) (.int .i64 0) 24).drew.later hbx; (try simp only [World.size_alloc] at N); obtain ⟨⟨N0, N1, N2⟩, ⟨F0, F1, F2⟩, Nz⟩ := id N) | skip)))
    all_goals
      go_wp2_with fail
      go_meet
      exact ⟨_, rfl, (by first | with_reducible exact N.stored _ _ _ | with_reducible exact (N.stored _ _ _).drew | with_reducible exact S3.made _ _ rfl _ _ _ _ | with_reducible exact (S3.made _ _ rfl _ _ _ _).drew | exact N.stored _ _ _ | exact (N.stored _ _ _).drew | exact S3.made _ _ rfl _ _ _ _ | exact (S3.made _ _ rfl _ _ _ _).drew), (by first | with_reducible exact K | with_reducible exact K.drew | with_reducible exact K.alloc _ | with_reducible exact (K.alloc _).drew | with_reducible exact K.others (by omega) _ _ _ | with_reducible exact (K.others (by omega) _ _ _).drew | exact K | exact K.drew | exact K.alloc _ | exact (K.alloc _).drew | exact K.others (by omega) _ _ _ | exact (K.others (by omega) _ _ _).drew), (by first | with_reducible exact M | with_reducible exact M.drew | with_reducible exact M.alloc _ | with_reducible exact (M.alloc _).drew | with_reducible exact M.others (by omega) _ _ _ | with_reducible exact (M.others (by omega) _ _ _).drew | exact M | exact M.drew | exact M.alloc _ | exact (M.alloc _).drew | exact M.others (by omega) _ _ _ | exact (M.others (by omega) _ _ _).drew), (by repeat (first | exact Below.refl _ _ | refine Below.drew ?_ | refine Below.setCell ?_ (by first | (simp; done) | omega | (simp; omega)) _ | refine old_alloc ?_ _ | refine old_trans ?_ (by assumption)))⟩
  case rest =>
    obtain ⟨bx, hs7, X, K, M, hB⟩ := hcut
    subst hs7
    clear K0 M0
    obtain ⟨⟨K0, K1, K2⟩, -, Kz⟩ := id K
    have Kn := Nat.ne_of_lt Kz
    have Ko := Nat.ne_of_gt Kz
    obtain ⟨⟨M0, M1, M2⟩, -, Mz⟩ := id M
    have Mn := Nat.ne_of_lt Mz
    have Mo := Nat.ne_of_gt Mz
    obtain ⟨⟨X0, X1, X2⟩, -, Xz⟩ := id X
    have Xn := Nat.ne_of_lt Xz
    have Xo := Nat.ne_of_gt Xz
    go_upto_region 2 with fail
    go_cut [8] (fun s wx => ∃ b, s = .pointer (some ⟨b, 0, none⟩) ∧ S3 wx b (.bool r) (.int .i64 x) (.int .i64 y) ∧ S3 wx bx (.bool r) (.int .i64 x) (.int .i64 y) ∧ Below w.heap.size w wx)
    case first =>
      go_wp2_with fail
      go_region_held3 (fun w' => w'.cell? ⟨w.heap.size, 0, none⟩ = some (.bool s1) ∧ w'.cell? ⟨w.heap.size, 1, none⟩ = some (.int .i64 a1) ∧ w'.cell? ⟨w.heap.size, 2, none⟩ = some (.int .i64 b1) ∧ w'.cell? ⟨w.heap.size + 1, 0, none⟩ = some (.bool s2) ∧ w'.cell? ⟨w.heap.size + 1, 1, none⟩ = some (.int .i64 a2) ∧ w'.cell? ⟨w.heap.size + 1, 2, none⟩ = some (.int .i64 b2)) (go_keep) (first | (go_at_call_of 13 (Value.agg #[.bool s1, .int .i64 a1, .int .i64 b1]); refine (T1.out _ (by assumption)).mono ?_; rintro e wx ⟨⟨rfl, hbx⟩, hcx⟩; (have hc0 := hcx.1; have hc1 := hcx.2.2.2.1); have K := (by first | exact K.later hbx | exact K.drew.later hbx | exact (K.alloc _).later hbx | exact (K.drew.alloc _).later hbx | exact (K.alloc _).drew.later hbx : S3 wx _ _ _ _); obtain ⟨⟨K0, K1, K2⟩, -, Kz⟩ := id K; have Kn := Nat.ne_of_lt Kz; have Ko := Nat.ne_of_gt Kz; have M := (by first | exact M.later hbx | exact M.drew.later hbx | exact (M.alloc _).later hbx | exact (M.drew.alloc _).later hbx | exact (M.alloc _).drew.later hbx : S3 wx _ _ _ _); obtain ⟨⟨M0, M1, M2⟩, -, Mz⟩ := id M; have Mn := Nat.ne_of_lt Mz; have Mo := Nat.ne_of_gt Mz; have X := (by first | exact X.later hbx | exact X.drew.later hbx | exact (X.alloc _).later hbx | exact (X.drew.alloc _).later hbx | exact (X.alloc _).drew.later hbx : S3 wx _ _ _ _); obtain ⟨⟨X0, X1, X2⟩, -, Xz⟩ := id X; have Xn := Nat.ne_of_lt Xz; have Xo := Nat.ne_of_gt Xz; (first | (have N := N.later hbx; obtain ⟨⟨N0, N1, N2⟩, ⟨F0, F1, F2⟩, Nz⟩ := id N) | (have N := N.drew.later hbx; obtain ⟨⟨N0, N1, N2⟩, ⟨F0, F1, F2⟩, Nz⟩ := id N) | (have N := (S3.made _ _ rfl (.bool false) (.int .i64 0) (.int .i64 0) 24).later hbx; (try simp only [World.size_alloc] at N); obtain ⟨⟨N0, N1, N2⟩, ⟨F0, F1, F2⟩, Nz⟩ := id N) | (have N := (S3.made _ _ rfl (.bool false) (.int .i64 0) (.int .i64 0) 24).drew.later hbx; (try simp only [World.size_alloc] at N); obtain ⟨⟨N0, N1, N2⟩, ⟨F0, F1, F2⟩, Nz⟩ := id N) | skip)) | (go_at_call_of 13 (Value.agg #[.bool s2, .int .i64 a2, .int .i64 b2]); refine (T2.out _ (by assumption)).mono ?_; rintro e wx ⟨⟨rfl, hbx⟩, hcx⟩; (have hc0 := hcx.1; have hc1 := hcx.2.2.2.1); have K := (by first | exact K.later hbx | exact K.drew.later hbx | exact (K.alloc _).later hbx | exact (K.drew.alloc _).later hbx | exact (K.alloc _).drew.later hbx : S3 wx _ _ _ _); obtain ⟨⟨K0, K1, K2⟩, -, Kz⟩ := id K; have Kn := Nat.ne_of_lt Kz; have Ko := Nat.ne_of_gt Kz; have M := (by first | exact M.later hbx | exact M.drew.later hbx | exact (M.alloc _).later hbx | exact (M.drew.alloc _).later hbx | exact (M.alloc _).drew.later hbx : S3 wx _ _ _ _); obtain ⟨⟨M0, M1, M2⟩, -, Mz⟩ := id M; have Mn := Nat.ne_of_lt Mz; have Mo := Nat.ne_of_gt Mz; have X := (by first | exact X.later hbx | exact X.drew.later hbx | exact (X.alloc _).later hbx | exact (X.drew.alloc _).later hbx | exact (X.alloc _).drew.later hbx : S3 wx _ _ _ _); obtain ⟨⟨X0, X1, X2⟩, -, Xz⟩ := id X; have Xn := Nat.ne_of_lt Xz; have Xo := Nat.ne_of_gt Xz; (first | (have N := N.later hbx; obtain ⟨⟨N0, N1, N2⟩, ⟨F0, F1, F2⟩, Nz⟩ := id N) | (have N := N.drew.later hbx; obtain ⟨⟨N0, N1, N2⟩, ⟨F0, F1, F2⟩, Nz⟩ := id N) | (have N := (S3.made _ _ rfl (.bool false) (.int .i64 0) (.int .i64 0) 24).later hbx; (try simp only [World.size_alloc] at N); obtain ⟨⟨N0, N1, N2⟩, ⟨F0, F1, F2⟩, Nz⟩ := id N) | (have N := (S3.made _ _ rfl (.bool false) (.int .i64 0) (.int .i64 0) 24).drew.later hbx; (try simp only [World.size_alloc] at N); obtain ⟨⟨N0, N1, N2⟩, ⟨F0, F1, F2⟩, Nz⟩ := id N) | skip)) | (go_at_call 31; refine (II.out _ (by assumption)).mono ?_; rintro e wx ⟨⟨rfl, hbx⟩, hcx⟩; (have hc0 := hcx.1; have hc1 := hcx.2.2.2.1); have K := (by first | exact K.later hbx | exact K.drew.later hbx | exact (K.alloc _).later hbx | exact (K.drew.alloc _).later hbx | exact (K.alloc _).drew.later hbx : S3 wx _ _ _ _); obtain ⟨⟨K0, K1, K2⟩, -, Kz⟩ := id K; have Kn := Nat.ne_of_lt Kz; have Ko := Nat.ne_of_gt Kz; have M := (by first | exact M.later hbx | exact M.drew.later hbx | exact (M.alloc _).later hbx | exact (M.drew.alloc _).later hbx | exact (M.alloc _).drew.later hbx : S3 wx _ _ _ _); obtain ⟨⟨M0, M1, M2⟩, -, Mz⟩ := id M; have Mn := Nat.ne_of_lt Mz; have Mo := Nat.ne_of_gt Mz; have X := (by first | exact X.later hbx | exact X.drew.later hbx | exact (X.alloc _).later hbx | exact (X.drew.alloc _).later hbx | exact (X.alloc _).drew.later hbx : S3 wx _ _ _ _); obtain ⟨⟨X0, X1, X2⟩, -, Xz⟩ := id X; have Xn := Nat.ne_of_lt Xz; have Xo := Nat.ne_of_gt Xz; (first | (have N := N.later hbx; obtain ⟨⟨N0, N1, N2⟩, ⟨F0, F1, F2⟩, Nz⟩ := id N) | (have N := N.drew.later hbx; obtain ⟨⟨N0, N1, N2⟩, ⟨F0, F1, F2⟩, Nz⟩ := id N) | (have N := (S3.made _ _ rfl (.bool false) (.int .i64 0) (.int .i64 0) 24).later hbx; (try simp only [World.size_alloc] at N); obtain ⟨⟨N0, N1, N2⟩, ⟨F0, F1, F2⟩, Nz⟩ := id N) | (have N := (S3.made _ _ rfl (.bool false) (.int .i64 0) (.int .i64 0) 24).drew.later hbx; (try simp only [World.size_alloc] at N); obtain ⟨⟨N0, N1, N2⟩, ⟨F0, F1, F2⟩, Nz⟩ := id N) | skip)))
      all_goals
        go_wp2_with fail
        go_meet
        exact ⟨_, rfl, (by first | with_reducible exact N.stored _ _ _ | with_reducible exact (N.stored _ _ _).drew | with_reducible exact S3.made _ _ rfl _ _ _ _ | with_reducible exact (S3.made _ _ rfl _ _ _ _).drew | exact N.stored _ _ _ | exact (N.stored _ _ _).drew | exact S3.made _ _ rfl _ _ _ _ | exact (S3.made _ _ rfl _ _ _ _).drew), (by first | with_reducible exact X | with_reducible exact X.drew | with_reducible exact X.alloc _ | with_reducible exact (X.alloc _).drew | with_reducible exact X.others (by omega) _ _ _ | with_reducible exact (X.others (by omega) _ _ _).drew | exact X | exact X.drew | exact X.alloc _ | exact (X.alloc _).drew | exact X.others (by omega) _ _ _ | exact (X.others (by omega) _ _ _).drew), (by repeat (first | exact Below.refl _ _ | refine Below.drew ?_ | refine Below.setCell ?_ (by first | (simp; done) | omega | (simp; omega)) _ | refine old_alloc ?_ _ | refine old_trans ?_ (by assumption)))⟩
    case rest =>
      obtain ⟨cx, hs9, G, X, hB⟩ := hcut
      subst hs9
      clear K0 K1 K2 Kz Kn Ko M0 M1 M2 Mz Mn Mo X0 X1 X2 Xz Xn Xo
      obtain ⟨⟨G0, G1, G2⟩, -, Gz⟩ := id G
      have Gn := Nat.ne_of_lt Gz
      have Go := Nat.ne_of_gt Gz
      obtain ⟨⟨X0, X1, X2⟩, -, Xz⟩ := id X
      have Xn := Nat.ne_of_lt Xz
      have Xo := Nat.ne_of_gt Xz
      go_wp2_with fail
      refine (E.out _).mono ?_
      rintro e w1 ⟨rfl, hb1⟩
      go_wp2
      go_ret
      exact ⟨rfl, (by repeat (first | exact Below.refl _ _ | refine Below.drew ?_ | refine old_alloc ?_ _ | refine old_trans ?_ (by assumption)))⟩

set_option maxRecDepth 100000 in
theorem FnExactSpanMax_lifted (os : Os) (started : os.Started) (H : Type) (enc : TypeId × Value → H) :
    ReturnsInHanded {} Tryz.checked os 11 .any (Rows.fnExactSpanMaxSpec.pre6 enc Tryz.prog Tryz.f11 Rows.fnExactSpanMaxRow.domain false) (Rows.fnExactSpanMaxSpec.post enc Tryz.prog Tryz.f11 false true false false) := by
  refine returnsInHanded_of_change (C := Tryz.checked) FnExactSpanMax_own started (by kernel_rfl) Tryz.func11
    (ChangeSpec.witness6 (enc := enc) (C := Tryz.checked) false ⟨#[], #[.int .i64 0, .agg #[.bool false, .int .i64 0, .int .i64 0], .agg #[.bool false, .int .i64 0, .int .i64 0]], []⟩ 8 (by kernel_rfl) (by kernel_rfl) (by kernel_rfl) (by kernel_rfl)) ?_
  intro W base args ds gs before hval0 hW hcnd _
  have hval : ∀ (j : Nat) t v, Tryz.f11.params[j]? = some t → args[j]? = some v → Value.okWide Tryz.prog W .any base t v := hval0
  have hW' := hW
  obtain ⟨p, q, hA0, hV, rfl, hfz, hnd⟩ := hW
  have hA : DataW.TrodAll enc Tryz.prog W 0 (fun _ => true) true Tryz.f11.params.toList args.toList ds p := hA0
  rw [Tryz.params11] at hA hval
  obtain ⟨v0, vs0, d0, ds0, p0, q0, hargs, rfl, rfl, h0, r0⟩ := trodAll_cons hA
  obtain ⟨v1, vs1, d1, ds1, p1, q1, rfl, rfl, rfl, h1, r1⟩ := trodAll_cons r0
  obtain ⟨v2, vs2, d2, ds2, p2, q2, rfl, rfl, rfl, h2, r2⟩ := trodAll_cons r1
  obtain ⟨rfl, rfl, rfl⟩ := trodAll_nil r2
  obtain rfl : args = #[v0, v1, v2] := by cases args; simp_all
  obtain ⟨rfl, rfl⟩ := trodVars_none hV
  have k0 := h0
  have lt0 : ∀ x ∈ p0, x.block < W.heap.size := by obtain ⟨m, hm⟩ := k0; exact DataW.trod_lt m _ _ _ hm
  obtain ⟨a0, rfl, -, -, wf0⟩ := open_int Tryz.underlying3 (hval 0 3 v0 rfl rfl) h0
  have wa0 := bounds_i64 wf0
  have k1 := h1
  have lt1 : ∀ x ∈ p1, x.block < W.heap.size := by obtain ⟨m, hm⟩ := k1; exact DataW.trod_lt m _ _ _ hm
  obtain ⟨s1, a1, b1, rfl, wa1, wb1⟩ := open_lspan (hval 1 23 v1 rfl rfl) h1
  have k2 := h2
  have lt2 : ∀ x ∈ p2, x.block < W.heap.size := by obtain ⟨m, hm⟩ := k2; exact DataW.trod_lt m _ _ _ hm
  obtain ⟨s2, a2, b2, rfl, wa2, wb2⟩ := open_lspan (hval 2 23 v2 rfl rfl) h2
  clear hA0 hval0
  refine (FnExactSpanMax_walk a0 wa0 s1 a1 b1 wa1 wb1 s2 a2 b2 wa2 wb2 W ).mono fun e W' ⟨he, bel⟩ => ?_
  subst he
  exact ⟨_, rfl, _, _, _, [], _, [], hW', trodAll_mk1 (shut_bool Tryz.underlying4 _), (trodAll_cons_mk (Below.trod jf1 (by kernel_rfl) (of_decide_eq_true (by kernel_rfl)) k0 bel lt0) (trodAll_cons_mk (Below.trod jf1 (by kernel_rfl) (of_decide_eq_true (by kernel_rfl)) k1 bel lt1) (trodAll_cons_mk (Below.trod jf1 (by kernel_rfl) (of_decide_eq_true (by kernel_rfl)) k2 bel lt2) trodAll_mk0))), rfl, bel.frame _, fun h => by cases h⟩

theorem FnExactSpanMax_k0 : (Rows.fnExactSpanMaxRow.wf (OpenSpec.ofChange Rows.fnExactSpanMaxSpec)) = true := by kernel_rfl
theorem FnExactSpanMax_k3 : (Tryz.f11.params.all (Tryz.prog.readableRec ·)) = true := by kernel_rfl
theorem FnExactSpanMax_k4 : (namedTie Tryz.prog Rows.fnExactSpanMaxRow.named Rows.fnExactSpanMaxSpec.vars) = true := by kernel_rfl
theorem FnExactSpanMax_k5 : ((Rows.fnExactSpanMaxRow.stops == [])) = true := by kernel_rfl
theorem FnExactSpanMax_k7 : ((Rows.fnExactSpanMaxRow.knobs == [])) = true := by kernel_rfl
theorem FnExactSpanMax_k9 : ((Rows.fnExactSpanMaxRow.inPlace == Tryz.prog.inPlace 11)) = true := by kernel_rfl
theorem FnExactSpanMax_k10 : ((Rows.fnExactSpanMaxRow.unfollowed == Tryz.prog.unfollowed 11)) = true := by kernel_rfl
theorem FnExactSpanMax_k11 : ((Rows.fnExactSpanMaxRow.recurses == Tryz.prog.recurses 11)) = true := by kernel_rfl
theorem FnExactSpanMax_k12 : ((Rows.fnExactSpanMaxRow.named == Tryz.prog.varsNamed 11)) = true := by kernel_rfl
theorem FnExactSpanMax_k13 : ((Rows.fnExactSpanMaxRow.maps == (Tryz.f11.params.toList ++ Rows.fnExactSpanMaxSpec.plain.varTypes Tryz.prog).any (Tryz.prog.mapsRec ·))) = true := by kernel_rfl
theorem FnExactSpanMax_k14 : ((Rows.fnExactSpanMaxRow.ifaces == (Tryz.f11.params.toList ++ Rows.fnExactSpanMaxSpec.plain.varTypes Tryz.prog).any (Tryz.prog.ifacesRec ·))) = true := by kernel_rfl
theorem FnExactSpanMax_k15 : ((Rows.fnExactSpanMaxRow.mapsOut == Tryz.prog.mapsAmong Tryz.f11.resultTypes.toList)) = true := by kernel_rfl
theorem FnExactSpanMax_k16 : ((Rows.fnExactSpanMaxRow.loops == (Tryz.f11.params.toList ++ Rows.fnExactSpanMaxSpec.plain.varTypes Tryz.prog).any (Tryz.prog.loopsFrom ·))) = true := by kernel_rfl
theorem FnExactSpanMax_k17 : ((Rows.fnExactSpanMaxRow.wideKeys == (Tryz.f11.params.toList ++ Rows.fnExactSpanMaxSpec.plain.varTypes Tryz.prog ++ Tryz.f11.resultTypes.toList).any (Tryz.prog.wideKeysFrom ·))) = true := by kernel_rfl
theorem FnExactSpanMax_k18 : (Rows.fnExactSpanMaxSpec.vars.all (Tryz.prog.varReadable ·)) = true := by kernel_rfl
theorem FnExactSpanMax_k19 : (Tryz.f11.resultTypes.all (fun t => Tryz.prog.readableRec t && decide (t < Tryz.prog.types.size))) = true := by kernel_rfl
theorem FnExactSpanMax_k20 : ((Rows.fnExactSpanMaxRow.ifacesOut == Tryz.f11.resultTypes.toList.any (Tryz.prog.ifacesRec ·))) = true := by kernel_rfl
theorem FnExactSpanMax_k21 : ((Rows.fnExactSpanMaxRow.loopsOut == Tryz.f11.resultTypes.toList.any (Tryz.prog.loopsFrom ·))) = true := by kernel_rfl
theorem FnExactSpanMax_k23 : (Rows.fnExactSpanMaxRow.shortTexts.isNone) = true := by kernel_rfl
theorem FnExactSpanMax_k28 : ((Rows.fnExactSpanMaxRow.kinds == (if Rows.fnExactSpanMaxRow.domain.isEmpty then [] else Tryz.f11.params.toList.map fun t => match Tryz.prog.underlying t with | some (.int k) => some k | _ => none))) = true := by kernel_rfl
theorem FnExactSpanMax_k29 : ((Rows.fnExactSpanMaxRow.pinned == Rows.fnExactSpanMaxRow.pinnedBy)) = true := by kernel_rfl
theorem FnExactSpanMax_k30 : ((Rows.fnExactSpanMaxRow.veiled == (Tryz.f11.params.toList ++ Rows.fnExactSpanMaxSpec.plain.varTypes Tryz.prog ++ Tryz.f11.resultTypes.toList).any (Tryz.prog.veiledRec ·))) = true := by kernel_rfl
theorem FnExactSpanMax_k31 : (Rows.fnExactSpanMaxRow.veiledFits Tryz.prog Tryz.f11.params.toList (Tryz.f11.params.toList ++ Rows.fnExactSpanMaxSpec.plain.varTypes Tryz.prog ++ Tryz.f11.resultTypes.toList)) = true := by kernel_rfl
set_option maxRecDepth 100000 in
theorem FnExactSpanMax_closed : joinedFacts Tryz.prog 11 Tryz.f11 Rows.fnExactSpanMaxSpec Rows.fnExactSpanMaxRow = true := (and2 (and2 (and2 (and2 (and2 (and2 (and2 (and2 (and2 (and2 (and2 (and2 (and2 (and2 (and2 (and2 (and2 (and2 (and2 (and2 (and2 (and2 (and2 (and2 (and2 (and2 (and2 (and2 (and2 (and2 (and2 FnExactSpanMax_k0 jf1) jf2) FnExactSpanMax_k3) FnExactSpanMax_k4) FnExactSpanMax_k5) jf6) FnExactSpanMax_k7) jf8) FnExactSpanMax_k9) FnExactSpanMax_k10) FnExactSpanMax_k11) FnExactSpanMax_k12) FnExactSpanMax_k13) FnExactSpanMax_k14) FnExactSpanMax_k15) FnExactSpanMax_k16) FnExactSpanMax_k17) FnExactSpanMax_k18) FnExactSpanMax_k19) FnExactSpanMax_k20) FnExactSpanMax_k21) jf22) FnExactSpanMax_k23) jf24) jf25) jf26) jf27) FnExactSpanMax_k28) FnExactSpanMax_k29) FnExactSpanMax_k30) FnExactSpanMax_k31)
theorem FnExactSpanMax_over : Rows.fnExactSpanMaxRow.holds Tryz.pinned (OpenSpec.ofChange Rows.fnExactSpanMaxSpec) :=
  OpenClaim.holds_of_wide 11 Tryz.f11 rfl rfl rfl rfl rfl rfl rfl ⟨rfl, rfl, rfl, rfl, rfl⟩ rfl rfl rfl rfl rfl (by kernel_rfl) Tryz.func11 FnExactSpanMax_closed
    (of_decide_eq_true (by kernel_rfl)) (by unfold Func.isWrapper; first | (rw [if_pos (by decide +kernel)]; kernel_rfl) | (rw [if_neg (by decide +kernel)]; exact ⟨rfl, rfl⟩))
    (fun os started H enc _ => FnExactSpanMax_lifted os started H enc)

theorem FnExactSpanMax_proved : Rows.FnExactSpanMaxSaid := FnExactSpanMax_over
end Go.Proofs.YtpjagplloljefaaGreat
