/- The program's RelSure answers as the specification's RelSure at every argument; nothing that was there is written. No condition. -/
import Derived.Test.YtpjagplloljefaaRows
import Derived.WalkKit
import Derived.ProofKit
import Derived.OpenShut
import Derived.Below
import Derived.Carry
import Derived.Test.YtpjagplloljefaaOS
import Derived.Test.YtpjagplloljefaaRS
import Derived.Test.YtpjagplloljefaaBJ
namespace Go.Proofs.Ytpjagplloljefaa
open Go.ChangeShapes Go.WideShapes Go.ChangeAt Go.RowKit
set_option linter.unusedVariables false

theorem FnExactRelSure_own : ownKnob Try.prog.godebug = none := by kernel_rfl

set_option maxRecDepth 100000 in
set_option maxHeartbeats 8000000 in
theorem FnExactRelSure_walk (a0 : Int) (wa0 : -9223372036854775808 ≤ a0 ∧ a0 ≤ 9223372036854775807) (a1 : Int) (wa1 : -9223372036854775808 ≤ a1 ∧ a1 ≤ 9223372036854775807) (s2 : Bool) (a2 b2 : Int) (wa2 : -9223372036854775808 ≤ a2 ∧ a2 ≤ 9223372036854775807) (wb2 : -9223372036854775808 ≤ b2 ∧ b2 ≤ 9223372036854775807) (s3 : Bool) (a3 b3 : Int) (wa3 : -9223372036854775808 ≤ a3 ∧ a3 ≤ 9223372036854775807) (wb3 : -9223372036854775808 ≤ b3 ∧ b3 ≤ 9223372036854775807) (w : World) :
    Calls Try.prog 3 #[.int .i64 a0, .int .i64 a1, .agg #[.bool s2, .int .i64 a2, .int .i64 b2], .agg #[.bool s3, .int .i64 a3, .int .i64 b3]] w fun e w' => e = .returned (.bool true) ∧ Below w.heap.size w w' := by
  have S := hd (sRelSure a0 a1 s2 s3 a2 b2 a3 b3)
  have I := hd (iRelSure a0 a1 s2 s3 a2 b2 a3 b3)
  generalize relS a0 a1 s2 a2 b2 s3 a3 b3 = r at *
  have U2 := hd (toSpan s2 a2 b2)
  have T2 := hd (fun w' (hS : w'.cell? ⟨w.heap.size, 0, none⟩ = some (.bool s2) ∧ w'.cell? ⟨w.heap.size, 1, none⟩ = some (.int .i64 a2) ∧ w'.cell? ⟨w.heap.size, 2, none⟩ = some (.int .i64 b2) ∧ w'.cell? ⟨w.heap.size + 1, 0, none⟩ = some (.bool s3) ∧ w'.cell? ⟨w.heap.size + 1, 1, none⟩ = some (.int .i64 a3) ∧ w'.cell? ⟨w.heap.size + 1, 2, none⟩ = some (.int .i64 b3)) => (U2.out w').mono (fun e w'' (k : _ ∧ _) => (⟨k, ⟨cell_later k.2 hS.1, cell_later k.2 hS.2.1, cell_later k.2 hS.2.2.1, cell_later k.2 hS.2.2.2.1, cell_later k.2 hS.2.2.2.2.1, cell_later k.2 hS.2.2.2.2.2⟩⟩ : (_ ∧ _) ∧ (w''.cell? ⟨w.heap.size, 0, none⟩ = some (.bool s2) ∧ w''.cell? ⟨w.heap.size, 1, none⟩ = some (.int .i64 a2) ∧ w''.cell? ⟨w.heap.size, 2, none⟩ = some (.int .i64 b2) ∧ w''.cell? ⟨w.heap.size + 1, 0, none⟩ = some (.bool s3) ∧ w''.cell? ⟨w.heap.size + 1, 1, none⟩ = some (.int .i64 a3) ∧ w''.cell? ⟨w.heap.size + 1, 2, none⟩ = some (.int .i64 b3)))))
  have U3 := hd (toSpan s3 a3 b3)
  have T3 := hd (fun w' (hS : w'.cell? ⟨w.heap.size, 0, none⟩ = some (.bool s2) ∧ w'.cell? ⟨w.heap.size, 1, none⟩ = some (.int .i64 a2) ∧ w'.cell? ⟨w.heap.size, 2, none⟩ = some (.int .i64 b2) ∧ w'.cell? ⟨w.heap.size + 1, 0, none⟩ = some (.bool s3) ∧ w'.cell? ⟨w.heap.size + 1, 1, none⟩ = some (.int .i64 a3) ∧ w'.cell? ⟨w.heap.size + 1, 2, none⟩ = some (.int .i64 b3)) => (U3.out w').mono (fun e w'' (k : _ ∧ _) => (⟨k, ⟨cell_later k.2 hS.1, cell_later k.2 hS.2.1, cell_later k.2 hS.2.2.1, cell_later k.2 hS.2.2.2.1, cell_later k.2 hS.2.2.2.2.1, cell_later k.2 hS.2.2.2.2.2⟩⟩ : (_ ∧ _) ∧ (w''.cell? ⟨w.heap.size, 0, none⟩ = some (.bool s2) ∧ w''.cell? ⟨w.heap.size, 1, none⟩ = some (.int .i64 a2) ∧ w''.cell? ⟨w.heap.size, 2, none⟩ = some (.int .i64 b2) ∧ w''.cell? ⟨w.heap.size + 1, 0, none⟩ = some (.bool s3) ∧ w''.cell? ⟨w.heap.size + 1, 1, none⟩ = some (.int .i64 a3) ∧ w''.cell? ⟨w.heap.size + 1, 2, none⟩ = some (.int .i64 b3)))))
  have SS := hd (fun w' (hS : w'.cell? ⟨w.heap.size, 0, none⟩ = some (.bool s2) ∧ w'.cell? ⟨w.heap.size, 1, none⟩ = some (.int .i64 a2) ∧ w'.cell? ⟨w.heap.size, 2, none⟩ = some (.int .i64 b2) ∧ w'.cell? ⟨w.heap.size + 1, 0, none⟩ = some (.bool s3) ∧ w'.cell? ⟨w.heap.size + 1, 1, none⟩ = some (.int .i64 a3) ∧ w'.cell? ⟨w.heap.size + 1, 2, none⟩ = some (.int .i64 b3)) => (S.out w').mono (fun e w'' (k : _ ∧ _) => (⟨k, ⟨cell_later k.2 hS.1, cell_later k.2 hS.2.1, cell_later k.2 hS.2.2.1, cell_later k.2 hS.2.2.2.1, cell_later k.2 hS.2.2.2.2.1, cell_later k.2 hS.2.2.2.2.2⟩⟩ : (_ ∧ _) ∧ (w''.cell? ⟨w.heap.size, 0, none⟩ = some (.bool s2) ∧ w''.cell? ⟨w.heap.size, 1, none⟩ = some (.int .i64 a2) ∧ w''.cell? ⟨w.heap.size, 2, none⟩ = some (.int .i64 b2) ∧ w''.cell? ⟨w.heap.size + 1, 0, none⟩ = some (.bool s3) ∧ w''.cell? ⟨w.heap.size + 1, 1, none⟩ = some (.int .i64 a3) ∧ w''.cell? ⟨w.heap.size + 1, 2, none⟩ = some (.int .i64 b3)))))
  have II := hd (fun w' (hS : w'.cell? ⟨w.heap.size, 0, none⟩ = some (.bool s2) ∧ w'.cell? ⟨w.heap.size, 1, none⟩ = some (.int .i64 a2) ∧ w'.cell? ⟨w.heap.size, 2, none⟩ = some (.int .i64 b2) ∧ w'.cell? ⟨w.heap.size + 1, 0, none⟩ = some (.bool s3) ∧ w'.cell? ⟨w.heap.size + 1, 1, none⟩ = some (.int .i64 a3) ∧ w'.cell? ⟨w.heap.size + 1, 2, none⟩ = some (.int .i64 b3)) => (I.out w').mono (fun e w'' (k : _ ∧ _) => (⟨k, ⟨cell_later k.2 hS.1, cell_later k.2 hS.2.1, cell_later k.2 hS.2.2.1, cell_later k.2 hS.2.2.2.1, cell_later k.2 hS.2.2.2.2.1, cell_later k.2 hS.2.2.2.2.2⟩⟩ : (_ ∧ _) ∧ (w''.cell? ⟨w.heap.size, 0, none⟩ = some (.bool s2) ∧ w''.cell? ⟨w.heap.size, 1, none⟩ = some (.int .i64 a2) ∧ w''.cell? ⟨w.heap.size, 2, none⟩ = some (.int .i64 b2) ∧ w''.cell? ⟨w.heap.size + 1, 0, none⟩ = some (.bool s3) ∧ w''.cell? ⟨w.heap.size + 1, 1, none⟩ = some (.int .i64 a3) ∧ w''.cell? ⟨w.heap.size + 1, 2, none⟩ = some (.int .i64 b3)))))
  have K := (S3.made w (w.heap.size) (by simp) (.bool s2) (.int .i64 a2) (.int .i64 b2) 23).alloc (.cells #[.bool s3, .int .i64 a3, .int .i64 b3] 23)
  have M := S3.made (w.alloc (.cells #[.bool s2, .int .i64 a2, .int .i64 b2] 23)) (w.heap.size + 1) (by simp) (.bool s3) (.int .i64 a3) (.int .i64 b3) 23
  have z0a : w.heap.size ≠ w.heap.size + 1 + 1 := by omega
  have z0b : w.heap.size + 1 + 1 ≠ w.heap.size := by omega
  have z1a : w.heap.size + 1 ≠ w.heap.size + 1 + 1 := by omega
  have z1b : w.heap.size + 1 + 1 ≠ w.heap.size + 1 := by omega
  clear S I U2 U3
  go_enter Try.func3, Try.ntmps3
  go_upto_region 1 with fail
  go_cut [9] (fun s wx => s = .int .i64 r ∧ S3 wx (w.heap.size) (.bool s2) (.int .i64 a2) (.int .i64 b2) ∧ S3 wx (w.heap.size + 1) (.bool s3) (.int .i64 a3) (.int .i64 b3) ∧ Below w.heap.size w wx)
  case first =>
    go_wp2_with fail
    go_region_held3 (fun w' => w'.cell? ⟨w.heap.size, 0, none⟩ = some (.bool s2) ∧ w'.cell? ⟨w.heap.size, 1, none⟩ = some (.int .i64 a2) ∧ w'.cell? ⟨w.heap.size, 2, none⟩ = some (.int .i64 b2) ∧ w'.cell? ⟨w.heap.size + 1, 0, none⟩ = some (.bool s3) ∧ w'.cell? ⟨w.heap.size + 1, 1, none⟩ = some (.int .i64 a3) ∧ w'.cell? ⟨w.heap.size + 1, 2, none⟩ = some (.int .i64 b3)) (go_keep) (first | (go_at_call_of 5 (Value.agg #[.bool s2, .int .i64 a2, .int .i64 b2]); refine (T2.out _ (by assumption)).mono ?_; rintro e wx ⟨⟨rfl, hbx⟩, hcx⟩; have hc0 := hcx.1; have K := (by first | exact K.later hbx | exact K.drew.later hbx | exact (K.alloc _).later hbx | exact (K.drew.alloc _).later hbx | exact (K.alloc _).drew.later hbx : S3 wx _ _ _ _); obtain ⟨⟨K0, K1, K2⟩, -, Kz⟩ := id K; have Kn := Nat.ne_of_lt Kz; have Ko := Nat.ne_of_gt Kz; have M := (by first | exact M.later hbx | exact M.drew.later hbx | exact (M.alloc _).later hbx | exact (M.drew.alloc _).later hbx | exact (M.alloc _).drew.later hbx : S3 wx _ _ _ _); obtain ⟨⟨M0, M1, M2⟩, -, Mz⟩ := id M; have Mn := Nat.ne_of_lt Mz; have Mo := Nat.ne_of_gt Mz) | (go_at_call_of 5 (Value.agg #[.bool s3, .int .i64 a3, .int .i64 b3]); refine (T3.out _ (by assumption)).mono ?_; rintro e wx ⟨⟨rfl, hbx⟩, hcx⟩; have hc0 := hcx.1; have K := (by first | exact K.later hbx | exact K.drew.later hbx | exact (K.alloc _).later hbx | exact (K.drew.alloc _).later hbx | exact (K.alloc _).drew.later hbx : S3 wx _ _ _ _); obtain ⟨⟨K0, K1, K2⟩, -, Kz⟩ := id K; have Kn := Nat.ne_of_lt Kz; have Ko := Nat.ne_of_gt Kz; have M := (by first | exact M.later hbx | exact M.drew.later hbx | exact (M.alloc _).later hbx | exact (M.drew.alloc _).later hbx | exact (M.alloc _).drew.later hbx : S3 wx _ _ _ _); obtain ⟨⟨M0, M1, M2⟩, -, Mz⟩ := id M; have Mn := Nat.ne_of_lt Mz; have Mo := Nat.ne_of_gt Mz) | (go_at_call 4; refine (SS.out _ (by assumption)).mono ?_; rintro e wx ⟨⟨rfl, hbx⟩, hcx⟩; have hc0 := hcx.1; have K := (by first | exact K.later hbx | exact K.drew.later hbx | exact (K.alloc _).later hbx | exact (K.drew.alloc _).later hbx | exact (K.alloc _).drew.later hbx : S3 wx _ _ _ _); obtain ⟨⟨K0, K1, K2⟩, -, Kz⟩ := id K; have Kn := Nat.ne_of_lt Kz; have Ko := Nat.ne_of_gt Kz; have M := (by first | exact M.later hbx | exact M.drew.later hbx | exact (M.alloc _).later hbx | exact (M.drew.alloc _).later hbx | exact (M.alloc _).drew.later hbx : S3 wx _ _ _ _); obtain ⟨⟨M0, M1, M2⟩, -, Mz⟩ := id M; have Mn := Nat.ne_of_lt Mz; have Mo := Nat.ne_of_gt Mz))
    all_goals
      go_wp2_with fail
      go_meet
      exact ⟨rfl, (by first | with_reducible exact K | with_reducible exact K.drew | with_reducible exact K.alloc _ | with_reducible exact (K.alloc _).drew | with_reducible exact K.others (by omega) _ _ _ | with_reducible exact (K.others (by omega) _ _ _).drew | exact K | exact K.drew | exact K.alloc _ | exact (K.alloc _).drew | exact K.others (by omega) _ _ _ | exact (K.others (by omega) _ _ _).drew), (by first | with_reducible exact M | with_reducible exact M.drew | with_reducible exact M.alloc _ | with_reducible exact (M.alloc _).drew | with_reducible exact M.others (by omega) _ _ _ | with_reducible exact (M.others (by omega) _ _ _).drew | exact M | exact M.drew | exact M.alloc _ | exact (M.alloc _).drew | exact M.others (by omega) _ _ _ | exact (M.others (by omega) _ _ _).drew), (by repeat (first | exact Below.refl _ _ | refine Below.drew ?_ | refine Below.setCell ?_ (by first | (simp; done) | omega | (simp; omega)) _ | refine old_alloc ?_ _ | refine old_trans ?_ (by assumption)))⟩
  case rest =>
    obtain ⟨hs, K, M, hB⟩ := hcut
    subst hs
    obtain ⟨⟨K0, K1, K2⟩, -, Kz⟩ := id K
    have Kn := Nat.ne_of_lt Kz
    have Ko := Nat.ne_of_gt Kz
    obtain ⟨⟨M0, M1, M2⟩, -, Mz⟩ := id M
    have Mn := Nat.ne_of_lt Mz
    have Mo := Nat.ne_of_gt Mz
    go_upto_region 2 with fail
    go_cut [10] (fun s wx => s = .int .i64 r ∧ Below w.heap.size w wx)
    case first =>
      go_wp2_with fail
      go_region_held3 (fun w' => w'.cell? ⟨w.heap.size, 0, none⟩ = some (.bool s2) ∧ w'.cell? ⟨w.heap.size, 1, none⟩ = some (.int .i64 a2) ∧ w'.cell? ⟨w.heap.size, 2, none⟩ = some (.int .i64 b2) ∧ w'.cell? ⟨w.heap.size + 1, 0, none⟩ = some (.bool s3) ∧ w'.cell? ⟨w.heap.size + 1, 1, none⟩ = some (.int .i64 a3) ∧ w'.cell? ⟨w.heap.size + 1, 2, none⟩ = some (.int .i64 b3)) (go_keep) (first | (go_at_call_of 5 (Value.agg #[.bool s2, .int .i64 a2, .int .i64 b2]); refine (T2.out _ (by assumption)).mono ?_; rintro e wx ⟨⟨rfl, hbx⟩, hcx⟩; have hc0 := hcx.1; have K := (by first | exact K.later hbx | exact K.drew.later hbx | exact (K.alloc _).later hbx | exact (K.drew.alloc _).later hbx | exact (K.alloc _).drew.later hbx : S3 wx _ _ _ _); obtain ⟨⟨K0, K1, K2⟩, -, Kz⟩ := id K; have Kn := Nat.ne_of_lt Kz; have Ko := Nat.ne_of_gt Kz; have M := (by first | exact M.later hbx | exact M.drew.later hbx | exact (M.alloc _).later hbx | exact (M.drew.alloc _).later hbx | exact (M.alloc _).drew.later hbx : S3 wx _ _ _ _); obtain ⟨⟨M0, M1, M2⟩, -, Mz⟩ := id M; have Mn := Nat.ne_of_lt Mz; have Mo := Nat.ne_of_gt Mz) | (go_at_call_of 5 (Value.agg #[.bool s3, .int .i64 a3, .int .i64 b3]); refine (T3.out _ (by assumption)).mono ?_; rintro e wx ⟨⟨rfl, hbx⟩, hcx⟩; have hc0 := hcx.1; have K := (by first | exact K.later hbx | exact K.drew.later hbx | exact (K.alloc _).later hbx | exact (K.drew.alloc _).later hbx | exact (K.alloc _).drew.later hbx : S3 wx _ _ _ _); obtain ⟨⟨K0, K1, K2⟩, -, Kz⟩ := id K; have Kn := Nat.ne_of_lt Kz; have Ko := Nat.ne_of_gt Kz; have M := (by first | exact M.later hbx | exact M.drew.later hbx | exact (M.alloc _).later hbx | exact (M.drew.alloc _).later hbx | exact (M.alloc _).drew.later hbx : S3 wx _ _ _ _); obtain ⟨⟨M0, M1, M2⟩, -, Mz⟩ := id M; have Mn := Nat.ne_of_lt Mz; have Mo := Nat.ne_of_gt Mz) | (go_at_call 6; refine (II.out _ (by assumption)).mono ?_; rintro e wx ⟨⟨rfl, hbx⟩, hcx⟩; have hc0 := hcx.1; have K := (by first | exact K.later hbx | exact K.drew.later hbx | exact (K.alloc _).later hbx | exact (K.drew.alloc _).later hbx | exact (K.alloc _).drew.later hbx : S3 wx _ _ _ _); obtain ⟨⟨K0, K1, K2⟩, -, Kz⟩ := id K; have Kn := Nat.ne_of_lt Kz; have Ko := Nat.ne_of_gt Kz; have M := (by first | exact M.later hbx | exact M.drew.later hbx | exact (M.alloc _).later hbx | exact (M.drew.alloc _).later hbx | exact (M.alloc _).drew.later hbx : S3 wx _ _ _ _); obtain ⟨⟨M0, M1, M2⟩, -, Mz⟩ := id M; have Mn := Nat.ne_of_lt Mz; have Mo := Nat.ne_of_gt Mz))
      all_goals
        go_wp2_with fail
        go_meet
        exact ⟨rfl, (by repeat (first | exact Below.refl _ _ | refine Below.drew ?_ | refine Below.setCell ?_ (by first | (simp; done) | omega | (simp; omega)) _ | refine old_alloc ?_ _ | refine old_trans ?_ (by assumption)))⟩
    case rest =>
      obtain ⟨hs, hB⟩ := hcut
      subst hs
      go_wp2
      go_ret
      exact ⟨rfl, hB⟩

set_option maxRecDepth 100000 in
theorem FnExactRelSure_lifted (os : Os) (started : os.Started) (H : Type) (enc : TypeId × Value → H) :
    ReturnsInHanded {} Try.checked os 3 .any (Rows.fnExactRelSureSpec.pre6 enc Try.prog Try.f3 Rows.fnExactRelSureRow.domain false) (Rows.fnExactRelSureSpec.post enc Try.prog Try.f3 false true false false) := by
  refine returnsInHanded_of_change (C := Try.checked) FnExactRelSure_own started (by kernel_rfl) Try.func3
    (ChangeSpec.witness6 (enc := enc) (C := Try.checked) false ⟨#[], #[.int .i64 0, .int .i64 0, .agg #[.bool false, .int .i64 0, .int .i64 0], .agg #[.bool false, .int .i64 0, .int .i64 0]], []⟩ 8 (by kernel_rfl) (by kernel_rfl) (by kernel_rfl) (by kernel_rfl)) ?_
  intro W base args ds gs before hval0 hW hcnd _
  have hval : ∀ (j : Nat) t v, Try.f3.params[j]? = some t → args[j]? = some v → Value.okWide Try.prog W .any base t v := hval0
  have hW' := hW
  obtain ⟨p, q, hA0, hV, rfl, hfz, hnd⟩ := hW
  have hA : DataW.TrodAll enc Try.prog W 0 (fun _ => true) true Try.f3.params.toList args.toList ds p := hA0
  rw [Try.params3] at hA hval
  obtain ⟨v0, vs0, d0, ds0, p0, q0, hargs, rfl, rfl, h0, r0⟩ := trodAll_cons hA
  obtain ⟨v1, vs1, d1, ds1, p1, q1, rfl, rfl, rfl, h1, r1⟩ := trodAll_cons r0
  obtain ⟨v2, vs2, d2, ds2, p2, q2, rfl, rfl, rfl, h2, r2⟩ := trodAll_cons r1
  obtain ⟨v3, vs3, d3, ds3, p3, q3, rfl, rfl, rfl, h3, r3⟩ := trodAll_cons r2
  obtain ⟨rfl, rfl, rfl⟩ := trodAll_nil r3
  obtain rfl : args = #[v0, v1, v2, v3] := by cases args; simp_all
  obtain ⟨rfl, rfl⟩ := trodVars_none hV
  have k0 := h0
  have lt0 : ∀ x ∈ p0, x.block < W.heap.size := by obtain ⟨m, hm⟩ := k0; exact DataW.trod_lt m _ _ _ hm
  obtain ⟨a0, rfl, -, -, wf0⟩ := open_int Try.underlying3 (hval 0 3 v0 rfl rfl) h0
  have wa0 := bounds_i64 wf0
  have k1 := h1
  have lt1 : ∀ x ∈ p1, x.block < W.heap.size := by obtain ⟨m, hm⟩ := k1; exact DataW.trod_lt m _ _ _ hm
  obtain ⟨a1, rfl, -, -, wf1⟩ := open_int Try.underlying3 (hval 1 3 v1 rfl rfl) h1
  have wa1 := bounds_i64 wf1
  have k2 := h2
  have lt2 : ∀ x ∈ p2, x.block < W.heap.size := by obtain ⟨m, hm⟩ := k2; exact DataW.trod_lt m _ _ _ hm
  obtain ⟨s2, a2, b2, rfl, wa2, wb2⟩ := open_lspan (hval 2 23 v2 rfl rfl) h2
  have k3 := h3
  have lt3 : ∀ x ∈ p3, x.block < W.heap.size := by obtain ⟨m, hm⟩ := k3; exact DataW.trod_lt m _ _ _ hm
  obtain ⟨s3, a3, b3, rfl, wa3, wb3⟩ := open_lspan (hval 3 23 v3 rfl rfl) h3
  clear hA0 hval0
  refine (FnExactRelSure_walk a0 wa0 a1 wa1 s2 a2 b2 wa2 wb2 s3 a3 b3 wa3 wb3 W ).mono fun e W' ⟨he, bel⟩ => ?_
  subst he
  exact ⟨_, rfl, _, _, _, [], _, [], hW', trodAll_mk1 (shut_bool Try.underlying4 _), (trodAll_cons_mk (Below.trod jf1 (by kernel_rfl) (of_decide_eq_true (by kernel_rfl)) k0 bel lt0) (trodAll_cons_mk (Below.trod jf1 (by kernel_rfl) (of_decide_eq_true (by kernel_rfl)) k1 bel lt1) (trodAll_cons_mk (Below.trod jf1 (by kernel_rfl) (of_decide_eq_true (by kernel_rfl)) k2 bel lt2) (trodAll_cons_mk (Below.trod jf1 (by kernel_rfl) (of_decide_eq_true (by kernel_rfl)) k3 bel lt3) trodAll_mk0)))), rfl, bel.frame _, fun h => by cases h⟩

theorem FnExactRelSure_k0 : (Rows.fnExactRelSureRow.wf (OpenSpec.ofChange Rows.fnExactRelSureSpec)) = true := by kernel_rfl
theorem FnExactRelSure_k3 : (Try.f3.params.all (Try.prog.readableRec ·)) = true := by kernel_rfl
theorem FnExactRelSure_k4 : (namedTie Try.prog Rows.fnExactRelSureRow.named Rows.fnExactRelSureSpec.vars) = true := by kernel_rfl
theorem FnExactRelSure_k5 : ((Rows.fnExactRelSureRow.stops == [])) = true := by kernel_rfl
theorem FnExactRelSure_k7 : ((Rows.fnExactRelSureRow.knobs == [])) = true := by kernel_rfl
theorem FnExactRelSure_k9 : ((Rows.fnExactRelSureRow.inPlace == Try.prog.inPlace 3)) = true := by kernel_rfl
theorem FnExactRelSure_k10 : ((Rows.fnExactRelSureRow.unfollowed == Try.prog.unfollowed 3)) = true := by kernel_rfl
theorem FnExactRelSure_k11 : ((Rows.fnExactRelSureRow.recurses == Try.prog.recurses 3)) = true := by kernel_rfl
theorem FnExactRelSure_k12 : ((Rows.fnExactRelSureRow.named == Try.prog.varsNamed 3)) = true := by kernel_rfl
theorem FnExactRelSure_k13 : ((Rows.fnExactRelSureRow.maps == (Try.f3.params.toList ++ Rows.fnExactRelSureSpec.plain.varTypes Try.prog).any (Try.prog.mapsRec ·))) = true := by kernel_rfl
theorem FnExactRelSure_k14 : ((Rows.fnExactRelSureRow.ifaces == (Try.f3.params.toList ++ Rows.fnExactRelSureSpec.plain.varTypes Try.prog).any (Try.prog.ifacesRec ·))) = true := by kernel_rfl
theorem FnExactRelSure_k15 : ((Rows.fnExactRelSureRow.mapsOut == Try.prog.mapsAmong Try.f3.resultTypes.toList)) = true := by kernel_rfl
theorem FnExactRelSure_k16 : ((Rows.fnExactRelSureRow.loops == (Try.f3.params.toList ++ Rows.fnExactRelSureSpec.plain.varTypes Try.prog).any (Try.prog.loopsFrom ·))) = true := by kernel_rfl
theorem FnExactRelSure_k17 : ((Rows.fnExactRelSureRow.wideKeys == (Try.f3.params.toList ++ Rows.fnExactRelSureSpec.plain.varTypes Try.prog ++ Try.f3.resultTypes.toList).any (Try.prog.wideKeysFrom ·))) = true := by kernel_rfl
theorem FnExactRelSure_k18 : (Rows.fnExactRelSureSpec.vars.all (Try.prog.varReadable ·)) = true := by kernel_rfl
theorem FnExactRelSure_k19 : (Try.f3.resultTypes.all (fun t => Try.prog.readableRec t && decide (t < Try.prog.types.size))) = true := by kernel_rfl
theorem FnExactRelSure_k20 : ((Rows.fnExactRelSureRow.ifacesOut == Try.f3.resultTypes.toList.any (Try.prog.ifacesRec ·))) = true := by kernel_rfl
theorem FnExactRelSure_k21 : ((Rows.fnExactRelSureRow.loopsOut == Try.f3.resultTypes.toList.any (Try.prog.loopsFrom ·))) = true := by kernel_rfl
theorem FnExactRelSure_k23 : (Rows.fnExactRelSureRow.shortTexts.isNone) = true := by kernel_rfl
theorem FnExactRelSure_k28 : ((Rows.fnExactRelSureRow.kinds == (if Rows.fnExactRelSureRow.domain.isEmpty then [] else Try.f3.params.toList.map fun t => match Try.prog.underlying t with | some (.int k) => some k | _ => none))) = true := by kernel_rfl
theorem FnExactRelSure_k29 : ((Rows.fnExactRelSureRow.pinned == Rows.fnExactRelSureRow.pinnedBy)) = true := by kernel_rfl
theorem FnExactRelSure_k30 : ((Rows.fnExactRelSureRow.veiled == (Try.f3.params.toList ++ Rows.fnExactRelSureSpec.plain.varTypes Try.prog ++ Try.f3.resultTypes.toList).any (Try.prog.veiledRec ·))) = true := by kernel_rfl
theorem FnExactRelSure_k31 : (Rows.fnExactRelSureRow.veiledFits Try.prog Try.f3.params.toList (Try.f3.params.toList ++ Rows.fnExactRelSureSpec.plain.varTypes Try.prog ++ Try.f3.resultTypes.toList)) = true := by kernel_rfl
set_option maxRecDepth 100000 in
theorem FnExactRelSure_closed : joinedFacts Try.prog 3 Try.f3 Rows.fnExactRelSureSpec Rows.fnExactRelSureRow = true := (and2 (and2 (and2 (and2 (and2 (and2 (and2 (and2 (and2 (and2 (and2 (and2 (and2 (and2 (and2 (and2 (and2 (and2 (and2 (and2 (and2 (and2 (and2 (and2 (and2 (and2 (and2 (and2 (and2 (and2 (and2 FnExactRelSure_k0 jf1) jf2) FnExactRelSure_k3) FnExactRelSure_k4) FnExactRelSure_k5) jf6) FnExactRelSure_k7) jf8) FnExactRelSure_k9) FnExactRelSure_k10) FnExactRelSure_k11) FnExactRelSure_k12) FnExactRelSure_k13) FnExactRelSure_k14) FnExactRelSure_k15) FnExactRelSure_k16) FnExactRelSure_k17) FnExactRelSure_k18) FnExactRelSure_k19) FnExactRelSure_k20) FnExactRelSure_k21) jf22) FnExactRelSure_k23) jf24) jf25) jf26) jf27) FnExactRelSure_k28) FnExactRelSure_k29) FnExactRelSure_k30) FnExactRelSure_k31)
theorem FnExactRelSure_over : Rows.fnExactRelSureRow.holds Try.pinned (OpenSpec.ofChange Rows.fnExactRelSureSpec) :=
  OpenClaim.holds_of_wide 3 Try.f3 rfl rfl rfl rfl rfl rfl rfl ⟨rfl, rfl, rfl, rfl, rfl⟩ rfl rfl rfl rfl rfl (by kernel_rfl) Try.func3 FnExactRelSure_closed
    (of_decide_eq_true (by kernel_rfl)) (by unfold Func.isWrapper; first | (rw [if_pos (by decide +kernel)]; kernel_rfl) | (rw [if_neg (by decide +kernel)]; exact ⟨rfl, rfl⟩))
    (fun os started H enc _ => FnExactRelSure_lifted os started H enc)

theorem FnExactRelSure_proved : Rows.FnExactRelSureSaid := FnExactRelSure_over
end Go.Proofs.Ytpjagplloljefaa
