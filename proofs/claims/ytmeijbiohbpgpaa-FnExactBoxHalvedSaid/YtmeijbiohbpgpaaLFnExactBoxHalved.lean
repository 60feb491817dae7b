/- The program's BoxHalved answers as the specification's BoxHalved at every argument; nothing that was there is written. No condition. -/
import Derived.Test.YtmeijbiohbpgpaaRows
import Derived.WalkKit
import Derived.ProofKit
import Derived.OpenShut
import Derived.Below
import Derived.Carry
import Derived.Test.YtmeijbiohbpgpaaO1
import Derived.Test.YtmeijbiohbpgpaaB4
import Derived.Test.YtmeijbiohbpgpaaCut
import Derived.Test.YtmeijbiohbpgpaaB10
import Derived.Test.YtmeijbiohbpgpaaJ0
import Derived.Test.YtmeijbiohbpgpaaJ1
import Derived.Test.YtmeijbiohbpgpaaJ4
import Derived.Test.YtmeijbiohbpgpaaJ5
import Derived.Test.YtmeijbiohbpgpaaJ6
namespace Go.Proofs.Ytmeijbiohbpgpaa
open Go.ChangeShapes Go.WideShapes Go.ChangeAt Go.RowKit
set_option linter.unusedVariables false

theorem FnExactBoxHalved_own : ownKnob Try.prog.godebug = none := by kernel_rfl

set_option maxRecDepth 100000 in
set_option maxHeartbeats 4000000 in
theorem FnExactBoxHalved_walk (a0 : Int) (wa0 : -9223372036854775808 ≤ a0 ∧ a0 ≤ 9223372036854775807) (a1 : Option Addr) (len1 cap1 : Nat) (ps1 : List (Int × Int)) (a2 : Option Addr) (len2 cap2 : Nat) (ps2 : List (Int × Int)) (w : World) (wb1 : InRow w a1 len1 cap1 ps1) (wb2 : InRow w a2 len2 cap2 ps2):
    Calls Try.prog 8 #[.int .i64 a0, .agg #[.slice a1 len1 cap1], .agg #[.slice a2 len2 cap2]] w fun e w' => e = .returned (.bool true) ∧ Below w.heap.size w w' := by
  obtain rfl := wb1.1
  have hlen1 : ps1.length ≤ maxLen := Nat.le_trans wb1.2.1 wb1.2.2.1
  obtain rfl := wb2.1
  have hlen2 : ps2.length ≤ maxLen := Nat.le_trans wb2.2.1 wb2.2.2.1
  have SZ := hd (lSzBox a1 ps1.length cap1 1048576 hlen1 (by omega) (by omega))
  by_cases c : (ps1.length : Int) ≤ 1048576
  case neg =>
    rw [if_neg c] at SZ
    go_enter Try.func8, Try.ntmps8
    go_wp2_with (go_at_call 15; refine (SZ.out _).mono ?_; rintro e w1 ⟨rfl, hb1⟩)
    go_ret
    exact ⟨rfl, (by repeat (first | exact Below.refl _ _ | refine Below.drew ?_ | refine old_alloc ?_ _ | refine old_trans ?_ (by assumption)))⟩
  rw [if_pos c] at SZ
  have hl1 : ps1.length ≤ 1048576 := by omega
  have c1 : ¬ (1048576 - (ps1.length : Int) < 0) := by omega
  have SY := hd (lSzBox a2 ps2.length cap2 (1048576 - (ps1.length : Int)) hlen2 (by omega) (by omega))
  have K : Cel1 ((w.alloc (.cells #[.slice a1 ps1.length cap1] 24)).alloc (.cells #[.slice a2 ps2.length cap2] 24)) w.heap.size (.slice a1 ps1.length cap1) := (Cel1.made w _ rfl _ _).alloc _
  have M : Cel1 ((w.alloc (.cells #[.slice a1 ps1.length cap1] 24)).alloc (.cells #[.slice a2 ps2.length cap2] 24)) (w.heap.size + 1) (.slice a2 ps2.length cap2) := Cel1.made _ _ (by simp) _ _
  have R := (wb1.alloc (.cells #[.slice a1 ps1.length cap1] 24)).alloc (.cells #[.slice a2 ps2.length cap2] 24)
  have T := (wb2.alloc (.cells #[.slice a1 ps1.length cap1] 24)).alloc (.cells #[.slice a2 ps2.length cap2] 24)
  clear c
  by_cases c : (ps2.length : Int) ≤ 1048576 - (ps1.length : Int)
  case neg =>
    rw [if_neg c] at SY
    go_enter Try.func8, Try.ntmps8
    go_wp2_with fail
    refine (SZ.out _).mono ?_
    rintro e w1 ⟨rfl, hb1⟩
    replace M := M.later hb1
    have M0 := M.1
    have M2 := M.2.2
    go_wp2_with (go_at_call 15; refine (SY.out _).mono ?_; rintro e w2 ⟨rfl, hb2⟩)
    go_ret
    exact ⟨rfl, (by repeat (first | exact Below.refl _ _ | refine Below.drew ?_ | refine old_alloc ?_ _ | refine old_trans ?_ (by assumption)))⟩
  rw [if_pos c] at SY
  have hl2 : ps2.length ≤ 1048576 := by omega
  have c2 : ¬ (1048576 - (ps1.length : Int) - (ps2.length : Int) < 0) := by omega
  clear c
  have S := hd (fun a a' len len' cap cap' w (h : InRow w a len cap ps1) (h' : InRow w a' len' cap' ps2) => sBoxHalved a0 a a' len len' cap cap' ps1 ps2 w h h')
  have I := hd (fun a a' len len' cap cap' w (h : InRow w a len cap ps1) (h' : InRow w a' len' cap' ps2) => iBoxHalved a0 a a' len len' cap cap' ps1 ps2 w h h')
  generalize halvRow a0 ps1 ps2 = r at *
  go_enter Try.func8, Try.ntmps8
  go_wp2_with fail
  refine (SZ.out _).mono ?_
  rintro e w1 ⟨rfl, hb1⟩
  replace K := (by with_reducible first | exact K.later hb1 | exact (K.alloc _).later hb1 | exact K.drew.later hb1 : Cel1 w1 _ _)
  replace M := (by with_reducible first | exact M.later hb1 | exact (M.alloc _).later hb1 | exact M.drew.later hb1 : Cel1 w1 _ _)
  replace R := (by with_reducible first | exact R.old hb1 | exact (R.alloc _).old hb1 | exact R.drew.old hb1 : InRow w1 _ _ _ _)
  replace T := (by with_reducible first | exact T.old hb1 | exact (T.alloc _).old hb1 | exact T.drew.old hb1 : InRow w1 _ _ _ _)
  have K0 := K.1
  have K2 := K.2.2
  have M0 := M.1
  have M2 := M.2.2
  go_wp2_with fail
  refine (SY.out _).mono ?_
  rintro e w2 ⟨rfl, hb2⟩
  clear K0 K2 M0 M2
  replace K := (by with_reducible first | exact K.later hb2 | exact (K.alloc _).later hb2 | exact K.drew.later hb2 : Cel1 w2 _ _)
  replace M := (by with_reducible first | exact M.later hb2 | exact (M.alloc _).later hb2 | exact M.drew.later hb2 : Cel1 w2 _ _)
  replace R := (by with_reducible first | exact R.old hb2 | exact (R.alloc _).old hb2 | exact R.drew.old hb2 : InRow w2 _ _ _ _)
  replace T := (by with_reducible first | exact T.old hb2 | exact (T.alloc _).old hb2 | exact T.drew.old hb2 : InRow w2 _ _ _ _)
  have K0 := K.1
  have K2 := K.2.2
  have M0 := M.1
  have M2 := M.2.2
  have hb0 : Below w.heap.size w w2 := (by repeat (first | exact Below.refl _ _ | refine Below.drew ?_ | refine old_alloc ?_ _ | refine old_trans ?_ (by assumption)))
  go_upto_region 8 with fail
  go_cut [8] (fun s wx => s = .bool r ∧ Cel1 wx w.heap.size (.slice a1 ps1.length cap1) ∧ Cel1 wx (w.heap.size + 1) (.slice a2 ps2.length cap2) ∧ InRow wx a1 ps1.length cap1 ps1 ∧ InRow wx a2 ps2.length cap2 ps2 ∧ Below w.heap.size w wx)
  case first =>
    go_wp2_with fail
    go_region_with (first | (go_at_call_of 17 (Value.agg #[.slice a1 ps1.length cap1]); refine (toBoxI a1 cap1 ps1 _ (by with_reducible first | exact R | exact R.alloc _ | exact R.drew) hl1).mono ?_; rintro e wx ⟨⟨bi, rfl, -, Ri⟩, hbx⟩; have K := (by with_reducible first | exact K.later hbx | exact (K.alloc _).later hbx | exact K.drew.later hbx : Cel1 wx _ _); have K0 := K.1; have K2 := K.2.2; have M := (by with_reducible first | exact M.later hbx | exact (M.alloc _).later hbx | exact M.drew.later hbx : Cel1 wx _ _); have M0 := M.1; have M2 := M.2.2; have R := (by with_reducible first | exact R.old hbx | exact (R.alloc _).old hbx | exact R.drew.old hbx : InRow wx _ _ _ _); have T := (by with_reducible first | exact T.old hbx | exact (T.alloc _).old hbx | exact T.drew.old hbx : InRow wx _ _ _ _); (first | (have Rj := (by with_reducible first | exact Rj.old hbx | exact (Rj.alloc _).old hbx | exact Rj.drew.old hbx : InRow wx _ _ _ _)) | skip)) | (go_at_call_of 17 (Value.agg #[.slice a2 ps2.length cap2]); refine (toBoxI a2 cap2 ps2 _ (by with_reducible first | exact T | exact T.alloc _ | exact T.drew) hl2).mono ?_; rintro e wx ⟨⟨bj, rfl, -, Rj⟩, hbx⟩; have K := (by with_reducible first | exact K.later hbx | exact (K.alloc _).later hbx | exact K.drew.later hbx : Cel1 wx _ _); have K0 := K.1; have K2 := K.2.2; have M := (by with_reducible first | exact M.later hbx | exact (M.alloc _).later hbx | exact M.drew.later hbx : Cel1 wx _ _); have M0 := M.1; have M2 := M.2.2; have R := (by with_reducible first | exact R.old hbx | exact (R.alloc _).old hbx | exact R.drew.old hbx : InRow wx _ _ _ _); have T := (by with_reducible first | exact T.old hbx | exact (T.alloc _).old hbx | exact T.drew.old hbx : InRow wx _ _ _ _); (first | (have Ri := (by with_reducible first | exact Ri.old hbx | exact (Ri.alloc _).old hbx | exact Ri.drew.old hbx : InRow wx _ _ _ _)) | skip)) | (go_at_call 30; refine (S.out _ _ _ _ _ _ _ (by with_reducible first | exact Ri | exact Ri.alloc _ | exact Ri.drew) (by with_reducible first | exact Rj | exact Rj.alloc _ | exact Rj.drew)).mono ?_; rintro e wx ⟨rfl, hbx⟩))
    all_goals
      go_wp2_with fail
      go_meet
      exact ⟨rfl, K.later (by repeat (first | exact Below.refl _ _ | refine Below.drew ?_ | refine old_alloc ?_ _ | refine old_trans ?_ (by assumption))), M.later (by repeat (first | exact Below.refl _ _ | refine Below.drew ?_ | refine old_alloc ?_ _ | refine old_trans ?_ (by assumption))), R.old (by repeat (first | exact Below.refl _ _ | refine Below.drew ?_ | refine old_alloc ?_ _ | refine old_trans ?_ (by assumption))), T.old (by repeat (first | exact Below.refl _ _ | refine Below.drew ?_ | refine old_alloc ?_ _ | refine old_trans ?_ (by assumption))), (by repeat (first | exact hb0 | refine Below.drew ?_ | refine old_trans ?_ (by assumption)))⟩
  case rest =>
    clear K M R T K0 M0 K2 M2 hb0
    obtain ⟨rfl, K, M, R, T, hb0⟩ := hcut
    have K0 := K.1
    have M0 := M.1
    have K2 := K.2.2
    have M2 := M.2.2
    go_wp2_with fail
    refine (toBoxI a1 cap1 ps1 _ (by with_reducible first | exact R | exact R.alloc _ | exact R.drew) hl1).mono ?_
    rintro e w21 ⟨⟨bRx, rfl, -, Rx⟩, hb21⟩
    clear K0 K2 M0 M2
    replace K := (by with_reducible first | exact K.later hb21 | exact (K.alloc _).later hb21 | exact K.drew.later hb21 : Cel1 w21 _ _)
    replace M := (by with_reducible first | exact M.later hb21 | exact (M.alloc _).later hb21 | exact M.drew.later hb21 : Cel1 w21 _ _)
    replace R := (by with_reducible first | exact R.old hb21 | exact (R.alloc _).old hb21 | exact R.drew.old hb21 : InRow w21 _ _ _ _)
    replace T := (by with_reducible first | exact T.old hb21 | exact (T.alloc _).old hb21 | exact T.drew.old hb21 : InRow w21 _ _ _ _)
    have K0 := K.1
    have K2 := K.2.2
    have M0 := M.1
    have M2 := M.2.2
    go_wp2_with fail
    refine (toBoxI a2 cap2 ps2 _ (by with_reducible first | exact T | exact T.alloc _ | exact T.drew) hl2).mono ?_
    rintro e w22 ⟨⟨bRy, rfl, -, Ry⟩, hb22⟩
    clear K0 K2 M0 M2
    replace K := (by with_reducible first | exact K.later hb22 | exact (K.alloc _).later hb22 | exact K.drew.later hb22 : Cel1 w22 _ _)
    replace M := (by with_reducible first | exact M.later hb22 | exact (M.alloc _).later hb22 | exact M.drew.later hb22 : Cel1 w22 _ _)
    have X := (Cel1.made _ _ rfl (.slice (some ⟨bRx, 0, none⟩) ps1.length ps1.length) 29).later hb22
    replace R := (by with_reducible first | exact R.old hb22 | exact (R.alloc _).old hb22 | exact R.drew.old hb22 : InRow w22 _ _ _ _)
    replace T := (by with_reducible first | exact T.old hb22 | exact (T.alloc _).old hb22 | exact T.drew.old hb22 : InRow w22 _ _ _ _)
    replace Rx := (by with_reducible first | exact Rx.old hb22 | exact (Rx.alloc _).old hb22 | exact Rx.drew.old hb22 : InRow w22 _ _ _ _)
    have K0 := K.1
    have K2 := K.2.2
    have M0 := M.1
    have M2 := M.2.2
    have X0 := X.1
    have X2 := X.2.2
    go_wp2_with fail
    refine (I.out _ _ _ _ _ _ _ (by with_reducible first | exact Rx | exact Rx.alloc _ | exact Rx.drew) (by with_reducible first | exact Ry | exact Ry.alloc _ | exact Ry.drew)).mono ?_
    rintro e w23 ⟨rfl, hb23⟩
    clear K0 K2 M0 M2 X0 X2
    replace K := (by with_reducible first | exact K.later hb23 | exact (K.alloc _).later hb23 | exact K.drew.later hb23 : Cel1 w23 _ _)
    replace M := (by with_reducible first | exact M.later hb23 | exact (M.alloc _).later hb23 | exact M.drew.later hb23 : Cel1 w23 _ _)
    replace X := (by with_reducible first | exact X.later hb23 | exact (X.alloc _).later hb23 | exact X.drew.later hb23 : Cel1 w23 _ _)
    have Y := (Cel1.made _ _ rfl (.slice (some ⟨bRy, 0, none⟩) ps2.length ps2.length) 29).later hb23
    replace R := (by with_reducible first | exact R.old hb23 | exact (R.alloc _).old hb23 | exact R.drew.old hb23 : InRow w23 _ _ _ _)
    replace T := (by with_reducible first | exact T.old hb23 | exact (T.alloc _).old hb23 | exact T.drew.old hb23 : InRow w23 _ _ _ _)
    replace Rx := (by with_reducible first | exact Rx.old hb23 | exact (Rx.alloc _).old hb23 | exact Rx.drew.old hb23 : InRow w23 _ _ _ _)
    replace Ry := (by with_reducible first | exact Ry.old hb23 | exact (Ry.alloc _).old hb23 | exact Ry.drew.old hb23 : InRow w23 _ _ _ _)
    have K0 := K.1
    have K2 := K.2.2
    have M0 := M.1
    have M2 := M.2.2
    have X0 := X.1
    have X2 := X.2.2
    have Y0 := Y.1
    have Y2 := Y.2.2
    go_wp2_with fail
    go_region_with (first | (go_at_call 17; refine (toBoxI a1 cap1 ps1 _ (by with_reducible first | exact R | exact R.alloc _ | exact R.drew) hl1).mono ?_; rintro e wx ⟨⟨bz, rfl, -, Rz⟩, hbx⟩; have K := (by with_reducible first | exact K.later hbx | exact (K.alloc _).later hbx | exact K.drew.later hbx : Cel1 wx _ _); have K0 := K.1; have K2 := K.2.2; have M := (by with_reducible first | exact M.later hbx | exact (M.alloc _).later hbx | exact M.drew.later hbx : Cel1 wx _ _); have M0 := M.1; have M2 := M.2.2; have X := (by with_reducible first | exact X.later hbx | exact (X.alloc _).later hbx | exact X.drew.later hbx : Cel1 wx _ _); have X0 := X.1; have X2 := X.2.2; have Y := (by with_reducible first | exact Y.later hbx | exact (Y.alloc _).later hbx | exact Y.drew.later hbx : Cel1 wx _ _); have Y0 := Y.1; have Y2 := Y.2.2; have Rx := (by with_reducible first | exact Rx.old hbx | exact (Rx.alloc _).old hbx | exact Rx.drew.old hbx : InRow wx _ _ _ _); have T := (by with_reducible first | exact T.old hbx | exact (T.alloc _).old hbx | exact T.drew.old hbx : InRow wx _ _ _ _); have Ry := (by with_reducible first | exact Ry.old hbx | exact (Ry.alloc _).old hbx | exact Ry.drew.old hbx : InRow wx _ _ _ _)) | (go_at_call 19; refine (lEqBox _ _ _ _ _ ps1 _ (by with_reducible first | exact Rx | exact Rx.alloc _ | exact Rx.drew) (by with_reducible first | exact Rz | exact Rz.alloc _ | exact Rz.drew)).mono ?_; rintro e wy ⟨rfl, hby⟩; have K := (by with_reducible first | exact K.later hby | exact (K.alloc _).later hby | exact K.drew.later hby : Cel1 wy _ _); have K0 := K.1; have K2 := K.2.2; have M := (by with_reducible first | exact M.later hby | exact (M.alloc _).later hby | exact M.drew.later hby : Cel1 wy _ _); have M0 := M.1; have M2 := M.2.2; have X := (by with_reducible first | exact X.later hby | exact (X.alloc _).later hby | exact X.drew.later hby : Cel1 wy _ _); have X0 := X.1; have X2 := X.2.2; have Y := (by with_reducible first | exact Y.later hby | exact (Y.alloc _).later hby | exact Y.drew.later hby : Cel1 wy _ _); have Y0 := Y.1; have Y2 := Y.2.2; have T := (by with_reducible first | exact T.old hby | exact (T.alloc _).old hby | exact T.drew.old hby : InRow wy _ _ _ _); have Ry := (by with_reducible first | exact Ry.old hby | exact (Ry.alloc _).old hby | exact Ry.drew.old hby : InRow wy _ _ _ _)))
    all_goals
      go_wp2_with fail
      go_region_with (first | (go_at_call 17; refine (toBoxI a2 cap2 ps2 _ (by with_reducible first | exact T | exact T.alloc _ | exact T.drew) hl2).mono ?_; rintro e wx ⟨⟨bz, rfl, -, Rz⟩, hbx⟩; have M := (by with_reducible first | exact M.later hbx | exact (M.alloc _).later hbx | exact M.drew.later hbx : Cel1 wx _ _); have M0 := M.1; have M2 := M.2.2; have Y := (by with_reducible first | exact Y.later hbx | exact (Y.alloc _).later hbx | exact Y.drew.later hbx : Cel1 wx _ _); have Y0 := Y.1; have Y2 := Y.2.2; have Ry := (by with_reducible first | exact Ry.old hbx | exact (Ry.alloc _).old hbx | exact Ry.drew.old hbx : InRow wx _ _ _ _)) | (go_at_call 19; refine (lEqBox _ _ _ _ _ ps2 _ (by with_reducible first | exact Ry | exact Ry.alloc _ | exact Ry.drew) (by with_reducible first | exact Rz | exact Rz.alloc _ | exact Rz.drew)).mono ?_; rintro e wy ⟨rfl, hby⟩; have M := (by with_reducible first | exact M.later hby | exact (M.alloc _).later hby | exact M.drew.later hby : Cel1 wy _ _); have M0 := M.1; have M2 := M.2.2; have Y := (by with_reducible first | exact Y.later hby | exact (Y.alloc _).later hby | exact Y.drew.later hby : Cel1 wy _ _); have Y0 := Y.1; have Y2 := Y.2.2))
      all_goals
        go_wp2
        go_ret
        exact ⟨rfl, (by repeat (first | exact hb0 | refine Below.drew ?_ | refine old_alloc ?_ _ | refine old_trans ?_ (by assumption)))⟩

set_option maxRecDepth 100000 in
theorem FnExactBoxHalved_lifted (os : Os) (started : os.Started) (H : Type) (enc : TypeId × Value → H) :
    ReturnsInHanded {} Try.checked os 8 .any (Rows.fnExactBoxHalvedSpec.pre6 enc Try.prog Try.f8 Rows.fnExactBoxHalvedRow.domain false) (Rows.fnExactBoxHalvedSpec.post enc Try.prog Try.f8 false true false false) := by
  refine returnsInHanded_of_change (C := Try.checked) FnExactBoxHalved_own started (by kernel_rfl) Try.func8
    (ChangeSpec.witness6 (enc := enc) (C := Try.checked) false ⟨#[], #[.int .i64 0, .agg #[.slice none 0 0], .agg #[.slice none 0 0]], []⟩ 8 (by kernel_rfl) (by kernel_rfl) (by kernel_rfl) (by kernel_rfl)) ?_
  intro W base args ds gs before hval0 hW hcnd _
  have hval : ∀ (j : Nat) t v, Try.f8.params[j]? = some t → args[j]? = some v → Value.okWide Try.prog W .any base t v := hval0
  have hW' := hW
  obtain ⟨p, q, hA0, hV, rfl, hfz, hnd⟩ := hW
  have hA : DataW.TrodAll enc Try.prog W 0 (fun _ => true) true Try.f8.params.toList args.toList ds p := hA0
  rw [Try.params8] at hA hval
  obtain ⟨v0, vs0, d0, ds0, p0, q0, hargs, rfl, rfl, h0, r0⟩ := trodAll_cons hA
  obtain ⟨v1, vs1, d1, ds1, p1, q1, rfl, rfl, rfl, h1, r1⟩ := trodAll_cons r0
  obtain ⟨v2, vs2, d2, ds2, p2, q2, rfl, rfl, rfl, h2, r2⟩ := trodAll_cons r1
  obtain ⟨rfl, rfl, rfl⟩ := trodAll_nil r2
  obtain rfl : args = #[v0, v1, v2] := by cases args; simp_all
  obtain ⟨rfl, rfl⟩ := trodVars_none hV
  have k0 := h0
  have lt0 : ∀ x ∈ p0, x.block < W.heap.size := by obtain ⟨m, hm⟩ := k0; exact DataW.trod_lt m _ _ _ hm
  obtain ⟨a0, rfl, -, -, wf0⟩ := open_int Try.underlying3 (hval 0 3 v0 rfl rfl) h0
  have wa0 := bounds_i64 wf0
  have k1 := h1
  have lt1 : ∀ x ∈ p1, x.block < W.heap.size := by obtain ⟨m, hm⟩ := k1; exact DataW.trod_lt m _ _ _ hm
  obtain ⟨a1, len1, cap1, ps1, rfl, wb1⟩ := open_lbox (hval 1 24 v1 rfl rfl) h1
  have k2 := h2
  have lt2 : ∀ x ∈ p2, x.block < W.heap.size := by obtain ⟨m, hm⟩ := k2; exact DataW.trod_lt m _ _ _ hm
  obtain ⟨a2, len2, cap2, ps2, rfl, wb2⟩ := open_lbox (hval 2 24 v2 rfl rfl) h2
  clear hA0 hval0
  refine (FnExactBoxHalved_walk a0 wa0 a1 len1 cap1 ps1 a2 len2 cap2 ps2 W wb1 wb2).mono fun e W' ⟨he, bel⟩ => ?_
  subst he
  exact ⟨_, rfl, _, _, _, [], _, [], hW', trodAll_mk1 (shut_bool Try.underlying4 _), (trodAll_cons_mk (Below.trod jf1 (by kernel_rfl) (of_decide_eq_true (by kernel_rfl)) k0 bel lt0) (trodAll_cons_mk (Below.trod jf1 (by kernel_rfl) (of_decide_eq_true (by kernel_rfl)) k1 bel lt1) (trodAll_cons_mk (Below.trod jf1 (by kernel_rfl) (of_decide_eq_true (by kernel_rfl)) k2 bel lt2) trodAll_mk0))), rfl, bel.frame _, fun h => by cases h⟩

theorem FnExactBoxHalved_k0 : (Rows.fnExactBoxHalvedRow.wf (OpenSpec.ofChange Rows.fnExactBoxHalvedSpec)) = true := by kernel_rfl
theorem FnExactBoxHalved_k3 : (Try.f8.params.all (Try.prog.readableRec ·)) = true := by kernel_rfl
theorem FnExactBoxHalved_k4 : (namedTie Try.prog Rows.fnExactBoxHalvedRow.named Rows.fnExactBoxHalvedSpec.vars) = true := by kernel_rfl
theorem FnExactBoxHalved_k5 : ((Rows.fnExactBoxHalvedRow.stops == [])) = true := by kernel_rfl
theorem FnExactBoxHalved_k7 : ((Rows.fnExactBoxHalvedRow.knobs == [])) = true := by kernel_rfl
theorem FnExactBoxHalved_k9 : ((Rows.fnExactBoxHalvedRow.inPlace == Try.prog.inPlace 8)) = true := by kernel_rfl
theorem FnExactBoxHalved_k10 : ((Rows.fnExactBoxHalvedRow.unfollowed == Try.prog.unfollowed 8)) = true := by kernel_rfl
theorem FnExactBoxHalved_k11 : ((Rows.fnExactBoxHalvedRow.recurses == Try.prog.recurses 8)) = true := by kernel_rfl
theorem FnExactBoxHalved_k12 : ((Rows.fnExactBoxHalvedRow.named == Try.prog.varsNamed 8)) = true := by kernel_rfl
theorem FnExactBoxHalved_k13 : ((Rows.fnExactBoxHalvedRow.maps == (Try.f8.params.toList ++ Rows.fnExactBoxHalvedSpec.plain.varTypes Try.prog).any (Try.prog.mapsRec ·))) = true := by kernel_rfl
theorem FnExactBoxHalved_k14 : ((Rows.fnExactBoxHalvedRow.ifaces == (Try.f8.params.toList ++ Rows.fnExactBoxHalvedSpec.plain.varTypes Try.prog).any (Try.prog.ifacesRec ·))) = true := by kernel_rfl
theorem FnExactBoxHalved_k15 : ((Rows.fnExactBoxHalvedRow.mapsOut == Try.prog.mapsAmong Try.f8.resultTypes.toList)) = true := by kernel_rfl
theorem FnExactBoxHalved_k16 : ((Rows.fnExactBoxHalvedRow.loops == (Try.f8.params.toList ++ Rows.fnExactBoxHalvedSpec.plain.varTypes Try.prog).any (Try.prog.loopsFrom ·))) = true := by kernel_rfl
theorem FnExactBoxHalved_k17 : ((Rows.fnExactBoxHalvedRow.wideKeys == (Try.f8.params.toList ++ Rows.fnExactBoxHalvedSpec.plain.varTypes Try.prog ++ Try.f8.resultTypes.toList).any (Try.prog.wideKeysFrom ·))) = true := by kernel_rfl
theorem FnExactBoxHalved_k18 : (Rows.fnExactBoxHalvedSpec.vars.all (Try.prog.varReadable ·)) = true := by kernel_rfl
theorem FnExactBoxHalved_k19 : (Try.f8.resultTypes.all (fun t => Try.prog.readableRec t && decide (t < Try.prog.types.size))) = true := by kernel_rfl
theorem FnExactBoxHalved_k20 : ((Rows.fnExactBoxHalvedRow.ifacesOut == Try.f8.resultTypes.toList.any (Try.prog.ifacesRec ·))) = true := by kernel_rfl
theorem FnExactBoxHalved_k21 : ((Rows.fnExactBoxHalvedRow.loopsOut == Try.f8.resultTypes.toList.any (Try.prog.loopsFrom ·))) = true := by kernel_rfl
theorem FnExactBoxHalved_k23 : (Rows.fnExactBoxHalvedRow.shortTexts.isNone) = true := by kernel_rfl
theorem FnExactBoxHalved_k28 : ((Rows.fnExactBoxHalvedRow.kinds == (if Rows.fnExactBoxHalvedRow.domain.isEmpty then [] else Try.f8.params.toList.map fun t => match Try.prog.underlying t with | some (.int k) => some k | _ => none))) = true := by kernel_rfl
theorem FnExactBoxHalved_k29 : ((Rows.fnExactBoxHalvedRow.pinned == Rows.fnExactBoxHalvedRow.pinnedBy)) = true := by kernel_rfl
theorem FnExactBoxHalved_k30 : ((Rows.fnExactBoxHalvedRow.veiled == (Try.f8.params.toList ++ Rows.fnExactBoxHalvedSpec.plain.varTypes Try.prog ++ Try.f8.resultTypes.toList).any (Try.prog.veiledRec ·))) = true := by kernel_rfl
theorem FnExactBoxHalved_k31 : (Rows.fnExactBoxHalvedRow.veiledFits Try.prog Try.f8.params.toList (Try.f8.params.toList ++ Rows.fnExactBoxHalvedSpec.plain.varTypes Try.prog ++ Try.f8.resultTypes.toList)) = true := by kernel_rfl
set_option maxRecDepth 100000 in
theorem FnExactBoxHalved_closed : joinedFacts Try.prog 8 Try.f8 Rows.fnExactBoxHalvedSpec Rows.fnExactBoxHalvedRow = true := (and2 (and2 (and2 (and2 (and2 (and2 (and2 (and2 (and2 (and2 (and2 (and2 (and2 (and2 (and2 (and2 (and2 (and2 (and2 (and2 (and2 (and2 (and2 (and2 (and2 (and2 (and2 (and2 (and2 (and2 (and2 FnExactBoxHalved_k0 jf1) jf2) FnExactBoxHalved_k3) FnExactBoxHalved_k4) FnExactBoxHalved_k5) jf6) FnExactBoxHalved_k7) jf8) FnExactBoxHalved_k9) FnExactBoxHalved_k10) FnExactBoxHalved_k11) FnExactBoxHalved_k12) FnExactBoxHalved_k13) FnExactBoxHalved_k14) FnExactBoxHalved_k15) FnExactBoxHalved_k16) FnExactBoxHalved_k17) FnExactBoxHalved_k18) FnExactBoxHalved_k19) FnExactBoxHalved_k20) FnExactBoxHalved_k21) jf22) FnExactBoxHalved_k23) jf24) jf25) jf26) jf27) FnExactBoxHalved_k28) FnExactBoxHalved_k29) FnExactBoxHalved_k30) FnExactBoxHalved_k31)
theorem FnExactBoxHalved_over : Rows.fnExactBoxHalvedRow.holds Try.pinned (OpenSpec.ofChange Rows.fnExactBoxHalvedSpec) :=
  OpenClaim.holds_of_wide 8 Try.f8 rfl rfl rfl rfl rfl rfl rfl ⟨rfl, rfl, rfl, rfl, rfl⟩ rfl rfl rfl rfl rfl (by kernel_rfl) Try.func8 FnExactBoxHalved_closed
    (of_decide_eq_true (by kernel_rfl)) (by unfold Func.isWrapper; first | (rw [if_pos (by decide +kernel)]; kernel_rfl) | (rw [if_neg (by decide +kernel)]; exact ⟨rfl, rfl⟩))
    (fun os started H enc _ => FnExactBoxHalved_lifted os started H enc)

theorem FnExactBoxHalved_proved : Rows.FnExactBoxHalvedSaid := FnExactBoxHalved_over
end Go.Proofs.Ytmeijbiohbpgpaa
