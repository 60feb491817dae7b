/- The program's BoxUnits answers as the specification's BoxUnits at every argument; nothing that was there is written. No condition. -/
import Derived.Test.YtmeijbiohbpgpaaRows
import Derived.WalkKit
import Derived.ProofKit
import Derived.OpenShut
import Derived.Below
import Derived.Carry
import Derived.Test.YtmeijbiohbpgpaaO1
import Derived.Test.YtmeijbiohbpgpaaB4
import Derived.Test.YtmeijbiohbpgpaaB8
import Derived.Test.YtmeijbiohbpgpaaJ0
import Derived.Test.YtmeijbiohbpgpaaJ1
import Derived.Test.YtmeijbiohbpgpaaJ4
import Derived.Test.YtmeijbiohbpgpaaJ5
import Derived.Test.YtmeijbiohbpgpaaJ6
namespace Go.Proofs.Ytmeijbiohbpgpaa
open Go.ChangeShapes Go.WideShapes Go.ChangeAt Go.RowKit
set_option linter.unusedVariables false

theorem FnExactBoxUnits_own : ownKnob Try.prog.godebug = none := by kernel_rfl

set_option maxRecDepth 100000 in
set_option maxHeartbeats 4000000 in
theorem FnExactBoxUnits_walk (a0 : Int) (wa0 : -9223372036854775808 ≤ a0 ∧ a0 ≤ 9223372036854775807) (a1 : Option Addr) (len1 cap1 : Nat) (ps1 : List (Int × Int)) (w : World) (wb1 : InRow w a1 len1 cap1 ps1):
    Calls Try.prog 11 #[.int .i64 a0, .agg #[.slice a1 len1 cap1]] w fun e w' => e = .returned (.bool true) ∧ Below w.heap.size w w' := by
  obtain rfl := wb1.1
  have hlen1 : ps1.length ≤ maxLen := Nat.le_trans wb1.2.1 wb1.2.2.1
  have SZ := hd (lSzBox a1 ps1.length cap1 1048576 hlen1 (by omega) (by omega))
  by_cases c : (ps1.length : Int) ≤ 1048576
  case neg =>
    rw [if_neg c] at SZ
    go_enter Try.func11, Try.ntmps11
    go_wp2_with (go_at_call 15; refine (SZ.out _).mono ?_; rintro e w1 ⟨rfl, hb1⟩)
    go_ret
    exact ⟨rfl, (by repeat (first | exact Below.refl _ _ | refine Below.drew ?_ | refine old_alloc ?_ _ | refine old_trans ?_ (by assumption)))⟩
  rw [if_pos c] at SZ
  have hl1 : ps1.length ≤ 1048576 := by omega
  have S := hd (fun a len cap w (h : InRow w a len cap ps1) => sBoxUnits a0 a len cap ps1 w h)
  have I := hd (fun a len cap w (h : InRow w a len cap ps1) => iBoxUnits a0 a len cap ps1 w h)
  generalize unitsRow a0 ps1 = r at *
  have K : Cel1 (w.alloc (.cells #[.slice a1 ps1.length cap1] 24)) w.heap.size (.slice a1 ps1.length cap1) := Cel1.made w _ rfl _ _
  have R := wb1.alloc (.cells #[.slice a1 ps1.length cap1] 24)
  have c' : ¬ (1048576 - (ps1.length : Int) < 0) := by omega
  clear c
  go_enter Try.func11, Try.ntmps11
  go_wp2_with fail
  refine (SZ.out _).mono ?_
  rintro e w1 ⟨rfl, hb1⟩
  replace K := (by with_reducible first | exact K.later hb1 | exact (K.alloc _).later hb1 | exact K.drew.later hb1 : Cel1 w1 _ _)
  replace R := (by with_reducible first | exact R.old hb1 | exact (R.alloc _).old hb1 | exact R.drew.old hb1 : InRow w1 _ _ _ _)
  have K0 := K.1
  have K2 := K.2.2
  go_wp2_with fail
  refine (toBoxI a1 cap1 ps1 _ (by with_reducible first | exact R | exact R.alloc _ | exact R.drew) hl1).mono ?_
  rintro e w2 ⟨⟨bR2, rfl, -, R2⟩, hb2⟩
  clear K0 K2
  replace K := (by with_reducible first | exact K.later hb2 | exact (K.alloc _).later hb2 | exact K.drew.later hb2 : Cel1 w2 _ _)
  replace R := (by with_reducible first | exact R.old hb2 | exact (R.alloc _).old hb2 | exact R.drew.old hb2 : InRow w2 _ _ _ _)
  have K0 := K.1
  have K2 := K.2.2
  go_wp2_with fail
  refine (S.out _ _ _ _ (by with_reducible first | exact R2 | exact R2.alloc _ | exact R2.drew)).mono ?_
  rintro e w3 ⟨rfl, hb3⟩
  clear K0 K2
  replace K := (by with_reducible first | exact K.later hb3 | exact (K.alloc _).later hb3 | exact K.drew.later hb3 : Cel1 w3 _ _)
  replace R := (by with_reducible first | exact R.old hb3 | exact (R.alloc _).old hb3 | exact R.drew.old hb3 : InRow w3 _ _ _ _)
  clear R2
  have K0 := K.1
  have K2 := K.2.2
  go_wp2_with fail
  refine (toBoxI a1 cap1 ps1 _ (by with_reducible first | exact R | exact R.alloc _ | exact R.drew) hl1).mono ?_
  rintro e w4 ⟨⟨bR4, rfl, -, R4⟩, hb4⟩
  clear K0 K2
  replace K := (by with_reducible first | exact K.later hb4 | exact (K.alloc _).later hb4 | exact K.drew.later hb4 : Cel1 w4 _ _)
  replace R := (by with_reducible first | exact R.old hb4 | exact (R.alloc _).old hb4 | exact R.drew.old hb4 : InRow w4 _ _ _ _)
  have K0 := K.1
  have K2 := K.2.2
  go_wp2_with fail
  refine (I.out _ _ _ _ (by with_reducible first | exact R4 | exact R4.alloc _ | exact R4.drew)).mono ?_
  rintro e w5 ⟨rfl, hb5⟩
  clear K0 K2
  replace K := (by with_reducible first | exact K.later hb5 | exact (K.alloc _).later hb5 | exact K.drew.later hb5 : Cel1 w5 _ _)
  have X := (Cel1.made _ _ rfl (.slice (some ⟨bR4, 0, none⟩) ps1.length ps1.length) 29).later hb5
  replace R := (by with_reducible first | exact R.old hb5 | exact (R.alloc _).old hb5 | exact R.drew.old hb5 : InRow w5 _ _ _ _)
  replace R4 := (by with_reducible first | exact R4.old hb5 | exact (R4.alloc _).old hb5 | exact R4.drew.old hb5 : InRow w5 _ _ _ _)
  have K0 := K.1
  have K2 := K.2.2
  have X0 := X.1
  have X2 := X.2.2
  go_wp2_with fail
  go_region_with (first | (go_at_call 17; refine (toBoxI a1 cap1 ps1 _ (by with_reducible first | exact R | exact R.alloc _ | exact R.drew) hl1).mono ?_; rintro e wx ⟨⟨bx, rfl, -, Rx⟩, hbx⟩; have K := (by with_reducible first | exact K.later hbx | exact (K.alloc _).later hbx | exact K.drew.later hbx : Cel1 wx _ _); have K0 := K.1; have K2 := K.2.2; have X := (by with_reducible first | exact X.later hbx | exact (X.alloc _).later hbx | exact X.drew.later hbx : Cel1 wx _ _); have X0 := X.1; have X2 := X.2.2; have R4 := (by with_reducible first | exact R4.old hbx | exact (R4.alloc _).old hbx | exact R4.drew.old hbx : InRow wx _ _ _ _)) | (go_at_call 19; refine (lEqBox _ _ _ _ _ ps1 _ (by with_reducible first | exact R4 | exact R4.alloc _ | exact R4.drew) (by with_reducible first | exact Rx | exact Rx.alloc _ | exact Rx.drew)).mono ?_; rintro e wy ⟨rfl, hby⟩))
  all_goals
    go_wp2
    go_ret
    exact ⟨rfl, (by repeat (first | exact Below.refl _ _ | refine Below.drew ?_ | refine old_alloc ?_ _ | refine old_trans ?_ (by assumption)))⟩

set_option maxRecDepth 100000 in
theorem FnExactBoxUnits_lifted (os : Os) (started : os.Started) (H : Type) (enc : TypeId × Value → H) :
    ReturnsInHanded {} Try.checked os 11 .any (Rows.fnExactBoxUnitsSpec.pre6 enc Try.prog Try.f11 Rows.fnExactBoxUnitsRow.domain false) (Rows.fnExactBoxUnitsSpec.post enc Try.prog Try.f11 false true false false) := by
  refine returnsInHanded_of_change (C := Try.checked) FnExactBoxUnits_own started (by kernel_rfl) Try.func11
    (ChangeSpec.witness6 (enc := enc) (C := Try.checked) false ⟨#[], #[.int .i64 0, .agg #[.slice none 0 0]], []⟩ 8 (by kernel_rfl) (by kernel_rfl) (by kernel_rfl) (by kernel_rfl)) ?_
  intro W base args ds gs before hval0 hW hcnd _
  have hval : ∀ (j : Nat) t v, Try.f11.params[j]? = some t → args[j]? = some v → Value.okWide Try.prog W .any base t v := hval0
  have hW' := hW
  obtain ⟨p, q, hA0, hV, rfl, hfz, hnd⟩ := hW
  have hA : DataW.TrodAll enc Try.prog W 0 (fun _ => true) true Try.f11.params.toList args.toList ds p := hA0
  rw [Try.params11] at hA hval
  obtain ⟨v0, vs0, d0, ds0, p0, q0, hargs, rfl, rfl, h0, r0⟩ := trodAll_cons hA
  obtain ⟨v1, vs1, d1, ds1, p1, q1, rfl, rfl, rfl, h1, r1⟩ := trodAll_cons r0
  obtain ⟨rfl, rfl, rfl⟩ := trodAll_nil r1
  obtain rfl : args = #[v0, v1] := by cases args; simp_all
  obtain ⟨rfl, rfl⟩ := trodVars_none hV
  have k0 := h0
  have lt0 : ∀ x ∈ p0, x.block < W.heap.size := by obtain ⟨m, hm⟩ := k0; exact DataW.trod_lt m _ _ _ hm
  obtain ⟨a0, rfl, -, -, wf0⟩ := open_int Try.underlying3 (hval 0 3 v0 rfl rfl) h0
  have wa0 := bounds_i64 wf0
  have k1 := h1
  have lt1 : ∀ x ∈ p1, x.block < W.heap.size := by obtain ⟨m, hm⟩ := k1; exact DataW.trod_lt m _ _ _ hm
  obtain ⟨a1, len1, cap1, ps1, rfl, wb1⟩ := open_lbox (hval 1 24 v1 rfl rfl) h1
  clear hA0 hval0
  refine (FnExactBoxUnits_walk a0 wa0 a1 len1 cap1 ps1 W wb1).mono fun e W' ⟨he, bel⟩ => ?_
  subst he
  exact ⟨_, rfl, _, _, _, [], _, [], hW', trodAll_mk1 (shut_bool Try.underlying4 _), (trodAll_cons_mk (Below.trod jf1 (by kernel_rfl) (of_decide_eq_true (by kernel_rfl)) k0 bel lt0) (trodAll_cons_mk (Below.trod jf1 (by kernel_rfl) (of_decide_eq_true (by kernel_rfl)) k1 bel lt1) trodAll_mk0)), rfl, bel.frame _, fun h => by cases h⟩

theorem FnExactBoxUnits_k0 : (Rows.fnExactBoxUnitsRow.wf (OpenSpec.ofChange Rows.fnExactBoxUnitsSpec)) = true := by kernel_rfl
theorem FnExactBoxUnits_k3 : (Try.f11.params.all (Try.prog.readableRec ·)) = true := by kernel_rfl
theorem FnExactBoxUnits_k4 : (namedTie Try.prog Rows.fnExactBoxUnitsRow.named Rows.fnExactBoxUnitsSpec.vars) = true := by kernel_rfl
theorem FnExactBoxUnits_k5 : ((Rows.fnExactBoxUnitsRow.stops == [])) = true := by kernel_rfl
theorem FnExactBoxUnits_k7 : ((Rows.fnExactBoxUnitsRow.knobs == [])) = true := by kernel_rfl
theorem FnExactBoxUnits_k9 : ((Rows.fnExactBoxUnitsRow.inPlace == Try.prog.inPlace 11)) = true := by kernel_rfl
theorem FnExactBoxUnits_k10 : ((Rows.fnExactBoxUnitsRow.unfollowed == Try.prog.unfollowed 11)) = true := by kernel_rfl
theorem FnExactBoxUnits_k11 : ((Rows.fnExactBoxUnitsRow.recurses == Try.prog.recurses 11)) = true := by kernel_rfl
theorem FnExactBoxUnits_k12 : ((Rows.fnExactBoxUnitsRow.named == Try.prog.varsNamed 11)) = true := by kernel_rfl
theorem FnExactBoxUnits_k13 : ((Rows.fnExactBoxUnitsRow.maps == (Try.f11.params.toList ++ Rows.fnExactBoxUnitsSpec.plain.varTypes Try.prog).any (Try.prog.mapsRec ·))) = true := by kernel_rfl
theorem FnExactBoxUnits_k14 : ((Rows.fnExactBoxUnitsRow.ifaces == (Try.f11.params.toList ++ Rows.fnExactBoxUnitsSpec.plain.varTypes Try.prog).any (Try.prog.ifacesRec ·))) = true := by kernel_rfl
theorem FnExactBoxUnits_k15 : ((Rows.fnExactBoxUnitsRow.mapsOut == Try.prog.mapsAmong Try.f11.resultTypes.toList)) = true := by kernel_rfl
theorem FnExactBoxUnits_k16 : ((Rows.fnExactBoxUnitsRow.loops == (Try.f11.params.toList ++ Rows.fnExactBoxUnitsSpec.plain.varTypes Try.prog).any (Try.prog.loopsFrom ·))) = true := by kernel_rfl
theorem FnExactBoxUnits_k17 : ((Rows.fnExactBoxUnitsRow.wideKeys == (Try.f11.params.toList ++ Rows.fnExactBoxUnitsSpec.plain.varTypes Try.prog ++ Try.f11.resultTypes.toList).any (Try.prog.wideKeysFrom ·))) = true := by kernel_rfl
theorem FnExactBoxUnits_k18 : (Rows.fnExactBoxUnitsSpec.vars.all (Try.prog.varReadable ·)) = true := by kernel_rfl
theorem FnExactBoxUnits_k19 : (Try.f11.resultTypes.all (fun t => Try.prog.readableRec t && decide (t < Try.prog.types.size))) = true := by kernel_rfl
theorem FnExactBoxUnits_k20 : ((Rows.fnExactBoxUnitsRow.ifacesOut == Try.f11.resultTypes.toList.any (Try.prog.ifacesRec ·))) = true := by kernel_rfl
theorem FnExactBoxUnits_k21 : ((Rows.fnExactBoxUnitsRow.loopsOut == Try.f11.resultTypes.toList.any (Try.prog.loopsFrom ·))) = true := by kernel_rfl
theorem FnExactBoxUnits_k23 : (Rows.fnExactBoxUnitsRow.shortTexts.isNone) = true := by kernel_rfl
theorem FnExactBoxUnits_k28 : ((Rows.fnExactBoxUnitsRow.kinds == (if Rows.fnExactBoxUnitsRow.domain.isEmpty then [] else Try.f11.params.toList.map fun t => match Try.prog.underlying t with | some (.int k) => some k | _ => none))) = true := by kernel_rfl
theorem FnExactBoxUnits_k29 : ((Rows.fnExactBoxUnitsRow.pinned == Rows.fnExactBoxUnitsRow.pinnedBy)) = true := by kernel_rfl
theorem FnExactBoxUnits_k30 : ((Rows.fnExactBoxUnitsRow.veiled == (Try.f11.params.toList ++ Rows.fnExactBoxUnitsSpec.plain.varTypes Try.prog ++ Try.f11.resultTypes.toList).any (Try.prog.veiledRec ·))) = true := by kernel_rfl
theorem FnExactBoxUnits_k31 : (Rows.fnExactBoxUnitsRow.veiledFits Try.prog Try.f11.params.toList (Try.f11.params.toList ++ Rows.fnExactBoxUnitsSpec.plain.varTypes Try.prog ++ Try.f11.resultTypes.toList)) = true := by kernel_rfl
set_option maxRecDepth 100000 in
theorem FnExactBoxUnits_closed : joinedFacts Try.prog 11 Try.f11 Rows.fnExactBoxUnitsSpec Rows.fnExactBoxUnitsRow = true := (and2 (and2 (and2 (and2 (and2 (and2 (and2 (and2 (and2 (and2 (and2 (and2 (and2 (and2 (and2 (and2 (and2 (and2 (and2 (and2 (and2 (and2 (and2 (and2 (and2 (and2 (and2 (and2 (and2 (and2 (and2 FnExactBoxUnits_k0 jf1) jf2) FnExactBoxUnits_k3) FnExactBoxUnits_k4) FnExactBoxUnits_k5) jf6) FnExactBoxUnits_k7) jf8) FnExactBoxUnits_k9) FnExactBoxUnits_k10) FnExactBoxUnits_k11) FnExactBoxUnits_k12) FnExactBoxUnits_k13) FnExactBoxUnits_k14) FnExactBoxUnits_k15) FnExactBoxUnits_k16) FnExactBoxUnits_k17) FnExactBoxUnits_k18) FnExactBoxUnits_k19) FnExactBoxUnits_k20) FnExactBoxUnits_k21) jf22) FnExactBoxUnits_k23) jf24) jf25) jf26) jf27) FnExactBoxUnits_k28) FnExactBoxUnits_k29) FnExactBoxUnits_k30) FnExactBoxUnits_k31)
theorem FnExactBoxUnits_over : Rows.fnExactBoxUnitsRow.holds Try.pinned (OpenSpec.ofChange Rows.fnExactBoxUnitsSpec) :=
  OpenClaim.holds_of_wide 11 Try.f11 rfl rfl rfl rfl rfl rfl rfl ⟨rfl, rfl, rfl, rfl, rfl⟩ rfl rfl rfl rfl rfl (by kernel_rfl) Try.func11 FnExactBoxUnits_closed
    (of_decide_eq_true (by kernel_rfl)) (by unfold Func.isWrapper; first | (rw [if_pos (by decide +kernel)]; kernel_rfl) | (rw [if_neg (by decide +kernel)]; exact ⟨rfl, rfl⟩))
    (fun os started H enc _ => FnExactBoxUnits_lifted os started H enc)

theorem FnExactBoxUnits_proved : Rows.FnExactBoxUnitsSaid := FnExactBoxUnits_over
end Go.Proofs.Ytmeijbiohbpgpaa
