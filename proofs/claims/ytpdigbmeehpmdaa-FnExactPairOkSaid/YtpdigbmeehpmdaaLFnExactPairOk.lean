/- The program's PairOk answers as the specification's PairOk at every argument; nothing that was there is written. No condition. -/
import Derived.Test.YtpdigbmeehpmdaaRows
import Derived.WalkKit
import Derived.ProofKit
import Derived.OpenShut
import Derived.Below
import Derived.Carry
import Derived.Test.YtpdigbmeehpmdaaO1
import Derived.Test.YtpdigbmeehpmdaaR8
import Derived.Test.YtpdigbmeehpmdaaR2
import Derived.Test.YtpdigbmeehpmdaaJ0
import Derived.Test.YtpdigbmeehpmdaaJ1
import Derived.Test.YtpdigbmeehpmdaaJ4
import Derived.Test.YtpdigbmeehpmdaaJ5
import Derived.Test.YtpdigbmeehpmdaaJ6
namespace Go.Proofs.Ytpdigbmeehpmdaa
open Go.ChangeShapes Go.WideShapes Go.ChangeAt Go.RowKit
set_option linter.unusedVariables false

theorem FnExactPairOk_own : ownKnob Try.prog.godebug = none := by kernel_rfl

set_option maxRecDepth 100000 in
set_option maxHeartbeats 4000000 in
theorem FnExactPairOk_walk (a0 : Int) (wa0 : -9223372036854775808 ≤ a0 ∧ a0 ≤ 9223372036854775807) (a1 b1 : Int) (wa1 : -9223372036854775808 ≤ a1 ∧ a1 ≤ 9223372036854775807) (wb1 : -9223372036854775808 ≤ b1 ∧ b1 ≤ 9223372036854775807) (w : World) :
    Calls Try.prog 10 #[.int .i64 a0, .agg #[.int .i64 a1, .int .i64 b1]] w fun e w' => e = .returned (.bool true) ∧ Below w.heap.size w w' := by
  have S := hd (sPairOk a0 a1 b1)
  have I := hd (iPairOk a0 a1 b1)
  generalize pokB a0 a1 b1 = r at *
  go_enter Try.func10, Try.ntmps10
  go_wp2_with fail
  refine (toPair a1 b1 _).mono ?_
  rintro e w1 ⟨rfl, hb1⟩
  have K := (by first | exact (Cel2.made w (w.heap.size) (by simp) (.int .i64 a1) (.int .i64 b1) 64).later hb1 | exact ((Cel2.made w (w.heap.size) (by simp) (.int .i64 a1) (.int .i64 b1) 64).alloc _).later hb1 | exact (((Cel2.made w (w.heap.size) (by simp) (.int .i64 a1) (.int .i64 b1) 64).alloc _).alloc _).later hb1 : Cel2 w1 _ _ _)
  have K0 := K.1
  have K1 := K.2.1
  have Kz := K.2.2.2.2
  go_wp2_with fail
  refine (S.out _).mono ?_
  rintro e w2 ⟨rfl, hb2⟩
  clear K0 K1 Kz
  have K := (by first | exact K.later hb2 | exact (K.alloc _).later hb2 | exact ((K.alloc _).alloc _).later hb2 : Cel2 w2 _ _ _)
  have K0 := K.1
  have K1 := K.2.1
  have Kz := K.2.2.2.2
  go_wp2_with fail
  refine (toPair a1 b1 _).mono ?_
  rintro e w3 ⟨rfl, hb3⟩
  clear K0 K1 Kz
  have K := (by first | exact K.later hb3 | exact (K.alloc _).later hb3 | exact ((K.alloc _).alloc _).later hb3 : Cel2 w3 _ _ _)
  have K0 := K.1
  have K1 := K.2.1
  have Kz := K.2.2.2.2
  go_wp2_with fail
  refine (I.out _).mono ?_
  rintro e w4 ⟨rfl, hb4⟩
  clear K0 K1 Kz
  have K := (by first | exact K.later hb4 | exact (K.alloc _).later hb4 | exact ((K.alloc _).alloc _).later hb4 : Cel2 w4 _ _ _)
  have K0 := K.1
  have K1 := K.2.1
  have Kz := K.2.2.2.2
  go_wp2
  go_ret
  exact ⟨rfl, (by repeat (first | exact Below.refl _ _ | refine Below.drew ?_ | refine old_alloc ?_ _ | refine old_trans ?_ (by assumption)))⟩
set_option maxRecDepth 100000 in
theorem FnExactPairOk_lifted (os : Os) (started : os.Started) (H : Type) (enc : TypeId × Value → H) :
    ReturnsInHanded {} Try.checked os 10 .any (Rows.fnExactPairOkSpec.pre6 enc Try.prog Try.f10 Rows.fnExactPairOkRow.domain false) (Rows.fnExactPairOkSpec.post enc Try.prog Try.f10 false true false false) := by
  refine returnsInHanded_of_change (C := Try.checked) FnExactPairOk_own started (by kernel_rfl) Try.func10
    (ChangeSpec.witness6 (enc := enc) (C := Try.checked) false ⟨#[], #[.int .i64 0, .agg #[.int .i64 0, .int .i64 0]], []⟩ 8 (by kernel_rfl) (by kernel_rfl) (by kernel_rfl) (by kernel_rfl)) ?_
  intro W base args ds gs before hval0 hW hcnd _
  have hval : ∀ (j : Nat) t v, Try.f10.params[j]? = some t → args[j]? = some v → Value.okWide Try.prog W .any base t v := hval0
  have hW' := hW
  obtain ⟨p, q, hA0, hV, rfl, hfz, hnd⟩ := hW
  have hA : DataW.TrodAll enc Try.prog W 0 (fun _ => true) true Try.f10.params.toList args.toList ds p := hA0
  rw [Try.params10] at hA hval
  obtain ⟨v0, vs0, d0, ds0, p0, q0, hargs, rfl, rfl, h0, r0⟩ := trodAll_cons hA
  obtain ⟨v1, vs1, d1, ds1, p1, q1, rfl, rfl, rfl, h1, r1⟩ := trodAll_cons r0
  obtain ⟨rfl, rfl, rfl⟩ := trodAll_nil r1
  obtain rfl : args = #[v0, v1] := by cases args; simp_all
  obtain ⟨rfl, rfl⟩ := trodVars_none hV
  have k0 := h0
  have lt0 : ∀ x ∈ p0, x.block < W.heap.size := by obtain ⟨m, hm⟩ := k0; exact DataW.trod_lt m _ _ _ hm
  obtain ⟨a0, rfl, -, -, wf0⟩ := open_int Try.underlying3 (hval 0 3 v0 rfl rfl) h0
  have wa0 := bounds_i64 wf0
  have k1 := h1
  have lt1 : ∀ x ∈ p1, x.block < W.heap.size := by obtain ⟨m, hm⟩ := k1; exact DataW.trod_lt m _ _ _ hm
  obtain ⟨a1, b1, rfl, wa1, wb1⟩ := open_lpair (hval 1 64 v1 rfl rfl) h1
  clear hA0 hval0
  refine (FnExactPairOk_walk a0 wa0 a1 b1 wa1 wb1 W ).mono fun e W' ⟨he, bel⟩ => ?_
  subst he
  exact ⟨_, rfl, _, _, _, [], _, [], hW', trodAll_mk1 (shut_bool Try.underlying4 _), (trodAll_cons_mk (Below.trod jf1 (by kernel_rfl) (of_decide_eq_true (by kernel_rfl)) k0 bel lt0) (trodAll_cons_mk (Below.trod jf1 (by kernel_rfl) (of_decide_eq_true (by kernel_rfl)) k1 bel lt1) trodAll_mk0)), rfl, bel.frame _, fun h => by cases h⟩

theorem FnExactPairOk_k0 : (Rows.fnExactPairOkRow.wf (OpenSpec.ofChange Rows.fnExactPairOkSpec)) = true := by kernel_rfl
theorem FnExactPairOk_k3 : (Try.f10.params.all (Try.prog.readableRec ·)) = true := by kernel_rfl
theorem FnExactPairOk_k4 : (namedTie Try.prog Rows.fnExactPairOkRow.named Rows.fnExactPairOkSpec.vars) = true := by kernel_rfl
theorem FnExactPairOk_k5 : ((Rows.fnExactPairOkRow.stops == [])) = true := by kernel_rfl
theorem FnExactPairOk_k7 : ((Rows.fnExactPairOkRow.knobs == [])) = true := by kernel_rfl
theorem FnExactPairOk_k9 : ((Rows.fnExactPairOkRow.inPlace == Try.prog.inPlace 10)) = true := by kernel_rfl
theorem FnExactPairOk_k10 : ((Rows.fnExactPairOkRow.unfollowed == Try.prog.unfollowed 10)) = true := by kernel_rfl
theorem FnExactPairOk_k11 : ((Rows.fnExactPairOkRow.recurses == Try.prog.recurses 10)) = true := by kernel_rfl
theorem FnExactPairOk_k12 : ((Rows.fnExactPairOkRow.named == Try.prog.varsNamed 10)) = true := by kernel_rfl
theorem FnExactPairOk_k13 : ((Rows.fnExactPairOkRow.maps == (Try.f10.params.toList ++ Rows.fnExactPairOkSpec.plain.varTypes Try.prog).any (Try.prog.mapsRec ·))) = true := by kernel_rfl
theorem FnExactPairOk_k14 : ((Rows.fnExactPairOkRow.ifaces == (Try.f10.params.toList ++ Rows.fnExactPairOkSpec.plain.varTypes Try.prog).any (Try.prog.ifacesRec ·))) = true := by kernel_rfl
theorem FnExactPairOk_k15 : ((Rows.fnExactPairOkRow.mapsOut == Try.prog.mapsAmong Try.f10.resultTypes.toList)) = true := by kernel_rfl
theorem FnExactPairOk_k16 : ((Rows.fnExactPairOkRow.loops == (Try.f10.params.toList ++ Rows.fnExactPairOkSpec.plain.varTypes Try.prog).any (Try.prog.loopsFrom ·))) = true := by kernel_rfl
theorem FnExactPairOk_k17 : ((Rows.fnExactPairOkRow.wideKeys == (Try.f10.params.toList ++ Rows.fnExactPairOkSpec.plain.varTypes Try.prog ++ Try.f10.resultTypes.toList).any (Try.prog.wideKeysFrom ·))) = true := by kernel_rfl
theorem FnExactPairOk_k18 : (Rows.fnExactPairOkSpec.vars.all (Try.prog.varReadable ·)) = true := by kernel_rfl
theorem FnExactPairOk_k19 : (Try.f10.resultTypes.all (fun t => Try.prog.readableRec t && decide (t < Try.prog.types.size))) = true := by kernel_rfl
theorem FnExactPairOk_k20 : ((Rows.fnExactPairOkRow.ifacesOut == Try.f10.resultTypes.toList.any (Try.prog.ifacesRec ·))) = true := by kernel_rfl
theorem FnExactPairOk_k21 : ((Rows.fnExactPairOkRow.loopsOut == Try.f10.resultTypes.toList.any (Try.prog.loopsFrom ·))) = true := by kernel_rfl
theorem FnExactPairOk_k23 : (Rows.fnExactPairOkRow.shortTexts.isNone) = true := by kernel_rfl
theorem FnExactPairOk_k28 : ((Rows.fnExactPairOkRow.kinds == (if Rows.fnExactPairOkRow.domain.isEmpty then [] else Try.f10.params.toList.map fun t => match Try.prog.underlying t with | some (.int k) => some k | _ => none))) = true := by kernel_rfl
theorem FnExactPairOk_k29 : ((Rows.fnExactPairOkRow.pinned == Rows.fnExactPairOkRow.pinnedBy)) = true := by kernel_rfl
theorem FnExactPairOk_k30 : ((Rows.fnExactPairOkRow.veiled == (Try.f10.params.toList ++ Rows.fnExactPairOkSpec.plain.varTypes Try.prog ++ Try.f10.resultTypes.toList).any (Try.prog.veiledRec ·))) = true := by kernel_rfl
theorem FnExactPairOk_k31 : (Rows.fnExactPairOkRow.veiledFits Try.prog Try.f10.params.toList (Try.f10.params.toList ++ Rows.fnExactPairOkSpec.plain.varTypes Try.prog ++ Try.f10.resultTypes.toList)) = true := by kernel_rfl
set_option maxRecDepth 100000 in
theorem FnExactPairOk_closed : joinedFacts Try.prog 10 Try.f10 Rows.fnExactPairOkSpec Rows.fnExactPairOkRow = true := (and2 (and2 (and2 (and2 (and2 (and2 (and2 (and2 (and2 (and2 (and2 (and2 (and2 (and2 (and2 (and2 (and2 (and2 (and2 (and2 (and2 (and2 (and2 (and2 (and2 (and2 (and2 (and2 (and2 (and2 (and2 FnExactPairOk_k0 jf1) jf2) FnExactPairOk_k3) FnExactPairOk_k4) FnExactPairOk_k5) jf6) FnExactPairOk_k7) jf8) FnExactPairOk_k9) FnExactPairOk_k10) FnExactPairOk_k11) FnExactPairOk_k12) FnExactPairOk_k13) FnExactPairOk_k14) FnExactPairOk_k15) FnExactPairOk_k16) FnExactPairOk_k17) FnExactPairOk_k18) FnExactPairOk_k19) FnExactPairOk_k20) FnExactPairOk_k21) jf22) FnExactPairOk_k23) jf24) jf25) jf26) jf27) FnExactPairOk_k28) FnExactPairOk_k29) FnExactPairOk_k30) FnExactPairOk_k31)
theorem FnExactPairOk_over : Rows.fnExactPairOkRow.holds Try.pinned (OpenSpec.ofChange Rows.fnExactPairOkSpec) :=
  OpenClaim.holds_of_wide 10 Try.f10 rfl rfl rfl rfl rfl rfl rfl ⟨rfl, rfl, rfl, rfl, rfl⟩ rfl rfl rfl rfl rfl (by kernel_rfl) Try.func10 FnExactPairOk_closed
    (of_decide_eq_true (by kernel_rfl)) (by unfold Func.isWrapper; first | (rw [if_pos (by decide +kernel)]; kernel_rfl) | (rw [if_neg (by decide +kernel)]; exact ⟨rfl, rfl⟩))
    (fun os started H enc _ => FnExactPairOk_lifted os started H enc)

theorem FnExactPairOk_proved : Rows.FnExactPairOkSaid := FnExactPairOk_over
end Go.Proofs.Ytpdigbmeehpmdaa
