/- The program's SpanOk answers as the specification's SpanOk at every argument; nothing that was there is written. No condition. -/
import Derived.Test.YtiklbdmpbibfeaaRows
import Derived.WalkKit
import Derived.ProofKit
import Derived.OpenShut
import Derived.Below
import Derived.Carry
import Derived.Test.YtiklbdmpbibfeaaOS
import Derived.Test.YtiklbdmpbibfeaaS1
import Derived.Test.YtiklbdmpbibfeaaBJ
namespace Go.Proofs.Ytiklbdmpbibfeaa
open Go.ChangeShapes Go.WideShapes Go.ChangeAt Go.RowKit
set_option linter.unusedVariables false

theorem FnExactSpanOk_own : ownKnob Try.prog.godebug = none := by kernel_rfl

set_option maxRecDepth 100000 in
set_option maxHeartbeats 4000000 in
theorem FnExactSpanOk_walk (a0 : Int) (wa0 : -9223372036854775808 ≤ a0 ∧ a0 ≤ 9223372036854775807) (s1 : Bool) (a1 b1 : Int) (wa1 : -9223372036854775808 ≤ a1 ∧ a1 ≤ 9223372036854775807) (wb1 : -9223372036854775808 ≤ b1 ∧ b1 ≤ 9223372036854775807) (w : World) :
    Calls Try.prog 3 #[.int .i64 a0, .agg #[.bool s1, .int .i64 a1, .int .i64 b1]] w fun e w' => e = .returned (.bool true) ∧ Below w.heap.size w w' := by
  have S := hd (sSpanOk a0 s1 a1 b1)
  have I := hd (iSpanOk a0 s1 a1 b1)
  have T := hd (toSpan s1 a1 b1)
  generalize sokB a0 s1 a1 b1 = r at *
  have K0 := S3.made w _ rfl (.bool s1) (.int .i64 a1) (.int .i64 b1) 23
  go_enter Try.func3, Try.ntmps3
  go_wp2_with fail
  refine (T.out _).mono ?_
  rintro e w1 ⟨rfl, hb1⟩
  have K := K0.later hb1
  go_wp2_with fail
  refine (S.out _).mono ?_
  rintro e w2 ⟨rfl, hb2⟩
  replace K := K.later hb2
  obtain ⟨⟨k0, k1, k2⟩, -, -⟩ := id K
  go_wp2_with fail
  refine (T.out _).mono ?_
  rintro e w3 ⟨rfl, hb3⟩
  go_wp2_with fail
  refine (I.out _).mono ?_
  rintro e w4 ⟨rfl, hb4⟩
  cases r <;>
  · go_wp2
    go_ret
    exact ⟨rfl, (by repeat (first | exact Below.refl _ _ | refine Below.drew ?_ | refine old_alloc ?_ _ | refine old_trans ?_ (by assumption)))⟩

set_option maxRecDepth 100000 in
theorem FnExactSpanOk_lifted (os : Os) (started : os.Started) (H : Type) (enc : TypeId × Value → H) :
    ReturnsInHanded {} Try.checked os 3 .any (Rows.fnExactSpanOkSpec.pre6 enc Try.prog Try.f3 Rows.fnExactSpanOkRow.domain false) (Rows.fnExactSpanOkSpec.post enc Try.prog Try.f3 false true false false) := by
  refine returnsInHanded_of_change (C := Try.checked) FnExactSpanOk_own started (by kernel_rfl) Try.func3
    (ChangeSpec.witness6 (enc := enc) (C := Try.checked) false ⟨#[], #[.int .i64 0, .agg #[.bool false, .int .i64 0, .int .i64 0]], []⟩ 8 (by kernel_rfl) (by kernel_rfl) (by kernel_rfl) (by kernel_rfl)) ?_
  intro W base args ds gs before hval0 hW hcnd _
  have hval : ∀ (j : Nat) t v, Try.f3.params[j]? = some t → args[j]? = some v → Value.okWide Try.prog W .any base t v := hval0
  have hW' := hW
  obtain ⟨p, q, hA0, hV, rfl, hfz, hnd⟩ := hW
  have hA : DataW.TrodAll enc Try.prog W 0 (fun _ => true) true Try.f3.params.toList args.toList ds p := hA0
  rw [Try.params3] at hA hval
  obtain ⟨v0, vs0, d0, ds0, p0, q0, hargs, rfl, rfl, h0, r0⟩ := trodAll_cons hA
  obtain ⟨v1, vs1, d1, ds1, p1, q1, rfl, rfl, rfl, h1, r1⟩ := trodAll_cons r0
  obtain ⟨rfl, rfl, rfl⟩ := trodAll_nil r1
  obtain rfl : args = #[v0, v1] := by cases args; simp_all
  obtain ⟨rfl, rfl⟩ := trodVars_none hV
  have k0 := h0
  have lt0 : ∀ x ∈ p0, x.block < W.heap.size := by obtain ⟨m, hm⟩ := k0; exact DataW.trod_lt m _ _ _ hm
  obtain ⟨a0, rfl, -, -, wf0⟩ := open_int Try.underlying3 (hval 0 3 v0 rfl rfl) h0
  have wa0 := bounds_i64 wf0
  have k1 := h1
  have lt1 : ∀ x ∈ p1, x.block < W.heap.size := by obtain ⟨m, hm⟩ := k1; exact DataW.trod_lt m _ _ _ hm
  obtain ⟨s1, a1, b1, rfl, wa1, wb1⟩ := open_lspan (hval 1 23 v1 rfl rfl) h1
  clear hA0 hval0
  refine (FnExactSpanOk_walk a0 wa0 s1 a1 b1 wa1 wb1 W ).mono fun e W' ⟨he, bel⟩ => ?_
  subst he
  exact ⟨_, rfl, _, _, _, [], _, [], hW', trodAll_mk1 (shut_bool Try.underlying4 _), (trodAll_cons_mk (Below.trod jf1 (by kernel_rfl) (of_decide_eq_true (by kernel_rfl)) k0 bel lt0) (trodAll_cons_mk (Below.trod jf1 (by kernel_rfl) (of_decide_eq_true (by kernel_rfl)) k1 bel lt1) trodAll_mk0)), rfl, bel.frame _, fun h => by cases h⟩

theorem FnExactSpanOk_k0 : (Rows.fnExactSpanOkRow.wf (OpenSpec.ofChange Rows.fnExactSpanOkSpec)) = true := by kernel_rfl
theorem FnExactSpanOk_k3 : (Try.f3.params.all (Try.prog.readableRec ·)) = true := by kernel_rfl
theorem FnExactSpanOk_k4 : (namedTie Try.prog Rows.fnExactSpanOkRow.named Rows.fnExactSpanOkSpec.vars) = true := by kernel_rfl
theorem FnExactSpanOk_k5 : ((Rows.fnExactSpanOkRow.stops == [])) = true := by kernel_rfl
theorem FnExactSpanOk_k7 : ((Rows.fnExactSpanOkRow.knobs == [])) = true := by kernel_rfl
theorem FnExactSpanOk_k9 : ((Rows.fnExactSpanOkRow.inPlace == Try.prog.inPlace 3)) = true := by kernel_rfl
theorem FnExactSpanOk_k10 : ((Rows.fnExactSpanOkRow.unfollowed == Try.prog.unfollowed 3)) = true := by kernel_rfl
theorem FnExactSpanOk_k11 : ((Rows.fnExactSpanOkRow.recurses == Try.prog.recurses 3)) = true := by kernel_rfl
theorem FnExactSpanOk_k12 : ((Rows.fnExactSpanOkRow.named == Try.prog.varsNamed 3)) = true := by kernel_rfl
theorem FnExactSpanOk_k13 : ((Rows.fnExactSpanOkRow.maps == (Try.f3.params.toList ++ Rows.fnExactSpanOkSpec.plain.varTypes Try.prog).any (Try.prog.mapsRec ·))) = true := by kernel_rfl
theorem FnExactSpanOk_k14 : ((Rows.fnExactSpanOkRow.ifaces == (Try.f3.params.toList ++ Rows.fnExactSpanOkSpec.plain.varTypes Try.prog).any (Try.prog.ifacesRec ·))) = true := by kernel_rfl
theorem FnExactSpanOk_k15 : ((Rows.fnExactSpanOkRow.mapsOut == Try.prog.mapsAmong Try.f3.resultTypes.toList)) = true := by kernel_rfl
theorem FnExactSpanOk_k16 : ((Rows.fnExactSpanOkRow.loops == (Try.f3.params.toList ++ Rows.fnExactSpanOkSpec.plain.varTypes Try.prog).any (Try.prog.loopsFrom ·))) = true := by kernel_rfl
theorem FnExactSpanOk_k17 : ((Rows.fnExactSpanOkRow.wideKeys == (Try.f3.params.toList ++ Rows.fnExactSpanOkSpec.plain.varTypes Try.prog ++ Try.f3.resultTypes.toList).any (Try.prog.wideKeysFrom ·))) = true := by kernel_rfl
theorem FnExactSpanOk_k18 : (Rows.fnExactSpanOkSpec.vars.all (Try.prog.varReadable ·)) = true := by kernel_rfl
theorem FnExactSpanOk_k19 : (Try.f3.resultTypes.all (fun t => Try.prog.readableRec t && decide (t < Try.prog.types.size))) = true := by kernel_rfl
theorem FnExactSpanOk_k20 : ((Rows.fnExactSpanOkRow.ifacesOut == Try.f3.resultTypes.toList.any (Try.prog.ifacesRec ·))) = true := by kernel_rfl
theorem FnExactSpanOk_k21 : ((Rows.fnExactSpanOkRow.loopsOut == Try.f3.resultTypes.toList.any (Try.prog.loopsFrom ·))) = true := by kernel_rfl
theorem FnExactSpanOk_k23 : (Rows.fnExactSpanOkRow.shortTexts.isNone) = true := by kernel_rfl
theorem FnExactSpanOk_k28 : ((Rows.fnExactSpanOkRow.kinds == (if Rows.fnExactSpanOkRow.domain.isEmpty then [] else Try.f3.params.toList.map fun t => match Try.prog.underlying t with | some (.int k) => some k | _ => none))) = true := by kernel_rfl
theorem FnExactSpanOk_k29 : ((Rows.fnExactSpanOkRow.pinned == Rows.fnExactSpanOkRow.pinnedBy)) = true := by kernel_rfl
theorem FnExactSpanOk_k30 : ((Rows.fnExactSpanOkRow.veiled == (Try.f3.params.toList ++ Rows.fnExactSpanOkSpec.plain.varTypes Try.prog ++ Try.f3.resultTypes.toList).any (Try.prog.veiledRec ·))) = true := by kernel_rfl
theorem FnExactSpanOk_k31 : (Rows.fnExactSpanOkRow.veiledFits Try.prog Try.f3.params.toList (Try.f3.params.toList ++ Rows.fnExactSpanOkSpec.plain.varTypes Try.prog ++ Try.f3.resultTypes.toList)) = true := by kernel_rfl
set_option maxRecDepth 100000 in
theorem FnExactSpanOk_closed : joinedFacts Try.prog 3 Try.f3 Rows.fnExactSpanOkSpec Rows.fnExactSpanOkRow = true := (and2 (and2 (and2 (and2 (and2 (and2 (and2 (and2 (and2 (and2 (and2 (and2 (and2 (and2 (and2 (and2 (and2 (and2 (and2 (and2 (and2 (and2 (and2 (and2 (and2 (and2 (and2 (and2 (and2 (and2 (and2 FnExactSpanOk_k0 jf1) jf2) FnExactSpanOk_k3) FnExactSpanOk_k4) FnExactSpanOk_k5) jf6) FnExactSpanOk_k7) jf8) FnExactSpanOk_k9) FnExactSpanOk_k10) FnExactSpanOk_k11) FnExactSpanOk_k12) FnExactSpanOk_k13) FnExactSpanOk_k14) FnExactSpanOk_k15) FnExactSpanOk_k16) FnExactSpanOk_k17) FnExactSpanOk_k18) FnExactSpanOk_k19) FnExactSpanOk_k20) FnExactSpanOk_k21) jf22) FnExactSpanOk_k23) jf24) jf25) jf26) jf27) FnExactSpanOk_k28) FnExactSpanOk_k29) FnExactSpanOk_k30) FnExactSpanOk_k31)
theorem FnExactSpanOk_over : Rows.fnExactSpanOkRow.holds Try.pinned (OpenSpec.ofChange Rows.fnExactSpanOkSpec) :=
  OpenClaim.holds_of_wide 3 Try.f3 rfl rfl rfl rfl rfl rfl rfl ⟨rfl, rfl, rfl, rfl, rfl⟩ rfl rfl rfl rfl rfl (by kernel_rfl) Try.func3 FnExactSpanOk_closed
    (of_decide_eq_true (by kernel_rfl)) (by unfold Func.isWrapper; first | (rw [if_pos (by decide +kernel)]; kernel_rfl) | (rw [if_neg (by decide +kernel)]; exact ⟨rfl, rfl⟩))
    (fun os started H enc _ => FnExactSpanOk_lifted os started H enc)

theorem FnExactSpanOk_proved : Rows.FnExactSpanOkSaid := FnExactSpanOk_over
end Go.Proofs.Ytiklbdmpbibfeaa
