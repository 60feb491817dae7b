/- The program's SpanAll answers as the specification's SpanAll at every argument; nothing that was there is written. No condition. -/
import Derived.Test.YtiklbdmpbibfeaaRows
import Derived.WalkKit
import Derived.ProofKit
import Derived.OpenShut
import Derived.Below
import Derived.Carry
import Derived.Test.YtiklbdmpbibfeaaOS
import Derived.Test.YtiklbdmpbibfeaaS4
import Derived.Test.YtiklbdmpbibfeaaBJ
namespace Go.Proofs.Ytiklbdmpbibfeaa
open Go.ChangeShapes Go.WideShapes Go.ChangeAt Go.RowKit
set_option linter.unusedVariables false

theorem FnExactSpanAll_own : ownKnob Try.prog.godebug = none := by kernel_rfl

set_option maxRecDepth 100000 in
set_option maxHeartbeats 4000000 in
theorem FnExactSpanAll_walk (a0 : Int) (wa0 : -9223372036854775808 ≤ a0 ∧ a0 ≤ 9223372036854775807) (w : World) :
    Calls Try.prog 4 #[.int .i64 a0] w fun e w' => e = .returned (.bool true) ∧ Below w.heap.size w w' := by
  have S := hd (sSpanAll a0)
  have I := hd (iSpanAll a0)
  generalize isW a0 = r at *
  generalize -topI a0 = x at *
  generalize topI a0 = y at *
  have E := hd (eqSpan_same r x y)
  go_enter Try.func4, Try.ntmps4
  go_wp2_with fail
  refine (S.out _).mono ?_
  rintro e w1 ⟨rfl, hb1⟩
  have K0 := S3.made w1 _ rfl (.bool r) (.int .i64 x) (.int .i64 y) 25
  go_wp2_with fail
  refine (I.out _).mono ?_
  rintro e w2 ⟨rfl, hb2⟩
  have K := K0.later hb2
  obtain ⟨⟨k0, k1, k2⟩, -, kz⟩ := id K
  have kn := Nat.ne_of_lt kz
  have ko := Nat.ne_of_gt kz
  go_wp2_with fail
  refine (E.out _).mono ?_
  rintro e w3 ⟨rfl, hb3⟩
  go_wp2
  go_ret
  exact ⟨rfl, (by repeat (first | exact Below.refl _ _ | refine Below.drew ?_ | refine old_alloc ?_ _ | refine old_trans ?_ (by assumption)))⟩

set_option maxRecDepth 100000 in
theorem FnExactSpanAll_lifted (os : Os) (started : os.Started) (H : Type) (enc : TypeId × Value → H) :
    ReturnsInHanded {} Try.checked os 4 .any (Rows.fnExactSpanAllSpec.pre6 enc Try.prog Try.f4 Rows.fnExactSpanAllRow.domain false) (Rows.fnExactSpanAllSpec.post enc Try.prog Try.f4 false true false false) := by
  refine returnsInHanded_of_change (C := Try.checked) FnExactSpanAll_own started (by kernel_rfl) Try.func4
    (ChangeSpec.witness6 (enc := enc) (C := Try.checked) false ⟨#[], #[.int .i64 0], []⟩ 8 (by kernel_rfl) (by kernel_rfl) (by kernel_rfl) (by kernel_rfl)) ?_
  intro W base args ds gs before hval0 hW hcnd _
  have hval : ∀ (j : Nat) t v, Try.f4.params[j]? = some t → args[j]? = some v → Value.okWide Try.prog W .any base t v := hval0
  have hW' := hW
  obtain ⟨p, q, hA0, hV, rfl, hfz, hnd⟩ := hW
  have hA : DataW.TrodAll enc Try.prog W 0 (fun _ => true) true Try.f4.params.toList args.toList ds p := hA0
  rw [Try.params4] at hA hval
  obtain ⟨v0, vs0, d0, ds0, p0, q0, hargs, rfl, rfl, h0, r0⟩ := trodAll_cons hA
  obtain ⟨rfl, rfl, rfl⟩ := trodAll_nil r0
  obtain rfl : args = #[v0] := by cases args; simp_all
  obtain ⟨rfl, rfl⟩ := trodVars_none hV
  have k0 := h0
  have lt0 : ∀ x ∈ p0, x.block < W.heap.size := by obtain ⟨m, hm⟩ := k0; exact DataW.trod_lt m _ _ _ hm
  obtain ⟨a0, rfl, -, -, wf0⟩ := open_int Try.underlying3 (hval 0 3 v0 rfl rfl) h0
  have wa0 := bounds_i64 wf0
  clear hA0 hval0
  refine (FnExactSpanAll_walk a0 wa0 W ).mono fun e W' ⟨he, bel⟩ => ?_
  subst he
  exact ⟨_, rfl, _, _, _, [], _, [], hW', trodAll_mk1 (shut_bool Try.underlying4 _), (trodAll_cons_mk (Below.trod jf1 (by kernel_rfl) (of_decide_eq_true (by kernel_rfl)) k0 bel lt0) trodAll_mk0), rfl, bel.frame _, fun h => by cases h⟩

theorem FnExactSpanAll_k0 : (Rows.fnExactSpanAllRow.wf (OpenSpec.ofChange Rows.fnExactSpanAllSpec)) = true := by kernel_rfl
theorem FnExactSpanAll_k3 : (Try.f4.params.all (Try.prog.readableRec ·)) = true := by kernel_rfl
theorem FnExactSpanAll_k4 : (namedTie Try.prog Rows.fnExactSpanAllRow.named Rows.fnExactSpanAllSpec.vars) = true := by kernel_rfl
theorem FnExactSpanAll_k5 : ((Rows.fnExactSpanAllRow.stops == [])) = true := by kernel_rfl
theorem FnExactSpanAll_k7 : ((Rows.fnExactSpanAllRow.knobs == [])) = true := by kernel_rfl
theorem FnExactSpanAll_k9 : ((Rows.fnExactSpanAllRow.inPlace == Try.prog.inPlace 4)) = true := by kernel_rfl
theorem FnExactSpanAll_k10 : ((Rows.fnExactSpanAllRow.unfollowed == Try.prog.unfollowed 4)) = true := by kernel_rfl
theorem FnExactSpanAll_k11 : ((Rows.fnExactSpanAllRow.recurses == Try.prog.recurses 4)) = true := by kernel_rfl
theorem FnExactSpanAll_k12 : ((Rows.fnExactSpanAllRow.named == Try.prog.varsNamed 4)) = true := by kernel_rfl
theorem FnExactSpanAll_k13 : ((Rows.fnExactSpanAllRow.maps == (Try.f4.params.toList ++ Rows.fnExactSpanAllSpec.plain.varTypes Try.prog).any (Try.prog.mapsRec ·))) = true := by kernel_rfl
theorem FnExactSpanAll_k14 : ((Rows.fnExactSpanAllRow.ifaces == (Try.f4.params.toList ++ Rows.fnExactSpanAllSpec.plain.varTypes Try.prog).any (Try.prog.ifacesRec ·))) = true := by kernel_rfl
theorem FnExactSpanAll_k15 : ((Rows.fnExactSpanAllRow.mapsOut == Try.prog.mapsAmong Try.f4.resultTypes.toList)) = true := by kernel_rfl
theorem FnExactSpanAll_k16 : ((Rows.fnExactSpanAllRow.loops == (Try.f4.params.toList ++ Rows.fnExactSpanAllSpec.plain.varTypes Try.prog).any (Try.prog.loopsFrom ·))) = true := by kernel_rfl
theorem FnExactSpanAll_k17 : ((Rows.fnExactSpanAllRow.wideKeys == (Try.f4.params.toList ++ Rows.fnExactSpanAllSpec.plain.varTypes Try.prog ++ Try.f4.resultTypes.toList).any (Try.prog.wideKeysFrom ·))) = true := by kernel_rfl
theorem FnExactSpanAll_k18 : (Rows.fnExactSpanAllSpec.vars.all (Try.prog.varReadable ·)) = true := by kernel_rfl
theorem FnExactSpanAll_k19 : (Try.f4.resultTypes.all (fun t => Try.prog.readableRec t && decide (t < Try.prog.types.size))) = true := by kernel_rfl
theorem FnExactSpanAll_k20 : ((Rows.fnExactSpanAllRow.ifacesOut == Try.f4.resultTypes.toList.any (Try.prog.ifacesRec ·))) = true := by kernel_rfl
theorem FnExactSpanAll_k21 : ((Rows.fnExactSpanAllRow.loopsOut == Try.f4.resultTypes.toList.any (Try.prog.loopsFrom ·))) = true := by kernel_rfl
theorem FnExactSpanAll_k23 : (Rows.fnExactSpanAllRow.shortTexts.isNone) = true := by kernel_rfl
theorem FnExactSpanAll_k28 : ((Rows.fnExactSpanAllRow.kinds == (if Rows.fnExactSpanAllRow.domain.isEmpty then [] else Try.f4.params.toList.map fun t => match Try.prog.underlying t with | some (.int k) => some k | _ => none))) = true := by kernel_rfl
theorem FnExactSpanAll_k29 : ((Rows.fnExactSpanAllRow.pinned == Rows.fnExactSpanAllRow.pinnedBy)) = true := by kernel_rfl
theorem FnExactSpanAll_k30 : ((Rows.fnExactSpanAllRow.veiled == (Try.f4.params.toList ++ Rows.fnExactSpanAllSpec.plain.varTypes Try.prog ++ Try.f4.resultTypes.toList).any (Try.prog.veiledRec ·))) = true := by kernel_rfl
theorem FnExactSpanAll_k31 : (Rows.fnExactSpanAllRow.veiledFits Try.prog Try.f4.params.toList (Try.f4.params.toList ++ Rows.fnExactSpanAllSpec.plain.varTypes Try.prog ++ Try.f4.resultTypes.toList)) = true := by kernel_rfl
set_option maxRecDepth 100000 in
theorem FnExactSpanAll_closed : joinedFacts Try.prog 4 Try.f4 Rows.fnExactSpanAllSpec Rows.fnExactSpanAllRow = true := (and2 (and2 (and2 (and2 (and2 (and2 (and2 (and2 (and2 (and2 (and2 (and2 (and2 (and2 (and2 (and2 (and2 (and2 (and2 (and2 (and2 (and2 (and2 (and2 (and2 (and2 (and2 (and2 (and2 (and2 (and2 FnExactSpanAll_k0 jf1) jf2) FnExactSpanAll_k3) FnExactSpanAll_k4) FnExactSpanAll_k5) jf6) FnExactSpanAll_k7) jf8) FnExactSpanAll_k9) FnExactSpanAll_k10) FnExactSpanAll_k11) FnExactSpanAll_k12) FnExactSpanAll_k13) FnExactSpanAll_k14) FnExactSpanAll_k15) FnExactSpanAll_k16) FnExactSpanAll_k17) FnExactSpanAll_k18) FnExactSpanAll_k19) FnExactSpanAll_k20) FnExactSpanAll_k21) jf22) FnExactSpanAll_k23) jf24) jf25) jf26) jf27) FnExactSpanAll_k28) FnExactSpanAll_k29) FnExactSpanAll_k30) FnExactSpanAll_k31)
theorem FnExactSpanAll_over : Rows.fnExactSpanAllRow.holds Try.pinned (OpenSpec.ofChange Rows.fnExactSpanAllSpec) :=
  OpenClaim.holds_of_wide 4 Try.f4 rfl rfl rfl rfl rfl rfl rfl ⟨rfl, rfl, rfl, rfl, rfl⟩ rfl rfl rfl rfl rfl (by kernel_rfl) Try.func4 FnExactSpanAll_closed
    (of_decide_eq_true (by kernel_rfl)) (by unfold Func.isWrapper; first | (rw [if_pos (by decide +kernel)]; kernel_rfl) | (rw [if_neg (by decide +kernel)]; exact ⟨rfl, rfl⟩))
    (fun os started H enc _ => FnExactSpanAll_lifted os started H enc)

theorem FnExactSpanAll_proved : Rows.FnExactSpanAllSaid := FnExactSpanAll_over
end Go.Proofs.Ytiklbdmpbibfeaa
