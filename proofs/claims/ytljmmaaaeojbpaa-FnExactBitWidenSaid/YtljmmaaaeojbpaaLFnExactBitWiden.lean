/- The program's BitWiden answers as the specification's BitWiden at every argument; nothing that was there is written. No condition. -/
import Derived.Test.YtljmmaaaeojbpaaRows
import Derived.WalkKit
import Derived.ProofKit
import Derived.OpenShut
import Derived.ShutString
import Derived.Test.YtljmmaaaeojbpaaW10
import Derived.Test.YtljmmaaaeojbpaaW8
import Derived.Test.YtljmmaaaeojbpaaJ0
import Derived.Test.YtljmmaaaeojbpaaJ1
import Derived.Test.YtljmmaaaeojbpaaJ2
import Derived.Test.YtljmmaaaeojbpaaJ3
namespace Go.Proofs.Ytljmmaaaeojbpaa
open Go.ChangeShapes Go.WideShapes Go.ChangeAt Go.RowKit
open Go.ChangeMaps (open_string shut_string)
set_option linter.unusedVariables false

theorem FnExactBitWiden_own : ownKnob Try.prog.godebug = none := by kernel_rfl

set_option maxHeartbeats 1000000 in
theorem FnExactBitWiden_walk (a0 : Int) (w0 : (Lit.int .i64 a0).wf = true) (w : World) :
    Calls Try.prog 17 #[.int .i64 a0] w fun e w' => e = .returned (.bool true) ∧ Below w.heap.size w w' := by
  by_cases c : -2139095040 ≤ a0 ∧ a0 ≤ 2139095040
  · obtain ⟨d1, d2⟩ := c
    go_enter Try.func17, Try.ntmps17
    go_wp2_with (first | (go_at_call 50; refine (sBitWiden _ d1 d2 _).mono ?_; rintro e w1 ⟨rfl, hb1⟩) | (go_at_call 32; refine (iBitWiden _ d1 d2 _).mono ?_; rintro e w2 ⟨rfl, hb2⟩) | go_in)
    go_ret
    exact ⟨rfl, (by repeat (first | exact Below.refl _ _ | refine Below.drew ?_ | refine old_alloc ?_ _ | refine old_trans ?_ (by assumption)))⟩
  · go_enter Try.func17, Try.ntmps17
    go_wp2_with (first | (go_at_call 50; refine (sBitWiden_out _ c _).mono ?_; rintro e w1 ⟨rfl, hb1⟩) | (go_at_call 32; refine (iBitWiden_out _ c _).mono ?_; rintro e w2 ⟨rfl, hb2⟩) | go_in)
    go_ret
    exact ⟨rfl, (by repeat (first | exact Below.refl _ _ | refine Below.drew ?_ | refine old_alloc ?_ _ | refine old_trans ?_ (by assumption)))⟩
set_option maxRecDepth 100000 in
theorem FnExactBitWiden_lifted (os : Os) (started : os.Started) (H : Type) (enc : TypeId × Value → H) :
    ReturnsInHanded {} Try.checked os 17 .any (Rows.fnExactBitWidenSpec.pre6 enc Try.prog Try.f17 Rows.fnExactBitWidenRow.domain false) (Rows.fnExactBitWidenSpec.post enc Try.prog Try.f17 false true false false) := by
  refine returnsInHanded_of_change (C := Try.checked) FnExactBitWiden_own started (by kernel_rfl) Try.func17
    (ChangeSpec.witness6 (enc := enc) (C := Try.checked) false ⟨#[], #[.int .i64 0], []⟩ 8 (by kernel_rfl) (by kernel_rfl) (by kernel_rfl) (by kernel_rfl)) ?_
  intro W base args ds gs before hval0 hW hcnd _
  have hval : ∀ (j : Nat) t v, Try.f17.params[j]? = some t → args[j]? = some v → Value.okWide Try.prog W .any base t v := hval0
  have hW' := hW
  obtain ⟨p, q, hA0, hV, rfl, hfz, hnd⟩ := hW
  have hA : DataW.TrodAll enc Try.prog W 0 (fun _ => true) true Try.f17.params.toList args.toList ds p := hA0
  rw [Try.params17] at hA hval
  obtain ⟨v0, vs0, d0, ds0, p0, q0, hargs, rfl, rfl, h0, r0⟩ := trodAll_cons hA
  obtain ⟨rfl, rfl, rfl⟩ := trodAll_nil r0
  obtain rfl : args = #[v0] := by cases args; simp_all
  obtain ⟨rfl, rfl⟩ := trodVars_none hV
  obtain ⟨a0, rfl, rfl, rfl, w0⟩ := open_int Try.underlying3 (hval 0 3 v0 rfl rfl) h0
  clear hA0 hval0
  simp only [List.append_nil] at hW'
  refine (FnExactBitWiden_walk a0 w0 W).mono fun e W' ⟨he, hg⟩ => ?_
  subst he
  exact ⟨_, rfl, _, _, _, [], [], [], hW', (trodAll_cons_mk (shut_bool Try.underlying4 _) trodAll_mk0), (trodAll_cons_mk (shut_int Try.underlying3 w0) trodAll_mk0), rfl, hg.frame _, fun h => by cases h⟩

theorem FnExactBitWiden_k0 : (Rows.fnExactBitWidenRow.wf (OpenSpec.ofChange Rows.fnExactBitWidenSpec)) = true := by kernel_rfl
theorem FnExactBitWiden_k3 : (Try.f17.params.all (Try.prog.readableRec ·)) = true := by kernel_rfl
theorem FnExactBitWiden_k4 : (namedTie Try.prog Rows.fnExactBitWidenRow.named Rows.fnExactBitWidenSpec.vars) = true := by kernel_rfl
theorem FnExactBitWiden_k5 : ((Rows.fnExactBitWidenRow.stops == [])) = true := by kernel_rfl
theorem FnExactBitWiden_k7 : ((Rows.fnExactBitWidenRow.knobs == [])) = true := by kernel_rfl
theorem FnExactBitWiden_k9 : ((Rows.fnExactBitWidenRow.inPlace == Try.prog.inPlace 17)) = true := by kernel_rfl
theorem FnExactBitWiden_k10 : ((Rows.fnExactBitWidenRow.unfollowed == Try.prog.unfollowed 17)) = true := by kernel_rfl
theorem FnExactBitWiden_k11 : ((Rows.fnExactBitWidenRow.recurses == Try.prog.recurses 17)) = true := by kernel_rfl
theorem FnExactBitWiden_k12 : ((Rows.fnExactBitWidenRow.named == Try.prog.varsNamed 17)) = true := by kernel_rfl
theorem FnExactBitWiden_k13 : ((Rows.fnExactBitWidenRow.maps == (Try.f17.params.toList ++ Rows.fnExactBitWidenSpec.plain.varTypes Try.prog).any (Try.prog.mapsRec ·))) = true := by kernel_rfl
theorem FnExactBitWiden_k14 : ((Rows.fnExactBitWidenRow.ifaces == (Try.f17.params.toList ++ Rows.fnExactBitWidenSpec.plain.varTypes Try.prog).any (Try.prog.ifacesRec ·))) = true := by kernel_rfl
theorem FnExactBitWiden_k15 : ((Rows.fnExactBitWidenRow.mapsOut == Try.prog.mapsAmong Try.f17.resultTypes.toList)) = true := by kernel_rfl
theorem FnExactBitWiden_k16 : ((Rows.fnExactBitWidenRow.loops == (Try.f17.params.toList ++ Rows.fnExactBitWidenSpec.plain.varTypes Try.prog).any (Try.prog.loopsFrom ·))) = true := by kernel_rfl
theorem FnExactBitWiden_k17 : ((Rows.fnExactBitWidenRow.wideKeys == (Try.f17.params.toList ++ Rows.fnExactBitWidenSpec.plain.varTypes Try.prog ++ Try.f17.resultTypes.toList).any (Try.prog.wideKeysFrom ·))) = true := by kernel_rfl
theorem FnExactBitWiden_k18 : (Rows.fnExactBitWidenSpec.vars.all (Try.prog.varReadable ·)) = true := by kernel_rfl
theorem FnExactBitWiden_k19 : (Try.f17.resultTypes.all (fun t => Try.prog.readableRec t && decide (t < Try.prog.types.size))) = true := by kernel_rfl
theorem FnExactBitWiden_k20 : ((Rows.fnExactBitWidenRow.ifacesOut == Try.f17.resultTypes.toList.any (Try.prog.ifacesRec ·))) = true := by kernel_rfl
theorem FnExactBitWiden_k21 : ((Rows.fnExactBitWidenRow.loopsOut == Try.f17.resultTypes.toList.any (Try.prog.loopsFrom ·))) = true := by kernel_rfl
theorem FnExactBitWiden_k23 : (Rows.fnExactBitWidenRow.shortTexts.isNone) = true := by kernel_rfl
theorem FnExactBitWiden_k28 : ((Rows.fnExactBitWidenRow.kinds == (if Rows.fnExactBitWidenRow.domain.isEmpty then [] else Try.f17.params.toList.map fun t => match Try.prog.underlying t with | some (.int k) => some k | _ => none))) = true := by kernel_rfl
theorem FnExactBitWiden_k29 : ((Rows.fnExactBitWidenRow.pinned == Rows.fnExactBitWidenRow.pinnedBy)) = true := by kernel_rfl
theorem FnExactBitWiden_k30 : ((Rows.fnExactBitWidenRow.veiled == (Try.f17.params.toList ++ Rows.fnExactBitWidenSpec.plain.varTypes Try.prog ++ Try.f17.resultTypes.toList).any (Try.prog.veiledRec ·))) = true := by kernel_rfl
theorem FnExactBitWiden_k31 : (Rows.fnExactBitWidenRow.veiledFits Try.prog Try.f17.params.toList (Try.f17.params.toList ++ Rows.fnExactBitWidenSpec.plain.varTypes Try.prog ++ Try.f17.resultTypes.toList)) = true := by kernel_rfl
theorem FnExactBitWiden_closed : joinedFacts Try.prog 17 Try.f17 Rows.fnExactBitWidenSpec Rows.fnExactBitWidenRow = true := (and2 (and2 (and2 (and2 (and2 (and2 (and2 (and2 (and2 (and2 (and2 (and2 (and2 (and2 (and2 (and2 (and2 (and2 (and2 (and2 (and2 (and2 (and2 (and2 (and2 (and2 (and2 (and2 (and2 (and2 (and2 FnExactBitWiden_k0 jf1) jf2) FnExactBitWiden_k3) FnExactBitWiden_k4) FnExactBitWiden_k5) jf6) FnExactBitWiden_k7) jf8) FnExactBitWiden_k9) FnExactBitWiden_k10) FnExactBitWiden_k11) FnExactBitWiden_k12) FnExactBitWiden_k13) FnExactBitWiden_k14) FnExactBitWiden_k15) FnExactBitWiden_k16) FnExactBitWiden_k17) FnExactBitWiden_k18) FnExactBitWiden_k19) FnExactBitWiden_k20) FnExactBitWiden_k21) jf22) FnExactBitWiden_k23) jf24) jf25) jf26) jf27) FnExactBitWiden_k28) FnExactBitWiden_k29) FnExactBitWiden_k30) FnExactBitWiden_k31)
theorem FnExactBitWiden_over : Rows.fnExactBitWidenRow.holds Try.pinned (OpenSpec.ofChange Rows.fnExactBitWidenSpec) :=
  OpenClaim.holds_of_wide 17 Try.f17 rfl rfl rfl rfl rfl rfl rfl ⟨rfl, rfl, rfl, rfl, rfl⟩ rfl rfl rfl rfl rfl (by kernel_rfl) Try.func17 FnExactBitWiden_closed
    (of_decide_eq_true (by kernel_rfl)) (by unfold Func.isWrapper; first | (rw [if_pos (by decide +kernel)]; kernel_rfl) | (rw [if_neg (by decide +kernel)]; exact ⟨rfl, rfl⟩))
    (fun os started H enc _ => FnExactBitWiden_lifted os started H enc)

theorem FnExactBitWiden_proved : Rows.FnExactBitWidenSaid :=
  FnExactBitWiden_over
end Go.Proofs.Ytljmmaaaeojbpaa
