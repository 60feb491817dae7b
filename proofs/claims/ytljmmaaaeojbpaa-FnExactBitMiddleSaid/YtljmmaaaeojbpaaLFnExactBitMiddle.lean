/- The program's BitMiddle answers as the specification's BitMiddle at every argument; nothing that was there is written. No condition. -/
import Derived.Test.YtljmmaaaeojbpaaRows
import Derived.WalkKit
import Derived.ProofKit
import Derived.OpenShut
import Derived.ShutString
import Derived.Test.YtljmmaaaeojbpaaW7
import Derived.Test.YtljmmaaaeojbpaaJ0
import Derived.Test.YtljmmaaaeojbpaaJ1
import Derived.Test.YtljmmaaaeojbpaaJ2
import Derived.Test.YtljmmaaaeojbpaaJ3
namespace Go.Proofs.Ytljmmaaaeojbpaa
open Go.ChangeShapes Go.WideShapes Go.ChangeAt Go.RowKit
open Go.ChangeMaps (open_string shut_string)
set_option linter.unusedVariables false

theorem FnExactBitMiddle_own : ownKnob Try.prog.godebug = none := by kernel_rfl

set_option maxHeartbeats 1000000 in
theorem FnExactBitMiddle_walk (a0 : Int) (a1 : Int) (w0 : (Lit.int .i64 a0).wf = true) (w1 : (Lit.int .i64 a1).wf = true) (w : World) :
    Calls Try.prog 16 #[.int .i64 a0, .int .i64 a1] w fun e w' => e = .returned (.bool true) ∧ Below w.heap.size w w' := by
  obtain ⟨l1, l2⟩ := bounds_i64 w0
  obtain ⟨k1, k2⟩ := bounds_i64 w1
  go_enter Try.func16, Try.ntmps16
  go_wp2_with (first | (go_at_call 49; refine (sMid _ _ l1 l2 k1 k2 _).mono ?_; rintro e w1 ⟨rfl, hb1⟩) | (go_at_call 35; refine (iMid _ _ l1 l2 k1 k2 _).mono ?_; rintro e w2 ⟨rfl, hb2⟩) | go_in)
  go_ret
  exact ⟨rfl, (by repeat (first | exact Below.refl _ _ | refine Below.drew ?_ | refine old_alloc ?_ _ | refine old_trans ?_ (by assumption)))⟩
set_option maxRecDepth 100000 in
theorem FnExactBitMiddle_lifted (os : Os) (started : os.Started) (H : Type) (enc : TypeId × Value → H) :
    ReturnsInHanded {} Try.checked os 16 .any (Rows.fnExactBitMiddleSpec.pre6 enc Try.prog Try.f16 Rows.fnExactBitMiddleRow.domain false) (Rows.fnExactBitMiddleSpec.post enc Try.prog Try.f16 false true false false) := by
  refine returnsInHanded_of_change (C := Try.checked) FnExactBitMiddle_own started (by kernel_rfl) Try.func16
    (ChangeSpec.witness6 (enc := enc) (C := Try.checked) false ⟨#[], #[.int .i64 0, .int .i64 0], []⟩ 8 (by kernel_rfl) (by kernel_rfl) (by kernel_rfl) (by kernel_rfl)) ?_
  intro W base args ds gs before hval0 hW hcnd _
  have hval : ∀ (j : Nat) t v, Try.f16.params[j]? = some t → args[j]? = some v → Value.okWide Try.prog W .any base t v := hval0
  have hW' := hW
  obtain ⟨p, q, hA0, hV, rfl, hfz, hnd⟩ := hW
  have hA : DataW.TrodAll enc Try.prog W 0 (fun _ => true) true Try.f16.params.toList args.toList ds p := hA0
  rw [Try.params16] at hA hval
  obtain ⟨v0, vs0, d0, ds0, p0, q0, hargs, rfl, rfl, h0, r0⟩ := trodAll_cons hA
  obtain ⟨v1, vs1, d1, ds1, p1, q1, rfl, rfl, rfl, h1, r1⟩ := trodAll_cons r0
  obtain ⟨rfl, rfl, rfl⟩ := trodAll_nil r1
  obtain rfl : args = #[v0, v1] := by cases args; simp_all
  obtain ⟨rfl, rfl⟩ := trodVars_none hV
  obtain ⟨a0, rfl, rfl, rfl, w0⟩ := open_int Try.underlying3 (hval 0 3 v0 rfl rfl) h0
  obtain ⟨a1, rfl, rfl, rfl, w1⟩ := open_int Try.underlying3 (hval 1 3 v1 rfl rfl) h1
  clear hA0 hval0
  simp only [List.append_nil] at hW'
  refine (FnExactBitMiddle_walk a0 a1 w0 w1 W).mono fun e W' ⟨he, hg⟩ => ?_
  subst he
  exact ⟨_, rfl, _, _, _, [], [], [], hW', (trodAll_cons_mk (shut_bool Try.underlying4 _) trodAll_mk0), (trodAll_cons_mk (shut_int Try.underlying3 w0) (trodAll_cons_mk (shut_int Try.underlying3 w1) trodAll_mk0)), rfl, hg.frame _, fun h => by cases h⟩

theorem FnExactBitMiddle_k0 : (Rows.fnExactBitMiddleRow.wf (OpenSpec.ofChange Rows.fnExactBitMiddleSpec)) = true := by kernel_rfl
theorem FnExactBitMiddle_k3 : (Try.f16.params.all (Try.prog.readableRec ·)) = true := by kernel_rfl
theorem FnExactBitMiddle_k4 : (namedTie Try.prog Rows.fnExactBitMiddleRow.named Rows.fnExactBitMiddleSpec.vars) = true := by kernel_rfl
theorem FnExactBitMiddle_k5 : ((Rows.fnExactBitMiddleRow.stops == [])) = true := by kernel_rfl
theorem FnExactBitMiddle_k7 : ((Rows.fnExactBitMiddleRow.knobs == [])) = true := by kernel_rfl
theorem FnExactBitMiddle_k9 : ((Rows.fnExactBitMiddleRow.inPlace == Try.prog.inPlace 16)) = true := by kernel_rfl
theorem FnExactBitMiddle_k10 : ((Rows.fnExactBitMiddleRow.unfollowed == Try.prog.unfollowed 16)) = true := by kernel_rfl
theorem FnExactBitMiddle_k11 : ((Rows.fnExactBitMiddleRow.recurses == Try.prog.recurses 16)) = true := by kernel_rfl
theorem FnExactBitMiddle_k12 : ((Rows.fnExactBitMiddleRow.named == Try.prog.varsNamed 16)) = true := by kernel_rfl
theorem FnExactBitMiddle_k13 : ((Rows.fnExactBitMiddleRow.maps == (Try.f16.params.toList ++ Rows.fnExactBitMiddleSpec.plain.varTypes Try.prog).any (Try.prog.mapsRec ·))) = true := by kernel_rfl
theorem FnExactBitMiddle_k14 : ((Rows.fnExactBitMiddleRow.ifaces == (Try.f16.params.toList ++ Rows.fnExactBitMiddleSpec.plain.varTypes Try.prog).any (Try.prog.ifacesRec ·))) = true := by kernel_rfl
theorem FnExactBitMiddle_k15 : ((Rows.fnExactBitMiddleRow.mapsOut == Try.prog.mapsAmong Try.f16.resultTypes.toList)) = true := by kernel_rfl
theorem FnExactBitMiddle_k16 : ((Rows.fnExactBitMiddleRow.loops == (Try.f16.params.toList ++ Rows.fnExactBitMiddleSpec.plain.varTypes Try.prog).any (Try.prog.loopsFrom ·))) = true := by kernel_rfl
theorem FnExactBitMiddle_k17 : ((Rows.fnExactBitMiddleRow.wideKeys == (Try.f16.params.toList ++ Rows.fnExactBitMiddleSpec.plain.varTypes Try.prog ++ Try.f16.resultTypes.toList).any (Try.prog.wideKeysFrom ·))) = true := by kernel_rfl
theorem FnExactBitMiddle_k18 : (Rows.fnExactBitMiddleSpec.vars.all (Try.prog.varReadable ·)) = true := by kernel_rfl
theorem FnExactBitMiddle_k19 : (Try.f16.resultTypes.all (fun t => Try.prog.readableRec t && decide (t < Try.prog.types.size))) = true := by kernel_rfl
theorem FnExactBitMiddle_k20 : ((Rows.fnExactBitMiddleRow.ifacesOut == Try.f16.resultTypes.toList.any (Try.prog.ifacesRec ·))) = true := by kernel_rfl
theorem FnExactBitMiddle_k21 : ((Rows.fnExactBitMiddleRow.loopsOut == Try.f16.resultTypes.toList.any (Try.prog.loopsFrom ·))) = true := by kernel_rfl
theorem FnExactBitMiddle_k23 : (Rows.fnExactBitMiddleRow.shortTexts.isNone) = true := by kernel_rfl
theorem FnExactBitMiddle_k28 : ((Rows.fnExactBitMiddleRow.kinds == (if Rows.fnExactBitMiddleRow.domain.isEmpty then [] else Try.f16.params.toList.map fun t => match Try.prog.underlying t with | some (.int k) => some k | _ => none))) = true := by kernel_rfl
theorem FnExactBitMiddle_k29 : ((Rows.fnExactBitMiddleRow.pinned == Rows.fnExactBitMiddleRow.pinnedBy)) = true := by kernel_rfl
theorem FnExactBitMiddle_k30 : ((Rows.fnExactBitMiddleRow.veiled == (Try.f16.params.toList ++ Rows.fnExactBitMiddleSpec.plain.varTypes Try.prog ++ Try.f16.resultTypes.toList).any (Try.prog.veiledRec ·))) = true := by kernel_rfl
theorem FnExactBitMiddle_k31 : (Rows.fnExactBitMiddleRow.veiledFits Try.prog Try.f16.params.toList (Try.f16.params.toList ++ Rows.fnExactBitMiddleSpec.plain.varTypes Try.prog ++ Try.f16.resultTypes.toList)) = true := by kernel_rfl
theorem FnExactBitMiddle_closed : joinedFacts Try.prog 16 Try.f16 Rows.fnExactBitMiddleSpec Rows.fnExactBitMiddleRow = true := (and2 (and2 (and2 (and2 (and2 (and2 (and2 (and2 (and2 (and2 (and2 (and2 (and2 (and2 (and2 (and2 (and2 (and2 (and2 (and2 (and2 (and2 (and2 (and2 (and2 (and2 (and2 (and2 (and2 (and2 (and2 FnExactBitMiddle_k0 jf1) jf2) FnExactBitMiddle_k3) FnExactBitMiddle_k4) FnExactBitMiddle_k5) jf6) FnExactBitMiddle_k7) jf8) FnExactBitMiddle_k9) FnExactBitMiddle_k10) FnExactBitMiddle_k11) FnExactBitMiddle_k12) FnExactBitMiddle_k13) FnExactBitMiddle_k14) FnExactBitMiddle_k15) FnExactBitMiddle_k16) FnExactBitMiddle_k17) FnExactBitMiddle_k18) FnExactBitMiddle_k19) FnExactBitMiddle_k20) FnExactBitMiddle_k21) jf22) FnExactBitMiddle_k23) jf24) jf25) jf26) jf27) FnExactBitMiddle_k28) FnExactBitMiddle_k29) FnExactBitMiddle_k30) FnExactBitMiddle_k31)
theorem FnExactBitMiddle_over : Rows.fnExactBitMiddleRow.holds Try.pinned (OpenSpec.ofChange Rows.fnExactBitMiddleSpec) :=
  OpenClaim.holds_of_wide 16 Try.f16 rfl rfl rfl rfl rfl rfl rfl ⟨rfl, rfl, rfl, rfl, rfl⟩ rfl rfl rfl rfl rfl (by kernel_rfl) Try.func16 FnExactBitMiddle_closed
    (of_decide_eq_true (by kernel_rfl)) (by unfold Func.isWrapper; first | (rw [if_pos (by decide +kernel)]; kernel_rfl) | (rw [if_neg (by decide +kernel)]; exact ⟨rfl, rfl⟩))
    (fun os started H enc _ => FnExactBitMiddle_lifted os started H enc)

theorem FnExactBitMiddle_proved : Rows.FnExactBitMiddleSaid :=
  FnExactBitMiddle_over
end Go.Proofs.Ytljmmaaaeojbpaa
