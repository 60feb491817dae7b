/- The program's BitGap answers as the specification's BitGap at every argument; nothing that was there is written. No condition. -/
import Derived.Test.YtljmmaaaeojbpaaRows
import Derived.WalkKit
import Derived.ProofKit
import Derived.OpenShut
import Derived.ShutString
import Derived.Test.YtljmmaaaeojbpaaW7
import Derived.Test.YtljmmaaaeojbpaaJ0
import Derived.Test.YtljmmaaaeojbpaaJ1
import Derived.Test.YtljmmaaaeojbpaaJ2
import Derived.Test.YtljmmaaaeojbpaaJ3
namespace Go.Proofs.Ytljmmaaaeojbpaa
open Go.ChangeShapes Go.WideShapes Go.ChangeAt Go.RowKit
open Go.ChangeMaps (open_string shut_string)
set_option linter.unusedVariables false

theorem FnExactBitGap_own : ownKnob Try.prog.godebug = none := by kernel_rfl

set_option maxHeartbeats 1000000 in
theorem FnExactBitGap_walk (a0 : Int) (a1 : Int) (w0 : (Lit.int .i64 a0).wf = true) (w1 : (Lit.int .i64 a1).wf = true) (w : World) :
    Calls Try.prog 15 #[.int .i64 a0, .int .i64 a1] w fun e w' => e = .returned (.bool true) ∧ Below w.heap.size w w' := by
  obtain ⟨l1, l2⟩ := bounds_i64 w0
  obtain ⟨k1, k2⟩ := bounds_i64 w1
  go_enter Try.func15, Try.ntmps15
  go_wp2_with (first | (go_at_call 37; refine (sGap _ _ l1 l2 k1 k2 _).mono ?_; rintro e w1 ⟨rfl, hb1⟩) | (go_at_call 36; refine (iGap _ _ l1 l2 k1 k2 _).mono ?_; rintro e w2 ⟨rfl, hb2⟩) | go_in)
  go_ret
  exact ⟨rfl, (by repeat (first | exact Below.refl _ _ | refine Below.drew ?_ | refine old_alloc ?_ _ | refine old_trans ?_ (by assumption)))⟩
set_option maxRecDepth 100000 in
theorem FnExactBitGap_lifted (os : Os) (started : os.Started) (H : Type) (enc : TypeId × Value → H) :
    ReturnsInHanded {} Try.checked os 15 .any (Rows.fnExactBitGapSpec.pre6 enc Try.prog Try.f15 Rows.fnExactBitGapRow.domain false) (Rows.fnExactBitGapSpec.post enc Try.prog Try.f15 false true false false) := by
  refine returnsInHanded_of_change (C := Try.checked) FnExactBitGap_own started (by kernel_rfl) Try.func15
    (ChangeSpec.witness6 (enc := enc) (C := Try.checked) false ⟨#[], #[.int .i64 0, .int .i64 0], []⟩ 8 (by kernel_rfl) (by kernel_rfl) (by kernel_rfl) (by kernel_rfl)) ?_
  intro W base args ds gs before hval0 hW hcnd _
  have hval : ∀ (j : Nat) t v, Try.f15.params[j]? = some t → args[j]? = some v → Value.okWide Try.prog W .any base t v := hval0
  have hW' := hW
  obtain ⟨p, q, hA0, hV, rfl, hfz, hnd⟩ := hW
  have hA : DataW.TrodAll enc Try.prog W 0 (fun _ => true) true Try.f15.params.toList args.toList ds p := hA0
  rw [Try.params15] at hA hval
  obtain ⟨v0, vs0, d0, ds0, p0, q0, hargs, rfl, rfl, h0, r0⟩ := trodAll_cons hA
  obtain ⟨v1, vs1, d1, ds1, p1, q1, rfl, rfl, rfl, h1, r1⟩ := trodAll_cons r0
  obtain ⟨rfl, rfl, rfl⟩ := trodAll_nil r1
  obtain rfl : args = #[v0, v1] := by cases args; simp_all
  obtain ⟨rfl, rfl⟩ := trodVars_none hV
  obtain ⟨a0, rfl, rfl, rfl, w0⟩ := open_int Try.underlying3 (hval 0 3 v0 rfl rfl) h0
  obtain ⟨a1, rfl, rfl, rfl, w1⟩ := open_int Try.underlying3 (hval 1 3 v1 rfl rfl) h1
  clear hA0 hval0
  simp only [List.append_nil] at hW'
  refine (FnExactBitGap_walk a0 a1 w0 w1 W).mono fun e W' ⟨he, hg⟩ => ?_
  subst he
  exact ⟨_, rfl, _, _, _, [], [], [], hW', (trodAll_cons_mk (shut_bool Try.underlying4 _) trodAll_mk0), (trodAll_cons_mk (shut_int Try.underlying3 w0) (trodAll_cons_mk (shut_int Try.underlying3 w1) trodAll_mk0)), rfl, hg.frame _, fun h => by cases h⟩

theorem FnExactBitGap_k0 : (Rows.fnExactBitGapRow.wf (OpenSpec.ofChange Rows.fnExactBitGapSpec)) = true := by kernel_rfl
theorem FnExactBitGap_k3 : (Try.f15.params.all (Try.prog.readableRec ·)) = true := by kernel_rfl
theorem FnExactBitGap_k4 : (namedTie Try.prog Rows.fnExactBitGapRow.named Rows.fnExactBitGapSpec.vars) = true := by kernel_rfl
theorem FnExactBitGap_k5 : ((Rows.fnExactBitGapRow.stops == [])) = true := by kernel_rfl
theorem FnExactBitGap_k7 : ((Rows.fnExactBitGapRow.knobs == [])) = true := by kernel_rfl
theorem FnExactBitGap_k9 : ((Rows.fnExactBitGapRow.inPlace == Try.prog.inPlace 15)) = true := by kernel_rfl
theorem FnExactBitGap_k10 : ((Rows.fnExactBitGapRow.unfollowed == Try.prog.unfollowed 15)) = true := by kernel_rfl
theorem FnExactBitGap_k11 : ((Rows.fnExactBitGapRow.recurses == Try.prog.recurses 15)) = true := by kernel_rfl
theorem FnExactBitGap_k12 : ((Rows.fnExactBitGapRow.named == Try.prog.varsNamed 15)) = true := by kernel_rfl
theorem FnExactBitGap_k13 : ((Rows.fnExactBitGapRow.maps == (Try.f15.params.toList ++ Rows.fnExactBitGapSpec.plain.varTypes Try.prog).any (Try.prog.mapsRec ·))) = true := by kernel_rfl
theorem FnExactBitGap_k14 : ((Rows.fnExactBitGapRow.ifaces == (Try.f15.params.toList ++ Rows.fnExactBitGapSpec.plain.varTypes Try.prog).any (Try.prog.ifacesRec ·))) = true := by kernel_rfl
theorem FnExactBitGap_k15 : ((Rows.fnExactBitGapRow.mapsOut == Try.prog.mapsAmong Try.f15.resultTypes.toList)) = true := by kernel_rfl
theorem FnExactBitGap_k16 : ((Rows.fnExactBitGapRow.loops == (Try.f15.params.toList ++ Rows.fnExactBitGapSpec.plain.varTypes Try.prog).any (Try.prog.loopsFrom ·))) = true := by kernel_rfl
theorem FnExactBitGap_k17 : ((Rows.fnExactBitGapRow.wideKeys == (Try.f15.params.toList ++ Rows.fnExactBitGapSpec.plain.varTypes Try.prog ++ Try.f15.resultTypes.toList).any (Try.prog.wideKeysFrom ·))) = true := by kernel_rfl
theorem FnExactBitGap_k18 : (Rows.fnExactBitGapSpec.vars.all (Try.prog.varReadable ·)) = true := by kernel_rfl
theorem FnExactBitGap_k19 : (Try.f15.resultTypes.all (fun t => Try.prog.readableRec t && decide (t < Try.prog.types.size))) = true := by kernel_rfl
theorem FnExactBitGap_k20 : ((Rows.fnExactBitGapRow.ifacesOut == Try.f15.resultTypes.toList.any (Try.prog.ifacesRec ·))) = true := by kernel_rfl
theorem FnExactBitGap_k21 : ((Rows.fnExactBitGapRow.loopsOut == Try.f15.resultTypes.toList.any (Try.prog.loopsFrom ·))) = true := by kernel_rfl
theorem FnExactBitGap_k23 : (Rows.fnExactBitGapRow.shortTexts.isNone) = true := by kernel_rfl
theorem FnExactBitGap_k28 : ((Rows.fnExactBitGapRow.kinds == (if Rows.fnExactBitGapRow.domain.isEmpty then [] else Try.f15.params.toList.map fun t => match Try.prog.underlying t with | some (.int k) => some k | _ => none))) = true := by kernel_rfl
theorem FnExactBitGap_k29 : ((Rows.fnExactBitGapRow.pinned == Rows.fnExactBitGapRow.pinnedBy)) = true := by kernel_rfl
theorem FnExactBitGap_k30 : ((Rows.fnExactBitGapRow.veiled == (Try.f15.params.toList ++ Rows.fnExactBitGapSpec.plain.varTypes Try.prog ++ Try.f15.resultTypes.toList).any (Try.prog.veiledRec ·))) = true := by kernel_rfl
theorem FnExactBitGap_k31 : (Rows.fnExactBitGapRow.veiledFits Try.prog Try.f15.params.toList (Try.f15.params.toList ++ Rows.fnExactBitGapSpec.plain.varTypes Try.prog ++ Try.f15.resultTypes.toList)) = true := by kernel_rfl
theorem FnExactBitGap_closed : joinedFacts Try.prog 15 Try.f15 Rows.fnExactBitGapSpec Rows.fnExactBitGapRow = true := (and2 (and2 (and2 (and2 (and2 (and2 (and2 (and2 (and2 (and2 (and2 (and2 (and2 (and2 (and2 (and2 (and2 (and2 (and2 (and2 (and2 (and2 (and2 (and2 (and2 (and2 (and2 (and2 (and2 (and2 (and2 FnExactBitGap_k0 jf1) jf2) FnExactBitGap_k3) FnExactBitGap_k4) FnExactBitGap_k5) jf6) FnExactBitGap_k7) jf8) FnExactBitGap_k9) FnExactBitGap_k10) FnExactBitGap_k11) FnExactBitGap_k12) FnExactBitGap_k13) FnExactBitGap_k14) FnExactBitGap_k15) FnExactBitGap_k16) FnExactBitGap_k17) FnExactBitGap_k18) FnExactBitGap_k19) FnExactBitGap_k20) FnExactBitGap_k21) jf22) FnExactBitGap_k23) jf24) jf25) jf26) jf27) FnExactBitGap_k28) FnExactBitGap_k29) FnExactBitGap_k30) FnExactBitGap_k31)
theorem FnExactBitGap_over : Rows.fnExactBitGapRow.holds Try.pinned (OpenSpec.ofChange Rows.fnExactBitGapSpec) :=
  OpenClaim.holds_of_wide 15 Try.f15 rfl rfl rfl rfl rfl rfl rfl ⟨rfl, rfl, rfl, rfl, rfl⟩ rfl rfl rfl rfl rfl (by kernel_rfl) Try.func15 FnExactBitGap_closed
    (of_decide_eq_true (by kernel_rfl)) (by unfold Func.isWrapper; first | (rw [if_pos (by decide +kernel)]; kernel_rfl) | (rw [if_neg (by decide +kernel)]; exact ⟨rfl, rfl⟩))
    (fun os started H enc _ => FnExactBitGap_lifted os started H enc)

theorem FnExactBitGap_proved : Rows.FnExactBitGapSaid :=
  FnExactBitGap_over
end Go.Proofs.Ytljmmaaaeojbpaa
