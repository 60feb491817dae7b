/- The program's BitAbove answers as the specification's BitAbove at every argument; nothing that was there is written. No condition. -/
import Derived.Test.YtljmmaaaeojbpaaRows
import Derived.WalkKit
import Derived.ProofKit
import Derived.OpenShut
import Derived.ShutString
import Derived.Test.YtljmmaaaeojbpaaB1
import Derived.Test.YtljmmaaaeojbpaaJ0
import Derived.Test.YtljmmaaaeojbpaaJ1
import Derived.Test.YtljmmaaaeojbpaaJ2
import Derived.Test.YtljmmaaaeojbpaaJ3
namespace Go.Proofs.Ytljmmaaaeojbpaa
open Go.ChangeShapes Go.WideShapes Go.ChangeAt Go.RowKit
open Go.ChangeMaps (open_string shut_string)
set_option linter.unusedVariables false

theorem FnExactBitAbove_own : ownKnob Try.prog.godebug = none := by kernel_rfl

set_option maxHeartbeats 1000000 in
theorem FnExactBitAbove_walk (a0 : Int) (w0 : (Lit.int .i64 a0).wf = true) (w : World) :
    Calls Try.prog 19 #[.int .i64 a0] w fun e w' => e = .returned (.bool true) ∧ Below w.heap.size w w' := by
  obtain ⟨e1, e2⟩ := bounds_i64 w0
  by_cases c : -9218868437227405312 ≤ a0 ∧ a0 ≤ 9218868437227405312
  · obtain ⟨d1, d2⟩ := c
    go_enter Try.func19, Try.ntmps19
    go_wp2_with fail
    refine (sBitAbove _ d1 d2 _).mono ?_
    rintro e w1 ⟨⟨n, hn, rfl⟩, hb1⟩
    go_wp2_with fail
    refine (iBitAbove _ d1 d2 _).mono ?_
    rintro e w2 ⟨⟨m, hm, rfl⟩, hb2⟩
    obtain rfl := hn.one hm
    go_wp2
    go_ret
    exact ⟨rfl, (by repeat (first | exact Below.refl _ _ | refine Below.drew ?_ | refine old_alloc ?_ _ | refine old_trans ?_ (by assumption)))⟩
  · go_enter Try.func19, Try.ntmps19
    go_wp2_with (first | (go_at_call 52; refine (sBitAbove_out _ c e1 e2 _).mono ?_; rintro e w1 ⟨rfl, hb1⟩) | (go_at_call 31; refine (iBitAbove_out _ c _).mono ?_; rintro e w2 ⟨rfl, hb2⟩) | go_in)
    go_ret
    exact ⟨rfl, (by repeat (first | exact Below.refl _ _ | refine Below.drew ?_ | refine old_alloc ?_ _ | refine old_trans ?_ (by assumption)))⟩
set_option maxRecDepth 100000 in
theorem FnExactBitAbove_lifted (os : Os) (started : os.Started) (H : Type) (enc : TypeId × Value → H) :
    ReturnsInHanded {} Try.checked os 19 .any (Rows.fnExactBitAboveSpec.pre6 enc Try.prog Try.f19 Rows.fnExactBitAboveRow.domain false) (Rows.fnExactBitAboveSpec.post enc Try.prog Try.f19 false true false false) := by
  refine returnsInHanded_of_change (C := Try.checked) FnExactBitAbove_own started (by kernel_rfl) Try.func19
    (ChangeSpec.witness6 (enc := enc) (C := Try.checked) false ⟨#[], #[.int .i64 0], []⟩ 8 (by kernel_rfl) (by kernel_rfl) (by kernel_rfl) (by kernel_rfl)) ?_
  intro W base args ds gs before hval0 hW hcnd _
  have hval : ∀ (j : Nat) t v, Try.f19.params[j]? = some t → args[j]? = some v → Value.okWide Try.prog W .any base t v := hval0
  have hW' := hW
  obtain ⟨p, q, hA0, hV, rfl, hfz, hnd⟩ := hW
  have hA : DataW.TrodAll enc Try.prog W 0 (fun _ => true) true Try.f19.params.toList args.toList ds p := hA0
  rw [Try.params19] at hA hval
  obtain ⟨v0, vs0, d0, ds0, p0, q0, hargs, rfl, rfl, h0, r0⟩ := trodAll_cons hA
  obtain ⟨rfl, rfl, rfl⟩ := trodAll_nil r0
  obtain rfl : args = #[v0] := by cases args; simp_all
  obtain ⟨rfl, rfl⟩ := trodVars_none hV
  obtain ⟨a0, rfl, rfl, rfl, w0⟩ := open_int Try.underlying3 (hval 0 3 v0 rfl rfl) h0
  clear hA0 hval0
  simp only [List.append_nil] at hW'
  refine (FnExactBitAbove_walk a0 w0 W).mono fun e W' ⟨he, hg⟩ => ?_
  subst he
  exact ⟨_, rfl, _, _, _, [], [], [], hW', (trodAll_cons_mk (shut_bool Try.underlying4 _) trodAll_mk0), (trodAll_cons_mk (shut_int Try.underlying3 w0) trodAll_mk0), rfl, hg.frame _, fun h => by cases h⟩

theorem FnExactBitAbove_k0 : (Rows.fnExactBitAboveRow.wf (OpenSpec.ofChange Rows.fnExactBitAboveSpec)) = true := by kernel_rfl
theorem FnExactBitAbove_k3 : (Try.f19.params.all (Try.prog.readableRec ·)) = true := by kernel_rfl
theorem FnExactBitAbove_k4 : (namedTie Try.prog Rows.fnExactBitAboveRow.named Rows.fnExactBitAboveSpec.vars) = true := by kernel_rfl
theorem FnExactBitAbove_k5 : ((Rows.fnExactBitAboveRow.stops == [])) = true := by kernel_rfl
theorem FnExactBitAbove_k7 : ((Rows.fnExactBitAboveRow.knobs == [])) = true := by kernel_rfl
theorem FnExactBitAbove_k9 : ((Rows.fnExactBitAboveRow.inPlace == Try.prog.inPlace 19)) = true := by kernel_rfl
theorem FnExactBitAbove_k10 : ((Rows.fnExactBitAboveRow.unfollowed == Try.prog.unfollowed 19)) = true := by kernel_rfl
theorem FnExactBitAbove_k11 : ((Rows.fnExactBitAboveRow.recurses == Try.prog.recurses 19)) = true := by kernel_rfl
theorem FnExactBitAbove_k12 : ((Rows.fnExactBitAboveRow.named == Try.prog.varsNamed 19)) = true := by kernel_rfl
theorem FnExactBitAbove_k13 : ((Rows.fnExactBitAboveRow.maps == (Try.f19.params.toList ++ Rows.fnExactBitAboveSpec.plain.varTypes Try.prog).any (Try.prog.mapsRec ·))) = true := by kernel_rfl
theorem FnExactBitAbove_k14 : ((Rows.fnExactBitAboveRow.ifaces == (Try.f19.params.toList ++ Rows.fnExactBitAboveSpec.plain.varTypes Try.prog).any (Try.prog.ifacesRec ·))) = true := by kernel_rfl
theorem FnExactBitAbove_k15 : ((Rows.fnExactBitAboveRow.mapsOut == Try.prog.mapsAmong Try.f19.resultTypes.toList)) = true := by kernel_rfl
theorem FnExactBitAbove_k16 : ((Rows.fnExactBitAboveRow.loops == (Try.f19.params.toList ++ Rows.fnExactBitAboveSpec.plain.varTypes Try.prog).any (Try.prog.loopsFrom ·))) = true := by kernel_rfl
theorem FnExactBitAbove_k17 : ((Rows.fnExactBitAboveRow.wideKeys == (Try.f19.params.toList ++ Rows.fnExactBitAboveSpec.plain.varTypes Try.prog ++ Try.f19.resultTypes.toList).any (Try.prog.wideKeysFrom ·))) = true := by kernel_rfl
theorem FnExactBitAbove_k18 : (Rows.fnExactBitAboveSpec.vars.all (Try.prog.varReadable ·)) = true := by kernel_rfl
theorem FnExactBitAbove_k19 : (Try.f19.resultTypes.all (fun t => Try.prog.readableRec t && decide (t < Try.prog.types.size))) = true := by kernel_rfl
theorem FnExactBitAbove_k20 : ((Rows.fnExactBitAboveRow.ifacesOut == Try.f19.resultTypes.toList.any (Try.prog.ifacesRec ·))) = true := by kernel_rfl
theorem FnExactBitAbove_k21 : ((Rows.fnExactBitAboveRow.loopsOut == Try.f19.resultTypes.toList.any (Try.prog.loopsFrom ·))) = true := by kernel_rfl
theorem FnExactBitAbove_k23 : (Rows.fnExactBitAboveRow.shortTexts.isNone) = true := by kernel_rfl
theorem FnExactBitAbove_k28 : ((Rows.fnExactBitAboveRow.kinds == (if Rows.fnExactBitAboveRow.domain.isEmpty then [] else Try.f19.params.toList.map fun t => match Try.prog.underlying t with | some (.int k) => some k | _ => none))) = true := by kernel_rfl
theorem FnExactBitAbove_k29 : ((Rows.fnExactBitAboveRow.pinned == Rows.fnExactBitAboveRow.pinnedBy)) = true := by kernel_rfl
theorem FnExactBitAbove_k30 : ((Rows.fnExactBitAboveRow.veiled == (Try.f19.params.toList ++ Rows.fnExactBitAboveSpec.plain.varTypes Try.prog ++ Try.f19.resultTypes.toList).any (Try.prog.veiledRec ·))) = true := by kernel_rfl
theorem FnExactBitAbove_k31 : (Rows.fnExactBitAboveRow.veiledFits Try.prog Try.f19.params.toList (Try.f19.params.toList ++ Rows.fnExactBitAboveSpec.plain.varTypes Try.prog ++ Try.f19.resultTypes.toList)) = true := by kernel_rfl
theorem FnExactBitAbove_closed : joinedFacts Try.prog 19 Try.f19 Rows.fnExactBitAboveSpec Rows.fnExactBitAboveRow = true := (and2 (and2 (and2 (and2 (and2 (and2 (and2 (and2 (and2 (and2 (and2 (and2 (and2 (and2 (and2 (and2 (and2 (and2 (and2 (and2 (and2 (and2 (and2 (and2 (and2 (and2 (and2 (and2 (and2 (and2 (and2 FnExactBitAbove_k0 jf1) jf2) FnExactBitAbove_k3) FnExactBitAbove_k4) FnExactBitAbove_k5) jf6) FnExactBitAbove_k7) jf8) FnExactBitAbove_k9) FnExactBitAbove_k10) FnExactBitAbove_k11) FnExactBitAbove_k12) FnExactBitAbove_k13) FnExactBitAbove_k14) FnExactBitAbove_k15) FnExactBitAbove_k16) FnExactBitAbove_k17) FnExactBitAbove_k18) FnExactBitAbove_k19) FnExactBitAbove_k20) FnExactBitAbove_k21) jf22) FnExactBitAbove_k23) jf24) jf25) jf26) jf27) FnExactBitAbove_k28) FnExactBitAbove_k29) FnExactBitAbove_k30) FnExactBitAbove_k31)
theorem FnExactBitAbove_over : Rows.fnExactBitAboveRow.holds Try.pinned (OpenSpec.ofChange Rows.fnExactBitAboveSpec) :=
  OpenClaim.holds_of_wide 19 Try.f19 rfl rfl rfl rfl rfl rfl rfl ⟨rfl, rfl, rfl, rfl, rfl⟩ rfl rfl rfl rfl rfl (by kernel_rfl) Try.func19 FnExactBitAbove_closed
    (of_decide_eq_true (by kernel_rfl)) (by unfold Func.isWrapper; first | (rw [if_pos (by decide +kernel)]; kernel_rfl) | (rw [if_neg (by decide +kernel)]; exact ⟨rfl, rfl⟩))
    (fun os started H enc _ => FnExactBitAbove_lifted os started H enc)

theorem FnExactBitAbove_proved : Rows.FnExactBitAboveSaid :=
  FnExactBitAbove_over
end Go.Proofs.Ytljmmaaaeojbpaa
