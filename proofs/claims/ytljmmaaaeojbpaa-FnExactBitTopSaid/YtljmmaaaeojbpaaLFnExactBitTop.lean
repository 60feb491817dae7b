/- The program's BitTop answers as the specification's BitTop at every argument; nothing that was there is written. No condition. -/
import Derived.Test.YtljmmaaaeojbpaaRows
import Derived.WalkKit
import Derived.ProofKit
import Derived.OpenShut
import Derived.ShutString
import Derived.Test.YtljmmaaaeojbpaaW2
import Derived.Test.YtljmmaaaeojbpaaJ0
import Derived.Test.YtljmmaaaeojbpaaJ1
import Derived.Test.YtljmmaaaeojbpaaJ2
import Derived.Test.YtljmmaaaeojbpaaJ3
namespace Go.Proofs.Ytljmmaaaeojbpaa
open Go.ChangeShapes Go.WideShapes Go.ChangeAt Go.RowKit
open Go.ChangeMaps (open_string shut_string)
set_option linter.unusedVariables false

theorem FnExactBitTop_own : ownKnob Try.prog.godebug = none := by kernel_rfl

set_option maxHeartbeats 1000000 in
theorem FnExactBitTop_walk (a0 : Int) (w0 : (Lit.int .i64 a0).wf = true) (w : World) :
    Calls Try.prog 7 #[.int .i64 a0] w fun e w' => e = .returned (.bool true) ∧ Below w.heap.size w w' := by
  by_cases c1 : a0 = 32
  · subst c1
    go_enter Try.func7, Try.ntmps7
    go_wp2_with (first | (go_at_call 38; refine (sBitTop_32 _).mono ?_; rintro e w1 ⟨rfl, rfl⟩) | (go_at_call 28; refine (iBitTop_32 _).mono ?_; rintro e w2 ⟨rfl, hb2⟩) | go_in)
    go_ret
    exact ⟨rfl, (by repeat (first | exact Below.refl _ _ | refine Below.drew ?_ | refine old_alloc ?_ _ | refine old_trans ?_ (by assumption)))⟩
  by_cases c2 : a0 = 64
  · subst c2
    go_enter Try.func7, Try.ntmps7
    go_wp2_with (first | (go_at_call 38; refine (sBitTop_64 _).mono ?_; rintro e w1 ⟨rfl, rfl⟩) | (go_at_call 28; refine (iBitTop_64 _).mono ?_; rintro e w2 ⟨rfl, hb2⟩) | go_in)
    go_ret
    exact ⟨rfl, (by repeat (first | exact Below.refl _ _ | refine Below.drew ?_ | refine old_alloc ?_ _ | refine old_trans ?_ (by assumption)))⟩
  go_enter Try.func7, Try.ntmps7
  go_wp2_with (first | (go_at_call 38; refine (sBitTop_no _ _ c1 c2).mono ?_; rintro e w1 ⟨rfl, rfl⟩) | (go_at_call 28; refine (iBitTop_no _ _ c1 c2).mono ?_; rintro e w2 ⟨rfl, hb2⟩) | go_in)
  go_ret
  exact ⟨rfl, (by repeat (first | exact Below.refl _ _ | refine Below.drew ?_ | refine old_alloc ?_ _ | refine old_trans ?_ (by assumption)))⟩
set_option maxRecDepth 100000 in
theorem FnExactBitTop_lifted (os : Os) (started : os.Started) (H : Type) (enc : TypeId × Value → H) :
    ReturnsInHanded {} Try.checked os 7 .any (Rows.fnExactBitTopSpec.pre6 enc Try.prog Try.f7 Rows.fnExactBitTopRow.domain false) (Rows.fnExactBitTopSpec.post enc Try.prog Try.f7 false true false false) := by
  refine returnsInHanded_of_change (C := Try.checked) FnExactBitTop_own started (by kernel_rfl) Try.func7
    (ChangeSpec.witness6 (enc := enc) (C := Try.checked) false ⟨#[], #[.int .i64 0], []⟩ 8 (by kernel_rfl) (by kernel_rfl) (by kernel_rfl) (by kernel_rfl)) ?_
  intro W base args ds gs before hval0 hW hcnd _
  have hval : ∀ (j : Nat) t v, Try.f7.params[j]? = some t → args[j]? = some v → Value.okWide Try.prog W .any base t v := hval0
  have hW' := hW
  obtain ⟨p, q, hA0, hV, rfl, hfz, hnd⟩ := hW
  have hA : DataW.TrodAll enc Try.prog W 0 (fun _ => true) true Try.f7.params.toList args.toList ds p := hA0
  rw [Try.params7] at hA hval
  obtain ⟨v0, vs0, d0, ds0, p0, q0, hargs, rfl, rfl, h0, r0⟩ := trodAll_cons hA
  obtain ⟨rfl, rfl, rfl⟩ := trodAll_nil r0
  obtain rfl : args = #[v0] := by cases args; simp_all
  obtain ⟨rfl, rfl⟩ := trodVars_none hV
  obtain ⟨a0, rfl, rfl, rfl, w0⟩ := open_int Try.underlying3 (hval 0 3 v0 rfl rfl) h0
  clear hA0 hval0
  simp only [List.append_nil] at hW'
  refine (FnExactBitTop_walk a0 w0 W).mono fun e W' ⟨he, hg⟩ => ?_
  subst he
  exact ⟨_, rfl, _, _, _, [], [], [], hW', (trodAll_cons_mk (shut_bool Try.underlying4 _) trodAll_mk0), (trodAll_cons_mk (shut_int Try.underlying3 w0) trodAll_mk0), rfl, hg.frame _, fun h => by cases h⟩

theorem FnExactBitTop_k0 : (Rows.fnExactBitTopRow.wf (OpenSpec.ofChange Rows.fnExactBitTopSpec)) = true := by kernel_rfl
theorem FnExactBitTop_k3 : (Try.f7.params.all (Try.prog.readableRec ·)) = true := by kernel_rfl
theorem FnExactBitTop_k4 : (namedTie Try.prog Rows.fnExactBitTopRow.named Rows.fnExactBitTopSpec.vars) = true := by kernel_rfl
theorem FnExactBitTop_k5 : ((Rows.fnExactBitTopRow.stops == [])) = true := by kernel_rfl
theorem FnExactBitTop_k7 : ((Rows.fnExactBitTopRow.knobs == [])) = true := by kernel_rfl
theorem FnExactBitTop_k9 : ((Rows.fnExactBitTopRow.inPlace == Try.prog.inPlace 7)) = true := by kernel_rfl
theorem FnExactBitTop_k10 : ((Rows.fnExactBitTopRow.unfollowed == Try.prog.unfollowed 7)) = true := by kernel_rfl
theorem FnExactBitTop_k11 : ((Rows.fnExactBitTopRow.recurses == Try.prog.recurses 7)) = true := by kernel_rfl
theorem FnExactBitTop_k12 : ((Rows.fnExactBitTopRow.named == Try.prog.varsNamed 7)) = true := by kernel_rfl
theorem FnExactBitTop_k13 : ((Rows.fnExactBitTopRow.maps == (Try.f7.params.toList ++ Rows.fnExactBitTopSpec.plain.varTypes Try.prog).any (Try.prog.mapsRec ·))) = true := by kernel_rfl
theorem FnExactBitTop_k14 : ((Rows.fnExactBitTopRow.ifaces == (Try.f7.params.toList ++ Rows.fnExactBitTopSpec.plain.varTypes Try.prog).any (Try.prog.ifacesRec ·))) = true := by kernel_rfl
theorem FnExactBitTop_k15 : ((Rows.fnExactBitTopRow.mapsOut == Try.prog.mapsAmong Try.f7.resultTypes.toList)) = true := by kernel_rfl
theorem FnExactBitTop_k16 : ((Rows.fnExactBitTopRow.loops == (Try.f7.params.toList ++ Rows.fnExactBitTopSpec.plain.varTypes Try.prog).any (Try.prog.loopsFrom ·))) = true := by kernel_rfl
theorem FnExactBitTop_k17 : ((Rows.fnExactBitTopRow.wideKeys == (Try.f7.params.toList ++ Rows.fnExactBitTopSpec.plain.varTypes Try.prog ++ Try.f7.resultTypes.toList).any (Try.prog.wideKeysFrom ·))) = true := by kernel_rfl
theorem FnExactBitTop_k18 : (Rows.fnExactBitTopSpec.vars.all (Try.prog.varReadable ·)) = true := by kernel_rfl
theorem FnExactBitTop_k19 : (Try.f7.resultTypes.all (fun t => Try.prog.readableRec t && decide (t < Try.prog.types.size))) = true := by kernel_rfl
theorem FnExactBitTop_k20 : ((Rows.fnExactBitTopRow.ifacesOut == Try.f7.resultTypes.toList.any (Try.prog.ifacesRec ·))) = true := by kernel_rfl
theorem FnExactBitTop_k21 : ((Rows.fnExactBitTopRow.loopsOut == Try.f7.resultTypes.toList.any (Try.prog.loopsFrom ·))) = true := by kernel_rfl
theorem FnExactBitTop_k23 : (Rows.fnExactBitTopRow.shortTexts.isNone) = true := by kernel_rfl
theorem FnExactBitTop_k28 : ((Rows.fnExactBitTopRow.kinds == (if Rows.fnExactBitTopRow.domain.isEmpty then [] else Try.f7.params.toList.map fun t => match Try.prog.underlying t with | some (.int k) => some k | _ => none))) = true := by kernel_rfl
theorem FnExactBitTop_k29 : ((Rows.fnExactBitTopRow.pinned == Rows.fnExactBitTopRow.pinnedBy)) = true := by kernel_rfl
theorem FnExactBitTop_k30 : ((Rows.fnExactBitTopRow.veiled == (Try.f7.params.toList ++ Rows.fnExactBitTopSpec.plain.varTypes Try.prog ++ Try.f7.resultTypes.toList).any (Try.prog.veiledRec ·))) = true := by kernel_rfl
theorem FnExactBitTop_k31 : (Rows.fnExactBitTopRow.veiledFits Try.prog Try.f7.params.toList (Try.f7.params.toList ++ Rows.fnExactBitTopSpec.plain.varTypes Try.prog ++ Try.f7.resultTypes.toList)) = true := by kernel_rfl
theorem FnExactBitTop_closed : joinedFacts Try.prog 7 Try.f7 Rows.fnExactBitTopSpec Rows.fnExactBitTopRow = true := (and2 (and2 (and2 (and2 (and2 (and2 (and2 (and2 (and2 (and2 (and2 (and2 (and2 (and2 (and2 (and2 (and2 (and2 (and2 (and2 (and2 (and2 (and2 (and2 (and2 (and2 (and2 (and2 (and2 (and2 (and2 FnExactBitTop_k0 jf1) jf2) FnExactBitTop_k3) FnExactBitTop_k4) FnExactBitTop_k5) jf6) FnExactBitTop_k7) jf8) FnExactBitTop_k9) FnExactBitTop_k10) FnExactBitTop_k11) FnExactBitTop_k12) FnExactBitTop_k13) FnExactBitTop_k14) FnExactBitTop_k15) FnExactBitTop_k16) FnExactBitTop_k17) FnExactBitTop_k18) FnExactBitTop_k19) FnExactBitTop_k20) FnExactBitTop_k21) jf22) FnExactBitTop_k23) jf24) jf25) jf26) jf27) FnExactBitTop_k28) FnExactBitTop_k29) FnExactBitTop_k30) FnExactBitTop_k31)
theorem FnExactBitTop_over : Rows.fnExactBitTopRow.holds Try.pinned (OpenSpec.ofChange Rows.fnExactBitTopSpec) :=
  OpenClaim.holds_of_wide 7 Try.f7 rfl rfl rfl rfl rfl rfl rfl ⟨rfl, rfl, rfl, rfl, rfl⟩ rfl rfl rfl rfl rfl (by kernel_rfl) Try.func7 FnExactBitTop_closed
    (of_decide_eq_true (by kernel_rfl)) (by unfold Func.isWrapper; first | (rw [if_pos (by decide +kernel)]; kernel_rfl) | (rw [if_neg (by decide +kernel)]; exact ⟨rfl, rfl⟩))
    (fun os started H enc _ => FnExactBitTop_lifted os started H enc)

theorem FnExactBitTop_proved : Rows.FnExactBitTopSaid :=
  FnExactBitTop_over
end Go.Proofs.Ytljmmaaaeojbpaa
