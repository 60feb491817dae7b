/- The program's BitOk answers as the specification's BitOk at every argument; nothing that was there is written. No condition. -/
import Derived.Test.YtljmmaaaeojbpaaRows
import Derived.WalkKit
import Derived.ProofKit
import Derived.OpenShut
import Derived.ShutString
import Derived.Test.YtljmmaaaeojbpaaW6
import Derived.Test.YtljmmaaaeojbpaaJ0
import Derived.Test.YtljmmaaaeojbpaaJ1
import Derived.Test.YtljmmaaaeojbpaaJ2
import Derived.Test.YtljmmaaaeojbpaaJ3
namespace Go.Proofs.Ytljmmaaaeojbpaa
open Go.ChangeShapes Go.WideShapes Go.ChangeAt Go.RowKit
open Go.ChangeMaps (open_string shut_string)
set_option linter.unusedVariables false

theorem FnExactBitOk_own : ownKnob Try.prog.godebug = none := by kernel_rfl

set_option maxHeartbeats 1000000 in
theorem FnExactBitOk_walk (a0 : Int) (a1 : Int) (w0 : (Lit.int .i64 a0).wf = true) (w1 : (Lit.int .i64 a1).wf = true) (w : World) :
    Calls Try.prog 8 #[.int .i64 a0, .int .i64 a1] w fun e w' => e = .returned (.bool true) ∧ Below w.heap.size w w' := by
  by_cases c1 : a0 = 32
  · subst c1
    by_cases c : -2139095040 ≤ a1 ∧ a1 ≤ 2139095040
    · obtain ⟨d1, d2⟩ := c
      go_enter Try.func8, Try.ntmps8
      go_wp2_with (first | (go_at_call 27; refine (sBitOk_32 _ _ d1 d2).mono ?_; rintro e w1 ⟨rfl, hb1⟩) | (go_at_call 39; refine (iBitOk_32 _ d1 d2 _).mono ?_; rintro e w2 ⟨rfl, hb2⟩) | go_in)
      go_ret
      exact ⟨rfl, (by repeat (first | exact Below.refl _ _ | refine Below.drew ?_ | refine old_alloc ?_ _ | refine old_trans ?_ (by assumption)))⟩
    · go_enter Try.func8, Try.ntmps8
      go_wp2_with (first | (go_at_call 27; refine (sBitOk_32_out _ _ c).mono ?_; rintro e w1 ⟨rfl, hb1⟩) | (go_at_call 39; refine (iBitOk_32_out _ c _).mono ?_; rintro e w2 ⟨rfl, hb2⟩) | go_in)
      go_ret
      exact ⟨rfl, (by repeat (first | exact Below.refl _ _ | refine Below.drew ?_ | refine old_alloc ?_ _ | refine old_trans ?_ (by assumption)))⟩
  by_cases c2 : a0 = 64
  · subst c2
    by_cases c : -9218868437227405312 ≤ a1 ∧ a1 ≤ 9218868437227405312
    · obtain ⟨d1, d2⟩ := c
      go_enter Try.func8, Try.ntmps8
      go_wp2_with (first | (go_at_call 27; refine (sBitOk_64 _ _ d1 d2).mono ?_; rintro e w1 ⟨rfl, hb1⟩) | (go_at_call 39; refine (iBitOk_64 _ d1 d2 _).mono ?_; rintro e w2 ⟨rfl, hb2⟩) | go_in)
      go_ret
      exact ⟨rfl, (by repeat (first | exact Below.refl _ _ | refine Below.drew ?_ | refine old_alloc ?_ _ | refine old_trans ?_ (by assumption)))⟩
    · go_enter Try.func8, Try.ntmps8
      go_wp2_with (first | (go_at_call 27; refine (sBitOk_64_out _ _ c).mono ?_; rintro e w1 ⟨rfl, hb1⟩) | (go_at_call 39; refine (iBitOk_64_out _ c _).mono ?_; rintro e w2 ⟨rfl, hb2⟩) | go_in)
      go_ret
      exact ⟨rfl, (by repeat (first | exact Below.refl _ _ | refine Below.drew ?_ | refine old_alloc ?_ _ | refine old_trans ?_ (by assumption)))⟩
  go_enter Try.func8, Try.ntmps8
  go_wp2_with (first | (go_at_call 27; refine (sBitOk_no _ _ _ c1 c2).mono ?_; rintro e w1 ⟨rfl, hb1⟩) | (go_at_call 39; refine (iBitOk_no _ _ c1 c2 _).mono ?_; rintro e w2 ⟨rfl, hb2⟩) | go_in)
  go_ret
  exact ⟨rfl, (by repeat (first | exact Below.refl _ _ | refine Below.drew ?_ | refine old_alloc ?_ _ | refine old_trans ?_ (by assumption)))⟩
set_option maxRecDepth 100000 in
theorem FnExactBitOk_lifted (os : Os) (started : os.Started) (H : Type) (enc : TypeId × Value → H) :
    ReturnsInHanded {} Try.checked os 8 .any (Rows.fnExactBitOkSpec.pre6 enc Try.prog Try.f8 Rows.fnExactBitOkRow.domain false) (Rows.fnExactBitOkSpec.post enc Try.prog Try.f8 false true false false) := by
  refine returnsInHanded_of_change (C := Try.checked) FnExactBitOk_own started (by kernel_rfl) Try.func8
    (ChangeSpec.witness6 (enc := enc) (C := Try.checked) false ⟨#[], #[.int .i64 0, .int .i64 0], []⟩ 8 (by kernel_rfl) (by kernel_rfl) (by kernel_rfl) (by kernel_rfl)) ?_
  intro W base args ds gs before hval0 hW hcnd _
  have hval : ∀ (j : Nat) t v, Try.f8.params[j]? = some t → args[j]? = some v → Value.okWide Try.prog W .any base t v := hval0
  have hW' := hW
  obtain ⟨p, q, hA0, hV, rfl, hfz, hnd⟩ := hW
  have hA : DataW.TrodAll enc Try.prog W 0 (fun _ => true) true Try.f8.params.toList args.toList ds p := hA0
  rw [Try.params8] at hA hval
  obtain ⟨v0, vs0, d0, ds0, p0, q0, hargs, rfl, rfl, h0, r0⟩ := trodAll_cons hA
  obtain ⟨v1, vs1, d1, ds1, p1, q1, rfl, rfl, rfl, h1, r1⟩ := trodAll_cons r0
  obtain ⟨rfl, rfl, rfl⟩ := trodAll_nil r1
  obtain rfl : args = #[v0, v1] := by cases args; simp_all
  obtain ⟨rfl, rfl⟩ := trodVars_none hV
  obtain ⟨a0, rfl, rfl, rfl, w0⟩ := open_int Try.underlying3 (hval 0 3 v0 rfl rfl) h0
  obtain ⟨a1, rfl, rfl, rfl, w1⟩ := open_int Try.underlying3 (hval 1 3 v1 rfl rfl) h1
  clear hA0 hval0
  simp only [List.append_nil] at hW'
  refine (FnExactBitOk_walk a0 a1 w0 w1 W).mono fun e W' ⟨he, hg⟩ => ?_
  subst he
  exact ⟨_, rfl, _, _, _, [], [], [], hW', (trodAll_cons_mk (shut_bool Try.underlying4 _) trodAll_mk0), (trodAll_cons_mk (shut_int Try.underlying3 w0) (trodAll_cons_mk (shut_int Try.underlying3 w1) trodAll_mk0)), rfl, hg.frame _, fun h => by cases h⟩

theorem FnExactBitOk_k0 : (Rows.fnExactBitOkRow.wf (OpenSpec.ofChange Rows.fnExactBitOkSpec)) = true := by kernel_rfl
theorem FnExactBitOk_k3 : (Try.f8.params.all (Try.prog.readableRec ·)) = true := by kernel_rfl
theorem FnExactBitOk_k4 : (namedTie Try.prog Rows.fnExactBitOkRow.named Rows.fnExactBitOkSpec.vars) = true := by kernel_rfl
theorem FnExactBitOk_k5 : ((Rows.fnExactBitOkRow.stops == [])) = true := by kernel_rfl
theorem FnExactBitOk_k7 : ((Rows.fnExactBitOkRow.knobs == [])) = true := by kernel_rfl
theorem FnExactBitOk_k9 : ((Rows.fnExactBitOkRow.inPlace == Try.prog.inPlace 8)) = true := by kernel_rfl
theorem FnExactBitOk_k10 : ((Rows.fnExactBitOkRow.unfollowed == Try.prog.unfollowed 8)) = true := by kernel_rfl
theorem FnExactBitOk_k11 : ((Rows.fnExactBitOkRow.recurses == Try.prog.recurses 8)) = true := by kernel_rfl
theorem FnExactBitOk_k12 : ((Rows.fnExactBitOkRow.named == Try.prog.varsNamed 8)) = true := by kernel_rfl
theorem FnExactBitOk_k13 : ((Rows.fnExactBitOkRow.maps == (Try.f8.params.toList ++ Rows.fnExactBitOkSpec.plain.varTypes Try.prog).any (Try.prog.mapsRec ·))) = true := by kernel_rfl
theorem FnExactBitOk_k14 : ((Rows.fnExactBitOkRow.ifaces == (Try.f8.params.toList ++ Rows.fnExactBitOkSpec.plain.varTypes Try.prog).any (Try.prog.ifacesRec ·))) = true := by kernel_rfl
theorem FnExactBitOk_k15 : ((Rows.fnExactBitOkRow.mapsOut == Try.prog.mapsAmong Try.f8.resultTypes.toList)) = true := by kernel_rfl
theorem FnExactBitOk_k16 : ((Rows.fnExactBitOkRow.loops == (Try.f8.params.toList ++ Rows.fnExactBitOkSpec.plain.varTypes Try.prog).any (Try.prog.loopsFrom ·))) = true := by kernel_rfl
theorem FnExactBitOk_k17 : ((Rows.fnExactBitOkRow.wideKeys == (Try.f8.params.toList ++ Rows.fnExactBitOkSpec.plain.varTypes Try.prog ++ Try.f8.resultTypes.toList).any (Try.prog.wideKeysFrom ·))) = true := by kernel_rfl
theorem FnExactBitOk_k18 : (Rows.fnExactBitOkSpec.vars.all (Try.prog.varReadable ·)) = true := by kernel_rfl
theorem FnExactBitOk_k19 : (Try.f8.resultTypes.all (fun t => Try.prog.readableRec t && decide (t < Try.prog.types.size))) = true := by kernel_rfl
theorem FnExactBitOk_k20 : ((Rows.fnExactBitOkRow.ifacesOut == Try.f8.resultTypes.toList.any (Try.prog.ifacesRec ·))) = true := by kernel_rfl
theorem FnExactBitOk_k21 : ((Rows.fnExactBitOkRow.loopsOut == Try.f8.resultTypes.toList.any (Try.prog.loopsFrom ·))) = true := by kernel_rfl
theorem FnExactBitOk_k23 : (Rows.fnExactBitOkRow.shortTexts.isNone) = true := by kernel_rfl
theorem FnExactBitOk_k28 : ((Rows.fnExactBitOkRow.kinds == (if Rows.fnExactBitOkRow.domain.isEmpty then [] else Try.f8.params.toList.map fun t => match Try.prog.underlying t with | some (.int k) => some k | _ => none))) = true := by kernel_rfl
theorem FnExactBitOk_k29 : ((Rows.fnExactBitOkRow.pinned == Rows.fnExactBitOkRow.pinnedBy)) = true := by kernel_rfl
theorem FnExactBitOk_k30 : ((Rows.fnExactBitOkRow.veiled == (Try.f8.params.toList ++ Rows.fnExactBitOkSpec.plain.varTypes Try.prog ++ Try.f8.resultTypes.toList).any (Try.prog.veiledRec ·))) = true := by kernel_rfl
theorem FnExactBitOk_k31 : (Rows.fnExactBitOkRow.veiledFits Try.prog Try.f8.params.toList (Try.f8.params.toList ++ Rows.fnExactBitOkSpec.plain.varTypes Try.prog ++ Try.f8.resultTypes.toList)) = true := by kernel_rfl
theorem FnExactBitOk_closed : joinedFacts Try.prog 8 Try.f8 Rows.fnExactBitOkSpec Rows.fnExactBitOkRow = true := (and2 (and2 (and2 (and2 (and2 (and2 (and2 (and2 (and2 (and2 (and2 (and2 (and2 (and2 (and2 (and2 (and2 (and2 (and2 (and2 (and2 (and2 (and2 (and2 (and2 (and2 (and2 (and2 (and2 (and2 (and2 FnExactBitOk_k0 jf1) jf2) FnExactBitOk_k3) FnExactBitOk_k4) FnExactBitOk_k5) jf6) FnExactBitOk_k7) jf8) FnExactBitOk_k9) FnExactBitOk_k10) FnExactBitOk_k11) FnExactBitOk_k12) FnExactBitOk_k13) FnExactBitOk_k14) FnExactBitOk_k15) FnExactBitOk_k16) FnExactBitOk_k17) FnExactBitOk_k18) FnExactBitOk_k19) FnExactBitOk_k20) FnExactBitOk_k21) jf22) FnExactBitOk_k23) jf24) jf25) jf26) jf27) FnExactBitOk_k28) FnExactBitOk_k29) FnExactBitOk_k30) FnExactBitOk_k31)
theorem FnExactBitOk_over : Rows.fnExactBitOkRow.holds Try.pinned (OpenSpec.ofChange Rows.fnExactBitOkSpec) :=
  OpenClaim.holds_of_wide 8 Try.f8 rfl rfl rfl rfl rfl rfl rfl ⟨rfl, rfl, rfl, rfl, rfl⟩ rfl rfl rfl rfl rfl (by kernel_rfl) Try.func8 FnExactBitOk_closed
    (of_decide_eq_true (by kernel_rfl)) (by unfold Func.isWrapper; first | (rw [if_pos (by decide +kernel)]; kernel_rfl) | (rw [if_neg (by decide +kernel)]; exact ⟨rfl, rfl⟩))
    (fun os started H enc _ => FnExactBitOk_lifted os started H enc)

theorem FnExactBitOk_proved : Rows.FnExactBitOkSaid :=
  FnExactBitOk_over
end Go.Proofs.Ytljmmaaaeojbpaa
