/- The program's BitKindOf answers as the specification's BitKindOf at every argument; nothing that was there is written. No condition. -/
import Derived.Test.YtljmmaaaeojbpaaRows
import Derived.WalkKit
import Derived.ProofKit
import Derived.OpenShut
import Derived.ShutString
import Derived.Test.YtljmmaaaeojbpaaW5
import Derived.Test.YtljmmaaaeojbpaaJ0
import Derived.Test.YtljmmaaaeojbpaaJ1
import Derived.Test.YtljmmaaaeojbpaaJ2
import Derived.Test.YtljmmaaaeojbpaaJ3
namespace Go.Proofs.Ytljmmaaaeojbpaa
open Go.ChangeShapes Go.WideShapes Go.ChangeAt Go.RowKit
open Go.ChangeMaps (open_string shut_string)
set_option linter.unusedVariables false

theorem FnExactBitKindOf_own : ownKnob Try.prog.godebug = none := by kernel_rfl

set_option maxHeartbeats 1000000 in
theorem FnExactBitKindOf_walk (a0 : Int) (a1 : Int) (w0 : (Lit.int .i64 a0).wf = true) (w1 : (Lit.int .i64 a1).wf = true) (w : World) :
    Calls Try.prog 11 #[.int .i64 a0, .int .i64 a1] w fun e w' => e = .returned (.bool true) ∧ Below w.heap.size w w' := by
  by_cases c1 : a0 = 32
  · subst c1
    by_cases c : -2139095040 ≤ a1 ∧ a1 ≤ 2139095040
    · obtain ⟨d1, d2⟩ := c
      go_enter Try.func11, Try.ntmps11
      go_wp2_with (first | (go_at_call 44; refine (sBitKind_32 _ d1 d2 _).mono ?_; rintro e w1 ⟨rfl, hb1⟩) | (go_at_call 45; refine (iBitKind_32 _ d1 d2 _).mono ?_; rintro e w2 ⟨rfl, hb2⟩) | go_in)
      go_ret
      exact ⟨rfl, (by repeat (first | exact Below.refl _ _ | refine Below.drew ?_ | refine old_alloc ?_ _ | refine old_trans ?_ (by assumption)))⟩
    · go_enter Try.func11, Try.ntmps11
      go_wp2_with (first | (go_at_call 44; refine (sBitKind_32_out _ c _).mono ?_; rintro e w1 ⟨rfl, hb1⟩) | (go_at_call 45; refine (iBitKind_32_out _ c _).mono ?_; rintro e w2 ⟨rfl, hb2⟩) | go_in)
      go_ret
      exact ⟨rfl, (by repeat (first | exact Below.refl _ _ | refine Below.drew ?_ | refine old_alloc ?_ _ | refine old_trans ?_ (by assumption)))⟩
  by_cases c2 : a0 = 64
  · subst c2
    by_cases c : -9218868437227405312 ≤ a1 ∧ a1 ≤ 9218868437227405312
    · obtain ⟨d1, d2⟩ := c
      go_enter Try.func11, Try.ntmps11
      go_wp2_with (first | (go_at_call 44; refine (sBitKind_64 _ d1 d2 _).mono ?_; rintro e w1 ⟨rfl, hb1⟩) | (go_at_call 45; refine (iBitKind_64 _ d1 d2 _).mono ?_; rintro e w2 ⟨rfl, hb2⟩) | go_in)
      go_ret
      exact ⟨rfl, (by repeat (first | exact Below.refl _ _ | refine Below.drew ?_ | refine old_alloc ?_ _ | refine old_trans ?_ (by assumption)))⟩
    · go_enter Try.func11, Try.ntmps11
      go_wp2_with (first | (go_at_call 44; refine (sBitKind_64_out _ c _).mono ?_; rintro e w1 ⟨rfl, hb1⟩) | (go_at_call 45; refine (iBitKind_64_out _ c _).mono ?_; rintro e w2 ⟨rfl, hb2⟩) | go_in)
      go_ret
      exact ⟨rfl, (by repeat (first | exact Below.refl _ _ | refine Below.drew ?_ | refine old_alloc ?_ _ | refine old_trans ?_ (by assumption)))⟩
  go_enter Try.func11, Try.ntmps11
  go_wp2_with (first | (go_at_call 44; refine (sBitKind_no _ _ c1 c2 _).mono ?_; rintro e w1 ⟨rfl, hb1⟩) | (go_at_call 45; refine (iBitKind_no _ _ c1 c2 _).mono ?_; rintro e w2 ⟨rfl, hb2⟩) | go_in)
  go_ret
  exact ⟨rfl, (by repeat (first | exact Below.refl _ _ | refine Below.drew ?_ | refine old_alloc ?_ _ | refine old_trans ?_ (by assumption)))⟩
set_option maxRecDepth 100000 in
theorem FnExactBitKindOf_lifted (os : Os) (started : os.Started) (H : Type) (enc : TypeId × Value → H) :
    ReturnsInHanded {} Try.checked os 11 .any (Rows.fnExactBitKindOfSpec.pre6 enc Try.prog Try.f11 Rows.fnExactBitKindOfRow.domain false) (Rows.fnExactBitKindOfSpec.post enc Try.prog Try.f11 false true false false) := by
  refine returnsInHanded_of_change (C := Try.checked) FnExactBitKindOf_own started (by kernel_rfl) Try.func11
    (ChangeSpec.witness6 (enc := enc) (C := Try.checked) false ⟨#[], #[.int .i64 0, .int .i64 0], []⟩ 8 (by kernel_rfl) (by kernel_rfl) (by kernel_rfl) (by kernel_rfl)) ?_
  intro W base args ds gs before hval0 hW hcnd _
  have hval : ∀ (j : Nat) t v, Try.f11.params[j]? = some t → args[j]? = some v → Value.okWide Try.prog W .any base t v := hval0
  have hW' := hW
  obtain ⟨p, q, hA0, hV, rfl, hfz, hnd⟩ := hW
  have hA : DataW.TrodAll enc Try.prog W 0 (fun _ => true) true Try.f11.params.toList args.toList ds p := hA0
  rw [Try.params11] at hA hval
  obtain ⟨v0, vs0, d0, ds0, p0, q0, hargs, rfl, rfl, h0, r0⟩ := trodAll_cons hA
  obtain ⟨v1, vs1, d1, ds1, p1, q1, rfl, rfl, rfl, h1, r1⟩ := trodAll_cons r0
  obtain ⟨rfl, rfl, rfl⟩ := trodAll_nil r1
  obtain rfl : args = #[v0, v1] := by cases args; simp_all
  obtain ⟨rfl, rfl⟩ := trodVars_none hV
  obtain ⟨a0, rfl, rfl, rfl, w0⟩ := open_int Try.underlying3 (hval 0 3 v0 rfl rfl) h0
  obtain ⟨a1, rfl, rfl, rfl, w1⟩ := open_int Try.underlying3 (hval 1 3 v1 rfl rfl) h1
  clear hA0 hval0
  simp only [List.append_nil] at hW'
  refine (FnExactBitKindOf_walk a0 a1 w0 w1 W).mono fun e W' ⟨he, hg⟩ => ?_
  subst he
  exact ⟨_, rfl, _, _, _, [], [], [], hW', (trodAll_cons_mk (shut_bool Try.underlying4 _) trodAll_mk0), (trodAll_cons_mk (shut_int Try.underlying3 w0) (trodAll_cons_mk (shut_int Try.underlying3 w1) trodAll_mk0)), rfl, hg.frame _, fun h => by cases h⟩

theorem FnExactBitKindOf_k0 : (Rows.fnExactBitKindOfRow.wf (OpenSpec.ofChange Rows.fnExactBitKindOfSpec)) = true := by kernel_rfl
theorem FnExactBitKindOf_k3 : (Try.f11.params.all (Try.prog.readableRec ·)) = true := by kernel_rfl
theorem FnExactBitKindOf_k4 : (namedTie Try.prog Rows.fnExactBitKindOfRow.named Rows.fnExactBitKindOfSpec.vars) = true := by kernel_rfl
theorem FnExactBitKindOf_k5 : ((Rows.fnExactBitKindOfRow.stops == [])) = true := by kernel_rfl
theorem FnExactBitKindOf_k7 : ((Rows.fnExactBitKindOfRow.knobs == [])) = true := by kernel_rfl
theorem FnExactBitKindOf_k9 : ((Rows.fnExactBitKindOfRow.inPlace == Try.prog.inPlace 11)) = true := by kernel_rfl
theorem FnExactBitKindOf_k10 : ((Rows.fnExactBitKindOfRow.unfollowed == Try.prog.unfollowed 11)) = true := by kernel_rfl
theorem FnExactBitKindOf_k11 : ((Rows.fnExactBitKindOfRow.recurses == Try.prog.recurses 11)) = true := by kernel_rfl
theorem FnExactBitKindOf_k12 : ((Rows.fnExactBitKindOfRow.named == Try.prog.varsNamed 11)) = true := by kernel_rfl
theorem FnExactBitKindOf_k13 : ((Rows.fnExactBitKindOfRow.maps == (Try.f11.params.toList ++ Rows.fnExactBitKindOfSpec.plain.varTypes Try.prog).any (Try.prog.mapsRec ·))) = true := by kernel_rfl
theorem FnExactBitKindOf_k14 : ((Rows.fnExactBitKindOfRow.ifaces == (Try.f11.params.toList ++ Rows.fnExactBitKindOfSpec.plain.varTypes Try.prog).any (Try.prog.ifacesRec ·))) = true := by kernel_rfl
theorem FnExactBitKindOf_k15 : ((Rows.fnExactBitKindOfRow.mapsOut == Try.prog.mapsAmong Try.f11.resultTypes.toList)) = true := by kernel_rfl
theorem FnExactBitKindOf_k16 : ((Rows.fnExactBitKindOfRow.loops == (Try.f11.params.toList ++ Rows.fnExactBitKindOfSpec.plain.varTypes Try.prog).any (Try.prog.loopsFrom ·))) = true := by kernel_rfl
theorem FnExactBitKindOf_k17 : ((Rows.fnExactBitKindOfRow.wideKeys == (Try.f11.params.toList ++ Rows.fnExactBitKindOfSpec.plain.varTypes Try.prog ++ Try.f11.resultTypes.toList).any (Try.prog.wideKeysFrom ·))) = true := by kernel_rfl
theorem FnExactBitKindOf_k18 : (Rows.fnExactBitKindOfSpec.vars.all (Try.prog.varReadable ·)) = true := by kernel_rfl
theorem FnExactBitKindOf_k19 : (Try.f11.resultTypes.all (fun t => Try.prog.readableRec t && decide (t < Try.prog.types.size))) = true := by kernel_rfl
theorem FnExactBitKindOf_k20 : ((Rows.fnExactBitKindOfRow.ifacesOut == Try.f11.resultTypes.toList.any (Try.prog.ifacesRec ·))) = true := by kernel_rfl
theorem FnExactBitKindOf_k21 : ((Rows.fnExactBitKindOfRow.loopsOut == Try.f11.resultTypes.toList.any (Try.prog.loopsFrom ·))) = true := by kernel_rfl
theorem FnExactBitKindOf_k23 : (Rows.fnExactBitKindOfRow.shortTexts.isNone) = true := by kernel_rfl
theorem FnExactBitKindOf_k28 : ((Rows.fnExactBitKindOfRow.kinds == (if Rows.fnExactBitKindOfRow.domain.isEmpty then [] else Try.f11.params.toList.map fun t => match Try.prog.underlying t with | some (.int k) => some k | _ => none))) = true := by kernel_rfl
theorem FnExactBitKindOf_k29 : ((Rows.fnExactBitKindOfRow.pinned == Rows.fnExactBitKindOfRow.pinnedBy)) = true := by kernel_rfl
theorem FnExactBitKindOf_k30 : ((Rows.fnExactBitKindOfRow.veiled == (Try.f11.params.toList ++ Rows.fnExactBitKindOfSpec.plain.varTypes Try.prog ++ Try.f11.resultTypes.toList).any (Try.prog.veiledRec ·))) = true := by kernel_rfl
theorem FnExactBitKindOf_k31 : (Rows.fnExactBitKindOfRow.veiledFits Try.prog Try.f11.params.toList (Try.f11.params.toList ++ Rows.fnExactBitKindOfSpec.plain.varTypes Try.prog ++ Try.f11.resultTypes.toList)) = true := by kernel_rfl
theorem FnExactBitKindOf_closed : joinedFacts Try.prog 11 Try.f11 Rows.fnExactBitKindOfSpec Rows.fnExactBitKindOfRow = true := (and2 (and2 (and2 (and2 (and2 (and2 (and2 (and2 (and2 (and2 (and2 (and2 (and2 (and2 (and2 (and2 (and2 (and2 (and2 (and2 (and2 (and2 (and2 (and2 (and2 (and2 (and2 (and2 (and2 (and2 (and2 FnExactBitKindOf_k0 jf1) jf2) FnExactBitKindOf_k3) FnExactBitKindOf_k4) FnExactBitKindOf_k5) jf6) FnExactBitKindOf_k7) jf8) FnExactBitKindOf_k9) FnExactBitKindOf_k10) FnExactBitKindOf_k11) FnExactBitKindOf_k12) FnExactBitKindOf_k13) FnExactBitKindOf_k14) FnExactBitKindOf_k15) FnExactBitKindOf_k16) FnExactBitKindOf_k17) FnExactBitKindOf_k18) FnExactBitKindOf_k19) FnExactBitKindOf_k20) FnExactBitKindOf_k21) jf22) FnExactBitKindOf_k23) jf24) jf25) jf26) jf27) FnExactBitKindOf_k28) FnExactBitKindOf_k29) FnExactBitKindOf_k30) FnExactBitKindOf_k31)
theorem FnExactBitKindOf_over : Rows.fnExactBitKindOfRow.holds Try.pinned (OpenSpec.ofChange Rows.fnExactBitKindOfSpec) :=
  OpenClaim.holds_of_wide 11 Try.f11 rfl rfl rfl rfl rfl rfl rfl ⟨rfl, rfl, rfl, rfl, rfl⟩ rfl rfl rfl rfl rfl (by kernel_rfl) Try.func11 FnExactBitKindOf_closed
    (of_decide_eq_true (by kernel_rfl)) (by unfold Func.isWrapper; first | (rw [if_pos (by decide +kernel)]; kernel_rfl) | (rw [if_neg (by decide +kernel)]; exact ⟨rfl, rfl⟩))
    (fun os started H enc _ => FnExactBitKindOf_lifted os started H enc)

theorem FnExactBitKindOf_proved : Rows.FnExactBitKindOfSaid :=
  FnExactBitKindOf_over
end Go.Proofs.Ytljmmaaaeojbpaa
