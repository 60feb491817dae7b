/- The program's BitUp answers as the specification's BitUp at every argument; nothing that was there is written. No condition. -/
import Derived.Test.YtljmmaaaeojbpaaRows
import Derived.WalkKit
import Derived.ProofKit
import Derived.OpenShut
import Derived.ShutString
import Derived.Test.YtljmmaaaeojbpaaW6
import Derived.Test.YtljmmaaaeojbpaaJ0
import Derived.Test.YtljmmaaaeojbpaaJ1
import Derived.Test.YtljmmaaaeojbpaaJ2
import Derived.Test.YtljmmaaaeojbpaaJ3
namespace Go.Proofs.Ytljmmaaaeojbpaa
open Go.ChangeShapes Go.WideShapes Go.ChangeAt Go.RowKit
open Go.ChangeMaps (open_string shut_string)
set_option linter.unusedVariables false

theorem FnExactBitUp_own : ownKnob Try.prog.godebug = none := by kernel_rfl

set_option maxHeartbeats 1000000 in
theorem FnExactBitUp_walk (a0 : Int) (a1 : Int) (w0 : (Lit.int .i64 a0).wf = true) (w1 : (Lit.int .i64 a1).wf = true) (w : World) :
    Calls Try.prog 12 #[.int .i64 a0, .int .i64 a1] w fun e w' => e = .returned (.bool true) ∧ Below w.heap.size w w' := by
  by_cases c1 : a0 = 32
  · subst c1
    by_cases c : -2139095040 ≤ a1 ∧ a1 ≤ 2139095040
    · obtain ⟨d1, d2⟩ := c
      go_enter Try.func12, Try.ntmps12
      go_wp2_with (first | (go_at_call 46; refine (sBitUp_32 _ d1 d2 _).mono ?_; rintro e w1 ⟨rfl, hb1⟩) | (go_at_call 25; refine (iBitUp_32 _ d1 d2 _).mono ?_; rintro e w2 ⟨rfl, hb2⟩) | go_in)
      go_ret
      exact ⟨rfl, (by repeat (first | exact Below.refl _ _ | refine Below.drew ?_ | refine old_alloc ?_ _ | refine old_trans ?_ (by assumption)))⟩
    · go_enter Try.func12, Try.ntmps12
      go_wp2_with (first | (go_at_call 46; refine (sBitUp_32_out _ c _).mono ?_; rintro e w1 ⟨rfl, hb1⟩) | (go_at_call 25; refine (iBitUp_32_out _ c _).mono ?_; rintro e w2 ⟨rfl, hb2⟩) | go_in)
      go_ret
      exact ⟨rfl, (by repeat (first | exact Below.refl _ _ | refine Below.drew ?_ | refine old_alloc ?_ _ | refine old_trans ?_ (by assumption)))⟩
  by_cases c2 : a0 = 64
  · subst c2
    by_cases c : -9218868437227405312 ≤ a1 ∧ a1 ≤ 9218868437227405312
    · obtain ⟨d1, d2⟩ := c
      go_enter Try.func12, Try.ntmps12
      go_wp2_with (first | (go_at_call 46; refine (sBitUp_64 _ d1 d2 _).mono ?_; rintro e w1 ⟨rfl, hb1⟩) | (go_at_call 25; refine (iBitUp_64 _ d1 d2 _).mono ?_; rintro e w2 ⟨rfl, hb2⟩) | go_in)
      go_ret
      exact ⟨rfl, (by repeat (first | exact Below.refl _ _ | refine Below.drew ?_ | refine old_alloc ?_ _ | refine old_trans ?_ (by assumption)))⟩
    · go_enter Try.func12, Try.ntmps12
      go_wp2_with (first | (go_at_call 46; refine (sBitUp_64_out _ c _).mono ?_; rintro e w1 ⟨rfl, hb1⟩) | (go_at_call 25; refine (iBitUp_64_out _ c _).mono ?_; rintro e w2 ⟨rfl, hb2⟩) | go_in)
      go_ret
      exact ⟨rfl, (by repeat (first | exact Below.refl _ _ | refine Below.drew ?_ | refine old_alloc ?_ _ | refine old_trans ?_ (by assumption)))⟩
  go_enter Try.func12, Try.ntmps12
  go_wp2_with (first | (go_at_call 46; refine (sBitUp_no _ _ c1 c2 _).mono ?_; rintro e w1 ⟨rfl, hb1⟩) | (go_at_call 25; refine (iBitUp_no _ _ c1 c2 _).mono ?_; rintro e w2 ⟨rfl, hb2⟩) | go_in)
  go_ret
  exact ⟨rfl, (by repeat (first | exact Below.refl _ _ | refine Below.drew ?_ | refine old_alloc ?_ _ | refine old_trans ?_ (by assumption)))⟩
set_option maxRecDepth 100000 in
theorem FnExactBitUp_lifted (os : Os) (started : os.Started) (H : Type) (enc : TypeId × Value → H) :
    ReturnsInHanded {} Try.checked os 12 .any (Rows.fnExactBitUpSpec.pre6 enc Try.prog Try.f12 Rows.fnExactBitUpRow.domain false) (Rows.fnExactBitUpSpec.post enc Try.prog Try.f12 false true false false) := by
  refine returnsInHanded_of_change (C := Try.checked) FnExactBitUp_own started (by kernel_rfl) Try.func12
    (ChangeSpec.witness6 (enc := enc) (C := Try.checked) false ⟨#[], #[.int .i64 0, .int .i64 0], []⟩ 8 (by kernel_rfl) (by kernel_rfl) (by kernel_rfl) (by kernel_rfl)) ?_
  intro W base args ds gs before hval0 hW hcnd _
  have hval : ∀ (j : Nat) t v, Try.f12.params[j]? = some t → args[j]? = some v → Value.okWide Try.prog W .any base t v := hval0
  have hW' := hW
  obtain ⟨p, q, hA0, hV, rfl, hfz, hnd⟩ := hW
  have hA : DataW.TrodAll enc Try.prog W 0 (fun _ => true) true Try.f12.params.toList args.toList ds p := hA0
  rw [Try.params12] at hA hval
  obtain ⟨v0, vs0, d0, ds0, p0, q0, hargs, rfl, rfl, h0, r0⟩ := trodAll_cons hA
  obtain ⟨v1, vs1, d1, ds1, p1, q1, rfl, rfl, rfl, h1, r1⟩ := trodAll_cons r0
  obtain ⟨rfl, rfl, rfl⟩ := trodAll_nil r1
  obtain rfl : args = #[v0, v1] := by cases args; simp_all
  obtain ⟨rfl, rfl⟩ := trodVars_none hV
  obtain ⟨a0, rfl, rfl, rfl, w0⟩ := open_int Try.underlying3 (hval 0 3 v0 rfl rfl) h0
  obtain ⟨a1, rfl, rfl, rfl, w1⟩ := open_int Try.underlying3 (hval 1 3 v1 rfl rfl) h1
  clear hA0 hval0
  simp only [List.append_nil] at hW'
  refine (FnExactBitUp_walk a0 a1 w0 w1 W).mono fun e W' ⟨he, hg⟩ => ?_
  subst he
  exact ⟨_, rfl, _, _, _, [], [], [], hW', (trodAll_cons_mk (shut_bool Try.underlying4 _) trodAll_mk0), (trodAll_cons_mk (shut_int Try.underlying3 w0) (trodAll_cons_mk (shut_int Try.underlying3 w1) trodAll_mk0)), rfl, hg.frame _, fun h => by cases h⟩

theorem FnExactBitUp_k0 : (Rows.fnExactBitUpRow.wf (OpenSpec.ofChange Rows.fnExactBitUpSpec)) = true := by kernel_rfl
theorem FnExactBitUp_k3 : (Try.f12.params.all (Try.prog.readableRec ·)) = true := by kernel_rfl
theorem FnExactBitUp_k4 : (namedTie Try.prog Rows.fnExactBitUpRow.named Rows.fnExactBitUpSpec.vars) = true := by kernel_rfl
theorem FnExactBitUp_k5 : ((Rows.fnExactBitUpRow.stops == [])) = true := by kernel_rfl
theorem FnExactBitUp_k7 : ((Rows.fnExactBitUpRow.knobs == [])) = true := by kernel_rfl
theorem FnExactBitUp_k9 : ((Rows.fnExactBitUpRow.inPlace == Try.prog.inPlace 12)) = true := by kernel_rfl
theorem FnExactBitUp_k10 : ((Rows.fnExactBitUpRow.unfollowed == Try.prog.unfollowed 12)) = true := by kernel_rfl
theorem FnExactBitUp_k11 : ((Rows.fnExactBitUpRow.recurses == Try.prog.recurses 12)) = true := by kernel_rfl
theorem FnExactBitUp_k12 : ((Rows.fnExactBitUpRow.named == Try.prog.varsNamed 12)) = true := by kernel_rfl
theorem FnExactBitUp_k13 : ((Rows.fnExactBitUpRow.maps == (Try.f12.params.toList ++ Rows.fnExactBitUpSpec.plain.varTypes Try.prog).any (Try.prog.mapsRec ·))) = true := by kernel_rfl
theorem FnExactBitUp_k14 : ((Rows.fnExactBitUpRow.ifaces == (Try.f12.params.toList ++ Rows.fnExactBitUpSpec.plain.varTypes Try.prog).any (Try.prog.ifacesRec ·))) = true := by kernel_rfl
theorem FnExactBitUp_k15 : ((Rows.fnExactBitUpRow.mapsOut == Try.prog.mapsAmong Try.f12.resultTypes.toList)) = true := by kernel_rfl
theorem FnExactBitUp_k16 : ((Rows.fnExactBitUpRow.loops == (Try.f12.params.toList ++ Rows.fnExactBitUpSpec.plain.varTypes Try.prog).any (Try.prog.loopsFrom ·))) = true := by kernel_rfl
theorem FnExactBitUp_k17 : ((Rows.fnExactBitUpRow.wideKeys == (Try.f12.params.toList ++ Rows.fnExactBitUpSpec.plain.varTypes Try.prog ++ Try.f12.resultTypes.toList).any (Try.prog.wideKeysFrom ·))) = true := by kernel_rfl
theorem FnExactBitUp_k18 : (Rows.fnExactBitUpSpec.vars.all (Try.prog.varReadable ·)) = true := by kernel_rfl
theorem FnExactBitUp_k19 : (Try.f12.resultTypes.all (fun t => Try.prog.readableRec t && decide (t < Try.prog.types.size))) = true := by kernel_rfl
theorem FnExactBitUp_k20 : ((Rows.fnExactBitUpRow.ifacesOut == Try.f12.resultTypes.toList.any (Try.prog.ifacesRec ·))) = true := by kernel_rfl
theorem FnExactBitUp_k21 : ((Rows.fnExactBitUpRow.loopsOut == Try.f12.resultTypes.toList.any (Try.prog.loopsFrom ·))) = true := by kernel_rfl
theorem FnExactBitUp_k23 : (Rows.fnExactBitUpRow.shortTexts.isNone) = true := by kernel_rfl
theorem FnExactBitUp_k28 : ((Rows.fnExactBitUpRow.kinds == (if Rows.fnExactBitUpRow.domain.isEmpty then [] else Try.f12.params.toList.map fun t => match Try.prog.underlying t with | some (.int k) => some k | _ => none))) = true := by kernel_rfl
theorem FnExactBitUp_k29 : ((Rows.fnExactBitUpRow.pinned == Rows.fnExactBitUpRow.pinnedBy)) = true := by kernel_rfl
theorem FnExactBitUp_k30 : ((Rows.fnExactBitUpRow.veiled == (Try.f12.params.toList ++ Rows.fnExactBitUpSpec.plain.varTypes Try.prog ++ Try.f12.resultTypes.toList).any (Try.prog.veiledRec ·))) = true := by kernel_rfl
theorem FnExactBitUp_k31 : (Rows.fnExactBitUpRow.veiledFits Try.prog Try.f12.params.toList (Try.f12.params.toList ++ Rows.fnExactBitUpSpec.plain.varTypes Try.prog ++ Try.f12.resultTypes.toList)) = true := by kernel_rfl
theorem FnExactBitUp_closed : joinedFacts Try.prog 12 Try.f12 Rows.fnExactBitUpSpec Rows.fnExactBitUpRow = true := (and2 (and2 (and2 (and2 (and2 (and2 (and2 (and2 (and2 (and2 (and2 (and2 (and2 (and2 (and2 (and2 (and2 (and2 (and2 (and2 (and2 (and2 (and2 (and2 (and2 (and2 (and2 (and2 (and2 (and2 (and2 FnExactBitUp_k0 jf1) jf2) FnExactBitUp_k3) FnExactBitUp_k4) FnExactBitUp_k5) jf6) FnExactBitUp_k7) jf8) FnExactBitUp_k9) FnExactBitUp_k10) FnExactBitUp_k11) FnExactBitUp_k12) FnExactBitUp_k13) FnExactBitUp_k14) FnExactBitUp_k15) FnExactBitUp_k16) FnExactBitUp_k17) FnExactBitUp_k18) FnExactBitUp_k19) FnExactBitUp_k20) FnExactBitUp_k21) jf22) FnExactBitUp_k23) jf24) jf25) jf26) jf27) FnExactBitUp_k28) FnExactBitUp_k29) FnExactBitUp_k30) FnExactBitUp_k31)
theorem FnExactBitUp_over : Rows.fnExactBitUpRow.holds Try.pinned (OpenSpec.ofChange Rows.fnExactBitUpSpec) :=
  OpenClaim.holds_of_wide 12 Try.f12 rfl rfl rfl rfl rfl rfl rfl ⟨rfl, rfl, rfl, rfl, rfl⟩ rfl rfl rfl rfl rfl (by kernel_rfl) Try.func12 FnExactBitUp_closed
    (of_decide_eq_true (by kernel_rfl)) (by unfold Func.isWrapper; first | (rw [if_pos (by decide +kernel)]; kernel_rfl) | (rw [if_neg (by decide +kernel)]; exact ⟨rfl, rfl⟩))
    (fun os started H enc _ => FnExactBitUp_lifted os started H enc)

theorem FnExactBitUp_proved : Rows.FnExactBitUpSaid :=
  FnExactBitUp_over
end Go.Proofs.Ytljmmaaaeojbpaa
