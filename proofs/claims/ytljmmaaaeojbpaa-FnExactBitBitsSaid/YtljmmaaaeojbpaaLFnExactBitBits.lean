/- The program's BitBits answers as the specification's BitBits at every argument; nothing that was there is written. No condition. -/
import Derived.Test.YtljmmaaaeojbpaaRows
import Derived.WalkKit
import Derived.ProofKit
import Derived.OpenShut
import Derived.ShutString
import Derived.Test.YtljmmaaaeojbpaaW4
import Derived.Test.YtljmmaaaeojbpaaJ0
import Derived.Test.YtljmmaaaeojbpaaJ1
import Derived.Test.YtljmmaaaeojbpaaJ2
import Derived.Test.YtljmmaaaeojbpaaJ3
namespace Go.Proofs.Ytljmmaaaeojbpaa
open Go.ChangeShapes Go.WideShapes Go.ChangeAt Go.RowKit
open Go.ChangeMaps (open_string shut_string)
set_option linter.unusedVariables false

theorem FnExactBitBits_own : ownKnob Try.prog.godebug = none := by kernel_rfl

set_option maxHeartbeats 1000000 in
theorem FnExactBitBits_walk (a0 : Int) (a1 : Int) (w0 : (Lit.int .i64 a0).wf = true) (w1 : (Lit.int .i64 a1).wf = true) (w : World) :
    Calls Try.prog 10 #[.int .i64 a0, .int .i64 a1] w fun e w' => e = .returned (.bool true) ∧ Below w.heap.size w w' := by
  by_cases c1 : a0 = 32
  · subst c1
    by_cases c : -2139095040 ≤ a1 ∧ a1 ≤ 2139095040
    · obtain ⟨d1, d2⟩ := c
      go_enter Try.func10, Try.ntmps10
      go_wp2_with (first | (go_at_call 42; refine (sBitBits_32 _ d1 d2 _).mono ?_; rintro e w1 ⟨rfl, hb1⟩) | (go_at_call 43; refine (iBitBits_32 _ d1 d2 _).mono ?_; rintro e w2 ⟨rfl, hb2⟩) | go_in)
      go_ret
      exact ⟨rfl, (by repeat (first | exact Below.refl _ _ | refine Below.drew ?_ | refine old_alloc ?_ _ | refine old_trans ?_ (by assumption)))⟩
    · go_enter Try.func10, Try.ntmps10
      go_wp2_with (first | (go_at_call 42; refine (sBitBits_32_out _ c _).mono ?_; rintro e w1 ⟨rfl, hb1⟩) | (go_at_call 43; refine (iBitBits_32_out _ c _).mono ?_; rintro e w2 ⟨rfl, hb2⟩) | go_in)
      go_ret
      exact ⟨rfl, (by repeat (first | exact Below.refl _ _ | refine Below.drew ?_ | refine old_alloc ?_ _ | refine old_trans ?_ (by assumption)))⟩
  by_cases c2 : a0 = 64
  · subst c2
    by_cases c : -9218868437227405312 ≤ a1 ∧ a1 ≤ 9218868437227405312
    · obtain ⟨d1, d2⟩ := c
      go_enter Try.func10, Try.ntmps10
      go_wp2_with (first | (go_at_call 42; refine (sBitBits_64 _ d1 d2 _).mono ?_; rintro e w1 ⟨rfl, hb1⟩) | (go_at_call 43; refine (iBitBits_64 _ d1 d2 _).mono ?_; rintro e w2 ⟨rfl, hb2⟩) | go_in)
      go_ret
      exact ⟨rfl, (by repeat (first | exact Below.refl _ _ | refine Below.drew ?_ | refine old_alloc ?_ _ | refine old_trans ?_ (by assumption)))⟩
    · go_enter Try.func10, Try.ntmps10
      go_wp2_with (first | (go_at_call 42; refine (sBitBits_64_out _ c _).mono ?_; rintro e w1 ⟨rfl, hb1⟩) | (go_at_call 43; refine (iBitBits_64_out _ c _).mono ?_; rintro e w2 ⟨rfl, hb2⟩) | go_in)
      go_ret
      exact ⟨rfl, (by repeat (first | exact Below.refl _ _ | refine Below.drew ?_ | refine old_alloc ?_ _ | refine old_trans ?_ (by assumption)))⟩
  go_enter Try.func10, Try.ntmps10
  go_wp2_with (first | (go_at_call 42; refine (sBitBits_no _ _ c1 c2 _).mono ?_; rintro e w1 ⟨rfl, hb1⟩) | (go_at_call 43; refine (iBitBits_no _ _ c1 c2 _).mono ?_; rintro e w2 ⟨rfl, hb2⟩) | go_in)
  go_ret
  exact ⟨rfl, (by repeat (first | exact Below.refl _ _ | refine Below.drew ?_ | refine old_alloc ?_ _ | refine old_trans ?_ (by assumption)))⟩
set_option maxRecDepth 100000 in
theorem FnExactBitBits_lifted (os : Os) (started : os.Started) (H : Type) (enc : TypeId × Value → H) :
    ReturnsInHanded {} Try.checked os 10 .any (Rows.fnExactBitBitsSpec.pre6 enc Try.prog Try.f10 Rows.fnExactBitBitsRow.domain false) (Rows.fnExactBitBitsSpec.post enc Try.prog Try.f10 false true false false) := by
  refine returnsInHanded_of_change (C := Try.checked) FnExactBitBits_own started (by kernel_rfl) Try.func10
    (ChangeSpec.witness6 (enc := enc) (C := Try.checked) false ⟨#[], #[.int .i64 0, .int .i64 0], []⟩ 8 (by kernel_rfl) (by kernel_rfl) (by kernel_rfl) (by kernel_rfl)) ?_
  intro W base args ds gs before hval0 hW hcnd _
  have hval : ∀ (j : Nat) t v, Try.f10.params[j]? = some t → args[j]? = some v → Value.okWide Try.prog W .any base t v := hval0
  have hW' := hW
  obtain ⟨p, q, hA0, hV, rfl, hfz, hnd⟩ := hW
  have hA : DataW.TrodAll enc Try.prog W 0 (fun _ => true) true Try.f10.params.toList args.toList ds p := hA0
  rw [Try.params10] at hA hval
  obtain ⟨v0, vs0, d0, ds0, p0, q0, hargs, rfl, rfl, h0, r0⟩ := trodAll_cons hA
  obtain ⟨v1, vs1, d1, ds1, p1, q1, rfl, rfl, rfl, h1, r1⟩ := trodAll_cons r0
  obtain ⟨rfl, rfl, rfl⟩ := trodAll_nil r1
  obtain rfl : args = #[v0, v1] := by cases args; simp_all
  obtain ⟨rfl, rfl⟩ := trodVars_none hV
  obtain ⟨a0, rfl, rfl, rfl, w0⟩ := open_int Try.underlying3 (hval 0 3 v0 rfl rfl) h0
  obtain ⟨a1, rfl, rfl, rfl, w1⟩ := open_int Try.underlying3 (hval 1 3 v1 rfl rfl) h1
  clear hA0 hval0
  simp only [List.append_nil] at hW'
  refine (FnExactBitBits_walk a0 a1 w0 w1 W).mono fun e W' ⟨he, hg⟩ => ?_
  subst he
  exact ⟨_, rfl, _, _, _, [], [], [], hW', (trodAll_cons_mk (shut_bool Try.underlying4 _) trodAll_mk0), (trodAll_cons_mk (shut_int Try.underlying3 w0) (trodAll_cons_mk (shut_int Try.underlying3 w1) trodAll_mk0)), rfl, hg.frame _, fun h => by cases h⟩

theorem FnExactBitBits_k0 : (Rows.fnExactBitBitsRow.wf (OpenSpec.ofChange Rows.fnExactBitBitsSpec)) = true := by kernel_rfl
theorem FnExactBitBits_k3 : (Try.f10.params.all (Try.prog.readableRec ·)) = true := by kernel_rfl
theorem FnExactBitBits_k4 : (namedTie Try.prog Rows.fnExactBitBitsRow.named Rows.fnExactBitBitsSpec.vars) = true := by kernel_rfl
theorem FnExactBitBits_k5 : ((Rows.fnExactBitBitsRow.stops == [])) = true := by kernel_rfl
theorem FnExactBitBits_k7 : ((Rows.fnExactBitBitsRow.knobs == [])) = true := by kernel_rfl
theorem FnExactBitBits_k9 : ((Rows.fnExactBitBitsRow.inPlace == Try.prog.inPlace 10)) = true := by kernel_rfl
theorem FnExactBitBits_k10 : ((Rows.fnExactBitBitsRow.unfollowed == Try.prog.unfollowed 10)) = true := by kernel_rfl
theorem FnExactBitBits_k11 : ((Rows.fnExactBitBitsRow.recurses == Try.prog.recurses 10)) = true := by kernel_rfl
theorem FnExactBitBits_k12 : ((Rows.fnExactBitBitsRow.named == Try.prog.varsNamed 10)) = true := by kernel_rfl
theorem FnExactBitBits_k13 : ((Rows.fnExactBitBitsRow.maps == (Try.f10.params.toList ++ Rows.fnExactBitBitsSpec.plain.varTypes Try.prog).any (Try.prog.mapsRec ·))) = true := by kernel_rfl
theorem FnExactBitBits_k14 : ((Rows.fnExactBitBitsRow.ifaces == (Try.f10.params.toList ++ Rows.fnExactBitBitsSpec.plain.varTypes Try.prog).any (Try.prog.ifacesRec ·))) = true := by kernel_rfl
theorem FnExactBitBits_k15 : ((Rows.fnExactBitBitsRow.mapsOut == Try.prog.mapsAmong Try.f10.resultTypes.toList)) = true := by kernel_rfl
theorem FnExactBitBits_k16 : ((Rows.fnExactBitBitsRow.loops == (Try.f10.params.toList ++ Rows.fnExactBitBitsSpec.plain.varTypes Try.prog).any (Try.prog.loopsFrom ·))) = true := by kernel_rfl
theorem FnExactBitBits_k17 : ((Rows.fnExactBitBitsRow.wideKeys == (Try.f10.params.toList ++ Rows.fnExactBitBitsSpec.plain.varTypes Try.prog ++ Try.f10.resultTypes.toList).any (Try.prog.wideKeysFrom ·))) = true := by kernel_rfl
theorem FnExactBitBits_k18 : (Rows.fnExactBitBitsSpec.vars.all (Try.prog.varReadable ·)) = true := by kernel_rfl
theorem FnExactBitBits_k19 : (Try.f10.resultTypes.all (fun t => Try.prog.readableRec t && decide (t < Try.prog.types.size))) = true := by kernel_rfl
theorem FnExactBitBits_k20 : ((Rows.fnExactBitBitsRow.ifacesOut == Try.f10.resultTypes.toList.any (Try.prog.ifacesRec ·))) = true := by kernel_rfl
theorem FnExactBitBits_k21 : ((Rows.fnExactBitBitsRow.loopsOut == Try.f10.resultTypes.toList.any (Try.prog.loopsFrom ·))) = true := by kernel_rfl
theorem FnExactBitBits_k23 : (Rows.fnExactBitBitsRow.shortTexts.isNone) = true := by kernel_rfl
theorem FnExactBitBits_k28 : ((Rows.fnExactBitBitsRow.kinds == (if Rows.fnExactBitBitsRow.domain.isEmpty then [] else Try.f10.params.toList.map fun t => match Try.prog.underlying t with | some (.int k) => some k | _ => none))) = true := by kernel_rfl
theorem FnExactBitBits_k29 : ((Rows.fnExactBitBitsRow.pinned == Rows.fnExactBitBitsRow.pinnedBy)) = true := by kernel_rfl
theorem FnExactBitBits_k30 : ((Rows.fnExactBitBitsRow.veiled == (Try.f10.params.toList ++ Rows.fnExactBitBitsSpec.plain.varTypes Try.prog ++ Try.f10.resultTypes.toList).any (Try.prog.veiledRec ·))) = true := by kernel_rfl
theorem FnExactBitBits_k31 : (Rows.fnExactBitBitsRow.veiledFits Try.prog Try.f10.params.toList (Try.f10.params.toList ++ Rows.fnExactBitBitsSpec.plain.varTypes Try.prog ++ Try.f10.resultTypes.toList)) = true := by kernel_rfl
theorem FnExactBitBits_closed : joinedFacts Try.prog 10 Try.f10 Rows.fnExactBitBitsSpec Rows.fnExactBitBitsRow = true := (and2 (and2 (and2 (and2 (and2 (and2 (and2 (and2 (and2 (and2 (and2 (and2 (and2 (and2 (and2 (and2 (and2 (and2 (and2 (and2 (and2 (and2 (and2 (and2 (and2 (and2 (and2 (and2 (and2 (and2 (and2 FnExactBitBits_k0 jf1) jf2) FnExactBitBits_k3) FnExactBitBits_k4) FnExactBitBits_k5) jf6) FnExactBitBits_k7) jf8) FnExactBitBits_k9) FnExactBitBits_k10) FnExactBitBits_k11) FnExactBitBits_k12) FnExactBitBits_k13) FnExactBitBits_k14) FnExactBitBits_k15) FnExactBitBits_k16) FnExactBitBits_k17) FnExactBitBits_k18) FnExactBitBits_k19) FnExactBitBits_k20) FnExactBitBits_k21) jf22) FnExactBitBits_k23) jf24) jf25) jf26) jf27) FnExactBitBits_k28) FnExactBitBits_k29) FnExactBitBits_k30) FnExactBitBits_k31)
theorem FnExactBitBits_over : Rows.fnExactBitBitsRow.holds Try.pinned (OpenSpec.ofChange Rows.fnExactBitBitsSpec) :=
  OpenClaim.holds_of_wide 10 Try.f10 rfl rfl rfl rfl rfl rfl rfl ⟨rfl, rfl, rfl, rfl, rfl⟩ rfl rfl rfl rfl rfl (by kernel_rfl) Try.func10 FnExactBitBits_closed
    (of_decide_eq_true (by kernel_rfl)) (by unfold Func.isWrapper; first | (rw [if_pos (by decide +kernel)]; kernel_rfl) | (rw [if_neg (by decide +kernel)]; exact ⟨rfl, rfl⟩))
    (fun os started H enc _ => FnExactBitBits_lifted os started H enc)

theorem FnExactBitBits_proved : Rows.FnExactBitBitsSaid :=
  FnExactBitBits_over
end Go.Proofs.Ytljmmaaaeojbpaa
