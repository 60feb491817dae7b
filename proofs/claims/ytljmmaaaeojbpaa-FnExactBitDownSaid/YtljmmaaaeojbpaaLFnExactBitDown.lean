/- The program's BitDown answers as the specification's BitDown at every argument; nothing that was there is written. No condition. -/
import Derived.Test.YtljmmaaaeojbpaaRows
import Derived.WalkKit
import Derived.ProofKit
import Derived.OpenShut
import Derived.ShutString
import Derived.Test.YtljmmaaaeojbpaaW6
import Derived.Test.YtljmmaaaeojbpaaJ0
import Derived.Test.YtljmmaaaeojbpaaJ1
import Derived.Test.YtljmmaaaeojbpaaJ2
import Derived.Test.YtljmmaaaeojbpaaJ3
namespace Go.Proofs.Ytljmmaaaeojbpaa
open Go.ChangeShapes Go.WideShapes Go.ChangeAt Go.RowKit
open Go.ChangeMaps (open_string shut_string)
set_option linter.unusedVariables false

theorem FnExactBitDown_own : ownKnob Try.prog.godebug = none := by kernel_rfl

set_option maxHeartbeats 1000000 in
theorem FnExactBitDown_walk (a0 : Int) (a1 : Int) (w0 : (Lit.int .i64 a0).wf = true) (w1 : (Lit.int .i64 a1).wf = true) (w : World) :
    Calls Try.prog 13 #[.int .i64 a0, .int .i64 a1] w fun e w' => e = .returned (.bool true) ∧ Below w.heap.size w w' := by
  obtain ⟨e1, e2⟩ := bounds_i64 w1
  by_cases c1 : a0 = 32
  · subst c1
    by_cases c : -2139095040 ≤ a1 ∧ a1 ≤ 2139095040
    · obtain ⟨d1, d2⟩ := c
      go_enter Try.func13, Try.ntmps13
      go_wp2_with (first | (go_at_call 47; refine (sBitDown_32 _ d1 d2 _).mono ?_; rintro e w1 ⟨rfl, hb1⟩) | (go_at_call 26; refine (iBitDown_32 _ d1 d2 _).mono ?_; rintro e w2 ⟨rfl, hb2⟩) | go_in)
      go_ret
      exact ⟨rfl, (by repeat (first | exact Below.refl _ _ | refine Below.drew ?_ | refine old_alloc ?_ _ | refine old_trans ?_ (by assumption)))⟩
    · go_enter Try.func13, Try.ntmps13
      go_wp2_with (first | (go_at_call 47; refine (sBitDown_32_out _ c e1 e2 _).mono ?_; rintro e w1 ⟨rfl, hb1⟩) | (go_at_call 26; refine (iBitDown_32_out _ c _).mono ?_; rintro e w2 ⟨rfl, hb2⟩) | go_in)
      go_ret
      exact ⟨rfl, (by repeat (first | exact Below.refl _ _ | refine Below.drew ?_ | refine old_alloc ?_ _ | refine old_trans ?_ (by assumption)))⟩
  by_cases c2 : a0 = 64
  · subst c2
    by_cases c : -9218868437227405312 ≤ a1 ∧ a1 ≤ 9218868437227405312
    · obtain ⟨d1, d2⟩ := c
      go_enter Try.func13, Try.ntmps13
      go_wp2_with (first | (go_at_call 47; refine (sBitDown_64 _ d1 d2 _).mono ?_; rintro e w1 ⟨rfl, hb1⟩) | (go_at_call 26; refine (iBitDown_64 _ d1 d2 _).mono ?_; rintro e w2 ⟨rfl, hb2⟩) | go_in)
      go_ret
      exact ⟨rfl, (by repeat (first | exact Below.refl _ _ | refine Below.drew ?_ | refine old_alloc ?_ _ | refine old_trans ?_ (by assumption)))⟩
    · go_enter Try.func13, Try.ntmps13
      go_wp2_with (first | (go_at_call 47; refine (sBitDown_64_out _ c e1 e2 _).mono ?_; rintro e w1 ⟨rfl, hb1⟩) | (go_at_call 26; refine (iBitDown_64_out _ c _).mono ?_; rintro e w2 ⟨rfl, hb2⟩) | go_in)
      go_ret
      exact ⟨rfl, (by repeat (first | exact Below.refl _ _ | refine Below.drew ?_ | refine old_alloc ?_ _ | refine old_trans ?_ (by assumption)))⟩
  go_enter Try.func13, Try.ntmps13
  go_wp2_with (first | (go_at_call 47; refine (sBitDown_no _ _ c1 c2 _).mono ?_; rintro e w1 ⟨rfl, hb1⟩) | (go_at_call 26; refine (iBitDown_no _ _ c1 c2 _).mono ?_; rintro e w2 ⟨rfl, hb2⟩) | go_in)
  go_ret
  exact ⟨rfl, (by repeat (first | exact Below.refl _ _ | refine Below.drew ?_ | refine old_alloc ?_ _ | refine old_trans ?_ (by assumption)))⟩
set_option maxRecDepth 100000 in
theorem FnExactBitDown_lifted (os : Os) (started : os.Started) (H : Type) (enc : TypeId × Value → H) :
    ReturnsInHanded {} Try.checked os 13 .any (Rows.fnExactBitDownSpec.pre6 enc Try.prog Try.f13 Rows.fnExactBitDownRow.domain false) (Rows.fnExactBitDownSpec.post enc Try.prog Try.f13 false true false false) := by
  refine returnsInHanded_of_change (C := Try.checked) FnExactBitDown_own started (by kernel_rfl) Try.func13
    (ChangeSpec.witness6 (enc := enc) (C := Try.checked) false ⟨#[], #[.int .i64 0, .int .i64 0], []⟩ 8 (by kernel_rfl) (by kernel_rfl) (by kernel_rfl) (by kernel_rfl)) ?_
  intro W base args ds gs before hval0 hW hcnd _
  have hval : ∀ (j : Nat) t v, Try.f13.params[j]? = some t → args[j]? = some v → Value.okWide Try.prog W .any base t v := hval0
  have hW' := hW
  obtain ⟨p, q, hA0, hV, rfl, hfz, hnd⟩ := hW
  have hA : DataW.TrodAll enc Try.prog W 0 (fun _ => true) true Try.f13.params.toList args.toList ds p := hA0
  rw [Try.params13] at hA hval
  obtain ⟨v0, vs0, d0, ds0, p0, q0, hargs, rfl, rfl, h0, r0⟩ := trodAll_cons hA
  obtain ⟨v1, vs1, d1, ds1, p1, q1, rfl, rfl, rfl, h1, r1⟩ := trodAll_cons r0
  obtain ⟨rfl, rfl, rfl⟩ := trodAll_nil r1
  obtain rfl : args = #[v0, v1] := by cases args; simp_all
  obtain ⟨rfl, rfl⟩ := trodVars_none hV
  obtain ⟨a0, rfl, rfl, rfl, w0⟩ := open_int Try.underlying3 (hval 0 3 v0 rfl rfl) h0
  obtain ⟨a1, rfl, rfl, rfl, w1⟩ := open_int Try.underlying3 (hval 1 3 v1 rfl rfl) h1
  clear hA0 hval0
  simp only [List.append_nil] at hW'
  refine (FnExactBitDown_walk a0 a1 w0 w1 W).mono fun e W' ⟨he, hg⟩ => ?_
  subst he
  exact ⟨_, rfl, _, _, _, [], [], [], hW', (trodAll_cons_mk (shut_bool Try.underlying4 _) trodAll_mk0), (trodAll_cons_mk (shut_int Try.underlying3 w0) (trodAll_cons_mk (shut_int Try.underlying3 w1) trodAll_mk0)), rfl, hg.frame _, fun h => by cases h⟩

theorem FnExactBitDown_k0 : (Rows.fnExactBitDownRow.wf (OpenSpec.ofChange Rows.fnExactBitDownSpec)) = true := by kernel_rfl
theorem FnExactBitDown_k3 : (Try.f13.params.all (Try.prog.readableRec ·)) = true := by kernel_rfl
theorem FnExactBitDown_k4 : (namedTie Try.prog Rows.fnExactBitDownRow.named Rows.fnExactBitDownSpec.vars) = true := by kernel_rfl
theorem FnExactBitDown_k5 : ((Rows.fnExactBitDownRow.stops == [])) = true := by kernel_rfl
theorem FnExactBitDown_k7 : ((Rows.fnExactBitDownRow.knobs == [])) = true := by kernel_rfl
theorem FnExactBitDown_k9 : ((Rows.fnExactBitDownRow.inPlace == Try.prog.inPlace 13)) = true := by kernel_rfl
theorem FnExactBitDown_k10 : ((Rows.fnExactBitDownRow.unfollowed == Try.prog.unfollowed 13)) = true := by kernel_rfl
theorem FnExactBitDown_k11 : ((Rows.fnExactBitDownRow.recurses == Try.prog.recurses 13)) = true := by kernel_rfl
theorem FnExactBitDown_k12 : ((Rows.fnExactBitDownRow.named == Try.prog.varsNamed 13)) = true := by kernel_rfl
theorem FnExactBitDown_k13 : ((Rows.fnExactBitDownRow.maps == (Try.f13.params.toList ++ Rows.fnExactBitDownSpec.plain.varTypes Try.prog).any (Try.prog.mapsRec ·))) = true := by kernel_rfl
theorem FnExactBitDown_k14 : ((Rows.fnExactBitDownRow.ifaces == (Try.f13.params.toList ++ Rows.fnExactBitDownSpec.plain.varTypes Try.prog).any (Try.prog.ifacesRec ·))) = true := by kernel_rfl
theorem FnExactBitDown_k15 : ((Rows.fnExactBitDownRow.mapsOut == Try.prog.mapsAmong Try.f13.resultTypes.toList)) = true := by kernel_rfl
theorem FnExactBitDown_k16 : ((Rows.fnExactBitDownRow.loops == (Try.f13.params.toList ++ Rows.fnExactBitDownSpec.plain.varTypes Try.prog).any (Try.prog.loopsFrom ·))) = true := by kernel_rfl
theorem FnExactBitDown_k17 : ((Rows.fnExactBitDownRow.wideKeys == (Try.f13.params.toList ++ Rows.fnExactBitDownSpec.plain.varTypes Try.prog ++ Try.f13.resultTypes.toList).any (Try.prog.wideKeysFrom ·))) = true := by kernel_rfl
theorem FnExactBitDown_k18 : (Rows.fnExactBitDownSpec.vars.all (Try.prog.varReadable ·)) = true := by kernel_rfl
theorem FnExactBitDown_k19 : (Try.f13.resultTypes.all (fun t => Try.prog.readableRec t && decide (t < Try.prog.types.size))) = true := by kernel_rfl
theorem FnExactBitDown_k20 : ((Rows.fnExactBitDownRow.ifacesOut == Try.f13.resultTypes.toList.any (Try.prog.ifacesRec ·))) = true := by kernel_rfl
theorem FnExactBitDown_k21 : ((Rows.fnExactBitDownRow.loopsOut == Try.f13.resultTypes.toList.any (Try.prog.loopsFrom ·))) = true := by kernel_rfl
theorem FnExactBitDown_k23 : (Rows.fnExactBitDownRow.shortTexts.isNone) = true := by kernel_rfl
theorem FnExactBitDown_k28 : ((Rows.fnExactBitDownRow.kinds == (if Rows.fnExactBitDownRow.domain.isEmpty then [] else Try.f13.params.toList.map fun t => match Try.prog.underlying t with | some (.int k) => some k | _ => none))) = true := by kernel_rfl
theorem FnExactBitDown_k29 : ((Rows.fnExactBitDownRow.pinned == Rows.fnExactBitDownRow.pinnedBy)) = true := by kernel_rfl
theorem FnExactBitDown_k30 : ((Rows.fnExactBitDownRow.veiled == (Try.f13.params.toList ++ Rows.fnExactBitDownSpec.plain.varTypes Try.prog ++ Try.f13.resultTypes.toList).any (Try.prog.veiledRec ·))) = true := by kernel_rfl
theorem FnExactBitDown_k31 : (Rows.fnExactBitDownRow.veiledFits Try.prog Try.f13.params.toList (Try.f13.params.toList ++ Rows.fnExactBitDownSpec.plain.varTypes Try.prog ++ Try.f13.resultTypes.toList)) = true := by kernel_rfl
theorem FnExactBitDown_closed : joinedFacts Try.prog 13 Try.f13 Rows.fnExactBitDownSpec Rows.fnExactBitDownRow = true := (and2 (and2 (and2 (and2 (and2 (and2 (and2 (and2 (and2 (and2 (and2 (and2 (and2 (and2 (and2 (and2 (and2 (and2 (and2 (and2 (and2 (and2 (and2 (and2 (and2 (and2 (and2 (and2 (and2 (and2 (and2 FnExactBitDown_k0 jf1) jf2) FnExactBitDown_k3) FnExactBitDown_k4) FnExactBitDown_k5) jf6) FnExactBitDown_k7) jf8) FnExactBitDown_k9) FnExactBitDown_k10) FnExactBitDown_k11) FnExactBitDown_k12) FnExactBitDown_k13) FnExactBitDown_k14) FnExactBitDown_k15) FnExactBitDown_k16) FnExactBitDown_k17) FnExactBitDown_k18) FnExactBitDown_k19) FnExactBitDown_k20) FnExactBitDown_k21) jf22) FnExactBitDown_k23) jf24) jf25) jf26) jf27) FnExactBitDown_k28) FnExactBitDown_k29) FnExactBitDown_k30) FnExactBitDown_k31)
theorem FnExactBitDown_over : Rows.fnExactBitDownRow.holds Try.pinned (OpenSpec.ofChange Rows.fnExactBitDownSpec) :=
  OpenClaim.holds_of_wide 13 Try.f13 rfl rfl rfl rfl rfl rfl rfl ⟨rfl, rfl, rfl, rfl, rfl⟩ rfl rfl rfl rfl rfl (by kernel_rfl) Try.func13 FnExactBitDown_closed
    (of_decide_eq_true (by kernel_rfl)) (by unfold Func.isWrapper; first | (rw [if_pos (by decide +kernel)]; kernel_rfl) | (rw [if_neg (by decide +kernel)]; exact ⟨rfl, rfl⟩))
    (fun os started H enc _ => FnExactBitDown_lifted os started H enc)

theorem FnExactBitDown_proved : Rows.FnExactBitDownSaid :=
  FnExactBitDown_over
end Go.Proofs.Ytljmmaaaeojbpaa
