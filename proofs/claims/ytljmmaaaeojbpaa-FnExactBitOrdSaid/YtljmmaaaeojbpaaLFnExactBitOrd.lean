/- The program's BitOrd answers as the specification's BitOrd at every argument; nothing that was there is written. No condition. -/
import Derived.Test.YtljmmaaaeojbpaaRows
import Derived.WalkKit
import Derived.ProofKit
import Derived.OpenShut
import Derived.ShutString
import Derived.Test.YtljmmaaaeojbpaaW3
import Derived.Test.YtljmmaaaeojbpaaJ0
import Derived.Test.YtljmmaaaeojbpaaJ1
import Derived.Test.YtljmmaaaeojbpaaJ2
import Derived.Test.YtljmmaaaeojbpaaJ3
namespace Go.Proofs.Ytljmmaaaeojbpaa
open Go.ChangeShapes Go.WideShapes Go.ChangeAt Go.RowKit
open Go.ChangeMaps (open_string shut_string)
set_option linter.unusedVariables false

theorem FnExactBitOrd_own : ownKnob Try.prog.godebug = none := by kernel_rfl

set_option maxHeartbeats 1000000 in
theorem FnExactBitOrd_walk (a0 : Int) (a1 : Int) (w0 : (Lit.int .i64 a0).wf = true) (w1 : (Lit.int .u64 a1).wf = true) (w : World) :
    Calls Try.prog 9 #[.int .i64 a0, .int .u64 a1] w fun e w' => e = .returned (.bool true) ∧ Below w.heap.size w w' := by
  obtain ⟨d1, d2'⟩ := bounds_u64 w1
  have d2 : a1 < 18446744073709551616 := by omega
  by_cases c1 : a0 = 32
  · subst c1
    go_enter Try.func9, Try.ntmps9
    go_wp2_with (first | (go_at_call 40; refine (sBitOrd_32 _ d1 d2 _).mono ?_; rintro e w1 ⟨rfl, hb1⟩) | (go_at_call 41; refine (iBitOrd_32 _ d1 d2 _).mono ?_; rintro e w2 ⟨rfl, hb2⟩) | go_in)
    go_ret
    exact ⟨rfl, (by repeat (first | exact Below.refl _ _ | refine Below.drew ?_ | refine old_alloc ?_ _ | refine old_trans ?_ (by assumption)))⟩
  by_cases c2 : a0 = 64
  · subst c2
    go_enter Try.func9, Try.ntmps9
    go_wp2_with (first | (go_at_call 40; refine (sBitOrd_64 _ d1 d2 _).mono ?_; rintro e w1 ⟨rfl, hb1⟩) | (go_at_call 41; refine (iBitOrd_64 _ d1 d2 _).mono ?_; rintro e w2 ⟨rfl, hb2⟩) | go_in)
    go_ret
    exact ⟨rfl, (by repeat (first | exact Below.refl _ _ | refine Below.drew ?_ | refine old_alloc ?_ _ | refine old_trans ?_ (by assumption)))⟩
  go_enter Try.func9, Try.ntmps9
  go_wp2_with (first | (go_at_call 40; refine (sBitOrd_no _ _ c1 c2 _).mono ?_; rintro e w1 ⟨rfl, hb1⟩) | (go_at_call 41; refine (iBitOrd_no _ _ c1 c2 _).mono ?_; rintro e w2 ⟨rfl, hb2⟩) | go_in)
  go_ret
  exact ⟨rfl, (by repeat (first | exact Below.refl _ _ | refine Below.drew ?_ | refine old_alloc ?_ _ | refine old_trans ?_ (by assumption)))⟩
set_option maxRecDepth 100000 in
theorem FnExactBitOrd_lifted (os : Os) (started : os.Started) (H : Type) (enc : TypeId × Value → H) :
    ReturnsInHanded {} Try.checked os 9 .any (Rows.fnExactBitOrdSpec.pre6 enc Try.prog Try.f9 Rows.fnExactBitOrdRow.domain false) (Rows.fnExactBitOrdSpec.post enc Try.prog Try.f9 false true false false) := by
  refine returnsInHanded_of_change (C := Try.checked) FnExactBitOrd_own started (by kernel_rfl) Try.func9
    (ChangeSpec.witness6 (enc := enc) (C := Try.checked) false ⟨#[], #[.int .i64 0, .int .u64 0], []⟩ 8 (by kernel_rfl) (by kernel_rfl) (by kernel_rfl) (by kernel_rfl)) ?_
  intro W base args ds gs before hval0 hW hcnd _
  have hval : ∀ (j : Nat) t v, Try.f9.params[j]? = some t → args[j]? = some v → Value.okWide Try.prog W .any base t v := hval0
  have hW' := hW
  obtain ⟨p, q, hA0, hV, rfl, hfz, hnd⟩ := hW
  have hA : DataW.TrodAll enc Try.prog W 0 (fun _ => true) true Try.f9.params.toList args.toList ds p := hA0
  rw [Try.params9] at hA hval
  obtain ⟨v0, vs0, d0, ds0, p0, q0, hargs, rfl, rfl, h0, r0⟩ := trodAll_cons hA
  obtain ⟨v1, vs1, d1, ds1, p1, q1, rfl, rfl, rfl, h1, r1⟩ := trodAll_cons r0
  obtain ⟨rfl, rfl, rfl⟩ := trodAll_nil r1
  obtain rfl : args = #[v0, v1] := by cases args; simp_all
  obtain ⟨rfl, rfl⟩ := trodVars_none hV
  obtain ⟨a0, rfl, rfl, rfl, w0⟩ := open_int Try.underlying3 (hval 0 3 v0 rfl rfl) h0
  obtain ⟨a1, rfl, rfl, rfl, w1⟩ := open_int Try.underlying25 (hval 1 25 v1 rfl rfl) h1
  clear hA0 hval0
  simp only [List.append_nil] at hW'
  refine (FnExactBitOrd_walk a0 a1 w0 w1 W).mono fun e W' ⟨he, hg⟩ => ?_
  subst he
  exact ⟨_, rfl, _, _, _, [], [], [], hW', (trodAll_cons_mk (shut_bool Try.underlying4 _) trodAll_mk0), (trodAll_cons_mk (shut_int Try.underlying3 w0) (trodAll_cons_mk (shut_int Try.underlying25 w1) trodAll_mk0)), rfl, hg.frame _, fun h => by cases h⟩

theorem FnExactBitOrd_k0 : (Rows.fnExactBitOrdRow.wf (OpenSpec.ofChange Rows.fnExactBitOrdSpec)) = true := by kernel_rfl
theorem FnExactBitOrd_k3 : (Try.f9.params.all (Try.prog.readableRec ·)) = true := by kernel_rfl
theorem FnExactBitOrd_k4 : (namedTie Try.prog Rows.fnExactBitOrdRow.named Rows.fnExactBitOrdSpec.vars) = true := by kernel_rfl
theorem FnExactBitOrd_k5 : ((Rows.fnExactBitOrdRow.stops == [])) = true := by kernel_rfl
theorem FnExactBitOrd_k7 : ((Rows.fnExactBitOrdRow.knobs == [])) = true := by kernel_rfl
theorem FnExactBitOrd_k9 : ((Rows.fnExactBitOrdRow.inPlace == Try.prog.inPlace 9)) = true := by kernel_rfl
theorem FnExactBitOrd_k10 : ((Rows.fnExactBitOrdRow.unfollowed == Try.prog.unfollowed 9)) = true := by kernel_rfl
theorem FnExactBitOrd_k11 : ((Rows.fnExactBitOrdRow.recurses == Try.prog.recurses 9)) = true := by kernel_rfl
theorem FnExactBitOrd_k12 : ((Rows.fnExactBitOrdRow.named == Try.prog.varsNamed 9)) = true := by kernel_rfl
theorem FnExactBitOrd_k13 : ((Rows.fnExactBitOrdRow.maps == (Try.f9.params.toList ++ Rows.fnExactBitOrdSpec.plain.varTypes Try.prog).any (Try.prog.mapsRec ·))) = true := by kernel_rfl
theorem FnExactBitOrd_k14 : ((Rows.fnExactBitOrdRow.ifaces == (Try.f9.params.toList ++ Rows.fnExactBitOrdSpec.plain.varTypes Try.prog).any (Try.prog.ifacesRec ·))) = true := by kernel_rfl
theorem FnExactBitOrd_k15 : ((Rows.fnExactBitOrdRow.mapsOut == Try.prog.mapsAmong Try.f9.resultTypes.toList)) = true := by kernel_rfl
theorem FnExactBitOrd_k16 : ((Rows.fnExactBitOrdRow.loops == (Try.f9.params.toList ++ Rows.fnExactBitOrdSpec.plain.varTypes Try.prog).any (Try.prog.loopsFrom ·))) = true := by kernel_rfl
theorem FnExactBitOrd_k17 : ((Rows.fnExactBitOrdRow.wideKeys == (Try.f9.params.toList ++ Rows.fnExactBitOrdSpec.plain.varTypes Try.prog ++ Try.f9.resultTypes.toList).any (Try.prog.wideKeysFrom ·))) = true := by kernel_rfl
theorem FnExactBitOrd_k18 : (Rows.fnExactBitOrdSpec.vars.all (Try.prog.varReadable ·)) = true := by kernel_rfl
theorem FnExactBitOrd_k19 : (Try.f9.resultTypes.all (fun t => Try.prog.readableRec t && decide (t < Try.prog.types.size))) = true := by kernel_rfl
theorem FnExactBitOrd_k20 : ((Rows.fnExactBitOrdRow.ifacesOut == Try.f9.resultTypes.toList.any (Try.prog.ifacesRec ·))) = true := by kernel_rfl
theorem FnExactBitOrd_k21 : ((Rows.fnExactBitOrdRow.loopsOut == Try.f9.resultTypes.toList.any (Try.prog.loopsFrom ·))) = true := by kernel_rfl
theorem FnExactBitOrd_k23 : (Rows.fnExactBitOrdRow.shortTexts.isNone) = true := by kernel_rfl
theorem FnExactBitOrd_k28 : ((Rows.fnExactBitOrdRow.kinds == (if Rows.fnExactBitOrdRow.domain.isEmpty then [] else Try.f9.params.toList.map fun t => match Try.prog.underlying t with | some (.int k) => some k | _ => none))) = true := by kernel_rfl
theorem FnExactBitOrd_k29 : ((Rows.fnExactBitOrdRow.pinned == Rows.fnExactBitOrdRow.pinnedBy)) = true := by kernel_rfl
theorem FnExactBitOrd_k30 : ((Rows.fnExactBitOrdRow.veiled == (Try.f9.params.toList ++ Rows.fnExactBitOrdSpec.plain.varTypes Try.prog ++ Try.f9.resultTypes.toList).any (Try.prog.veiledRec ·))) = true := by kernel_rfl
theorem FnExactBitOrd_k31 : (Rows.fnExactBitOrdRow.veiledFits Try.prog Try.f9.params.toList (Try.f9.params.toList ++ Rows.fnExactBitOrdSpec.plain.varTypes Try.prog ++ Try.f9.resultTypes.toList)) = true := by kernel_rfl
theorem FnExactBitOrd_closed : joinedFacts Try.prog 9 Try.f9 Rows.fnExactBitOrdSpec Rows.fnExactBitOrdRow = true := (and2 (and2 (and2 (and2 (and2 (and2 (and2 (and2 (and2 (and2 (and2 (and2 (and2 (and2 (and2 (and2 (and2 (and2 (and2 (and2 (and2 (and2 (and2 (and2 (and2 (and2 (and2 (and2 (and2 (and2 (and2 FnExactBitOrd_k0 jf1) jf2) FnExactBitOrd_k3) FnExactBitOrd_k4) FnExactBitOrd_k5) jf6) FnExactBitOrd_k7) jf8) FnExactBitOrd_k9) FnExactBitOrd_k10) FnExactBitOrd_k11) FnExactBitOrd_k12) FnExactBitOrd_k13) FnExactBitOrd_k14) FnExactBitOrd_k15) FnExactBitOrd_k16) FnExactBitOrd_k17) FnExactBitOrd_k18) FnExactBitOrd_k19) FnExactBitOrd_k20) FnExactBitOrd_k21) jf22) FnExactBitOrd_k23) jf24) jf25) jf26) jf27) FnExactBitOrd_k28) FnExactBitOrd_k29) FnExactBitOrd_k30) FnExactBitOrd_k31)
theorem FnExactBitOrd_over : Rows.fnExactBitOrdRow.holds Try.pinned (OpenSpec.ofChange Rows.fnExactBitOrdSpec) :=
  OpenClaim.holds_of_wide 9 Try.f9 rfl rfl rfl rfl rfl rfl rfl ⟨rfl, rfl, rfl, rfl, rfl⟩ rfl rfl rfl rfl rfl (by kernel_rfl) Try.func9 FnExactBitOrd_closed
    (of_decide_eq_true (by kernel_rfl)) (by unfold Func.isWrapper; first | (rw [if_pos (by decide +kernel)]; kernel_rfl) | (rw [if_neg (by decide +kernel)]; exact ⟨rfl, rfl⟩))
    (fun os started H enc _ => FnExactBitOrd_lifted os started H enc)

theorem FnExactBitOrd_proved : Rows.FnExactBitOrdSaid :=
  FnExactBitOrd_over
end Go.Proofs.Ytljmmaaaeojbpaa
