/- The program's BitPartOf answers as the specification's BitPartOf at every argument; nothing that was there is written. No condition. -/
import Derived.Test.YtljmmaaaeojbpaaRows
import Derived.WalkKit
import Derived.ProofKit
import Derived.OpenShut
import Derived.ShutString
import Derived.Test.YtljmmaaaeojbpaaPA
import Derived.Test.YtljmmaaaeojbpaaJ0
import Derived.Test.YtljmmaaaeojbpaaJ1
import Derived.Test.YtljmmaaaeojbpaaJ2
import Derived.Test.YtljmmaaaeojbpaaJ3
namespace Go.Proofs.Ytljmmaaaeojbpaa
open Go.ChangeShapes Go.WideShapes Go.ChangeAt Go.RowKit
open Go.ChangeMaps (open_string shut_string)
set_option linter.unusedVariables false

theorem FnExactBitPartOf_own : ownKnob Try.prog.godebug = none := by kernel_rfl

set_option maxHeartbeats 1000000 in
theorem FnExactBitPartOf_walk (a0 : Int) (a1 : Int) (w0 : (Lit.int .i64 a0).wf = true) (w1 : (Lit.int .i64 a1).wf = true) (w : World) :
    Calls Try.prog 14 #[.int .i64 a0, .int .i64 a1] w fun e w' => e = .returned (.bool true) ∧ Below w.heap.size w w' := by
  by_cases c1 : a0 = 32
  · subst c1
    by_cases c : -2139095040 < a1 ∧ a1 < 2139095040
    · obtain ⟨d1, d2⟩ := c
      go_enter Try.func14, Try.ntmps14
      go_wp2_with (first | (go_at_call 22; refine (sPart_32 _ d1 d2 _).mono ?_; rintro e w1 ⟨rfl, hb1⟩; unfold partV) | (go_at_call 21; refine (iPart_32 _ d1 d2 _).mono ?_; rintro e w2 ⟨rfl, hb2⟩; obtain ⟨hc, hf⟩ := bcell hb2; obtain ⟨z0, z1, z2, z3, z4, z5⟩ := bsize hb2; unfold partV) | go_in)
      go_ret
      exact ⟨rfl, (by repeat (first | exact Below.refl _ _ | refine Below.drew ?_ | refine old_alloc ?_ _ | refine old_trans ?_ (by assumption)))⟩
    · go_enter Try.func14, Try.ntmps14
      go_wp2_with (first | (go_at_call 22; refine (sPart_32_not _ c _).mono ?_; rintro e w1 ⟨rfl, hb1⟩; unfold partNo) | (go_at_call 21; refine (iPart_32_not _ c _).mono ?_; rintro e w2 ⟨rfl, hb2⟩; obtain ⟨hc, hf⟩ := bcell hb2; obtain ⟨z0, z1, z2, z3, z4, z5⟩ := bsize hb2; unfold partNo) | go_in)
      go_ret
      exact ⟨rfl, (by repeat (first | exact Below.refl _ _ | refine Below.drew ?_ | refine old_alloc ?_ _ | refine old_trans ?_ (by assumption)))⟩
  by_cases c2 : a0 = 64
  · subst c2
    by_cases c : -9218868437227405312 < a1 ∧ a1 < 9218868437227405312
    · obtain ⟨d1, d2⟩ := c
      go_enter Try.func14, Try.ntmps14
      go_wp2_with (first | (go_at_call 22; refine (sPart_64 _ d1 d2 _).mono ?_; rintro e w1 ⟨rfl, hb1⟩; unfold partV) | (go_at_call 21; refine (iPart_64 _ d1 d2 _).mono ?_; rintro e w2 ⟨rfl, hb2⟩; obtain ⟨hc, hf⟩ := bcell hb2; obtain ⟨z0, z1, z2, z3, z4, z5⟩ := bsize hb2; unfold partV) | go_in)
      go_ret
      exact ⟨rfl, (by repeat (first | exact Below.refl _ _ | refine Below.drew ?_ | refine old_alloc ?_ _ | refine old_trans ?_ (by assumption)))⟩
    · go_enter Try.func14, Try.ntmps14
      go_wp2_with (first | (go_at_call 22; refine (sPart_64_not _ c _).mono ?_; rintro e w1 ⟨rfl, hb1⟩; unfold partNo) | (go_at_call 21; refine (iPart_64_not _ c _).mono ?_; rintro e w2 ⟨rfl, hb2⟩; obtain ⟨hc, hf⟩ := bcell hb2; obtain ⟨z0, z1, z2, z3, z4, z5⟩ := bsize hb2; unfold partNo) | go_in)
      go_ret
      exact ⟨rfl, (by repeat (first | exact Below.refl _ _ | refine Below.drew ?_ | refine old_alloc ?_ _ | refine old_trans ?_ (by assumption)))⟩
  go_enter Try.func14, Try.ntmps14
  go_wp2_with (first | (go_at_call 22; refine (sPart_no _ _ c1 c2 _).mono ?_; rintro e w1 ⟨rfl, hb1⟩; unfold partNo) | (go_at_call 21; refine (iPart_no _ _ c1 c2 _).mono ?_; rintro e w2 ⟨rfl, hb2⟩; obtain ⟨hc, hf⟩ := bcell hb2; obtain ⟨z0, z1, z2, z3, z4, z5⟩ := bsize hb2; unfold partNo) | go_in)
  go_ret
  exact ⟨rfl, (by repeat (first | exact Below.refl _ _ | refine Below.drew ?_ | refine old_alloc ?_ _ | refine old_trans ?_ (by assumption)))⟩
set_option maxRecDepth 100000 in
theorem FnExactBitPartOf_lifted (os : Os) (started : os.Started) (H : Type) (enc : TypeId × Value → H) :
    ReturnsInHanded {} Try.checked os 14 .any (Rows.fnExactBitPartOfSpec.pre6 enc Try.prog Try.f14 Rows.fnExactBitPartOfRow.domain false) (Rows.fnExactBitPartOfSpec.post enc Try.prog Try.f14 false true false false) := by
  refine returnsInHanded_of_change (C := Try.checked) FnExactBitPartOf_own started (by kernel_rfl) Try.func14
    (ChangeSpec.witness6 (enc := enc) (C := Try.checked) false ⟨#[], #[.int .i64 0, .int .i64 0], []⟩ 8 (by kernel_rfl) (by kernel_rfl) (by kernel_rfl) (by kernel_rfl)) ?_
  intro W base args ds gs before hval0 hW hcnd _
  have hval : ∀ (j : Nat) t v, Try.f14.params[j]? = some t → args[j]? = some v → Value.okWide Try.prog W .any base t v := hval0
  have hW' := hW
  obtain ⟨p, q, hA0, hV, rfl, hfz, hnd⟩ := hW
  have hA : DataW.TrodAll enc Try.prog W 0 (fun _ => true) true Try.f14.params.toList args.toList ds p := hA0
  rw [Try.params14] at hA hval
  obtain ⟨v0, vs0, d0, ds0, p0, q0, hargs, rfl, rfl, h0, r0⟩ := trodAll_cons hA
  obtain ⟨v1, vs1, d1, ds1, p1, q1, rfl, rfl, rfl, h1, r1⟩ := trodAll_cons r0
  obtain ⟨rfl, rfl, rfl⟩ := trodAll_nil r1
  obtain rfl : args = #[v0, v1] := by cases args; simp_all
  obtain ⟨rfl, rfl⟩ := trodVars_none hV
  obtain ⟨a0, rfl, rfl, rfl, w0⟩ := open_int Try.underlying3 (hval 0 3 v0 rfl rfl) h0
  obtain ⟨a1, rfl, rfl, rfl, w1⟩ := open_int Try.underlying3 (hval 1 3 v1 rfl rfl) h1
  clear hA0 hval0
  simp only [List.append_nil] at hW'
  refine (FnExactBitPartOf_walk a0 a1 w0 w1 W).mono fun e W' ⟨he, hg⟩ => ?_
  subst he
  exact ⟨_, rfl, _, _, _, [], [], [], hW', (trodAll_cons_mk (shut_bool Try.underlying4 _) trodAll_mk0), (trodAll_cons_mk (shut_int Try.underlying3 w0) (trodAll_cons_mk (shut_int Try.underlying3 w1) trodAll_mk0)), rfl, hg.frame _, fun h => by cases h⟩

theorem FnExactBitPartOf_k0 : (Rows.fnExactBitPartOfRow.wf (OpenSpec.ofChange Rows.fnExactBitPartOfSpec)) = true := by kernel_rfl
theorem FnExactBitPartOf_k3 : (Try.f14.params.all (Try.prog.readableRec ·)) = true := by kernel_rfl
theorem FnExactBitPartOf_k4 : (namedTie Try.prog Rows.fnExactBitPartOfRow.named Rows.fnExactBitPartOfSpec.vars) = true := by kernel_rfl
theorem FnExactBitPartOf_k5 : ((Rows.fnExactBitPartOfRow.stops == [])) = true := by kernel_rfl
theorem FnExactBitPartOf_k7 : ((Rows.fnExactBitPartOfRow.knobs == [])) = true := by kernel_rfl
theorem FnExactBitPartOf_k9 : ((Rows.fnExactBitPartOfRow.inPlace == Try.prog.inPlace 14)) = true := by kernel_rfl
theorem FnExactBitPartOf_k10 : ((Rows.fnExactBitPartOfRow.unfollowed == Try.prog.unfollowed 14)) = true := by kernel_rfl
theorem FnExactBitPartOf_k11 : ((Rows.fnExactBitPartOfRow.recurses == Try.prog.recurses 14)) = true := by kernel_rfl
theorem FnExactBitPartOf_k12 : ((Rows.fnExactBitPartOfRow.named == Try.prog.varsNamed 14)) = true := by kernel_rfl
theorem FnExactBitPartOf_k13 : ((Rows.fnExactBitPartOfRow.maps == (Try.f14.params.toList ++ Rows.fnExactBitPartOfSpec.plain.varTypes Try.prog).any (Try.prog.mapsRec ·))) = true := by kernel_rfl
theorem FnExactBitPartOf_k14 : ((Rows.fnExactBitPartOfRow.ifaces == (Try.f14.params.toList ++ Rows.fnExactBitPartOfSpec.plain.varTypes Try.prog).any (Try.prog.ifacesRec ·))) = true := by kernel_rfl
theorem FnExactBitPartOf_k15 : ((Rows.fnExactBitPartOfRow.mapsOut == Try.prog.mapsAmong Try.f14.resultTypes.toList)) = true := by kernel_rfl
theorem FnExactBitPartOf_k16 : ((Rows.fnExactBitPartOfRow.loops == (Try.f14.params.toList ++ Rows.fnExactBitPartOfSpec.plain.varTypes Try.prog).any (Try.prog.loopsFrom ·))) = true := by kernel_rfl
theorem FnExactBitPartOf_k17 : ((Rows.fnExactBitPartOfRow.wideKeys == (Try.f14.params.toList ++ Rows.fnExactBitPartOfSpec.plain.varTypes Try.prog ++ Try.f14.resultTypes.toList).any (Try.prog.wideKeysFrom ·))) = true := by kernel_rfl
theorem FnExactBitPartOf_k18 : (Rows.fnExactBitPartOfSpec.vars.all (Try.prog.varReadable ·)) = true := by kernel_rfl
theorem FnExactBitPartOf_k19 : (Try.f14.resultTypes.all (fun t => Try.prog.readableRec t && decide (t < Try.prog.types.size))) = true := by kernel_rfl
theorem FnExactBitPartOf_k20 : ((Rows.fnExactBitPartOfRow.ifacesOut == Try.f14.resultTypes.toList.any (Try.prog.ifacesRec ·))) = true := by kernel_rfl
theorem FnExactBitPartOf_k21 : ((Rows.fnExactBitPartOfRow.loopsOut == Try.f14.resultTypes.toList.any (Try.prog.loopsFrom ·))) = true := by kernel_rfl
theorem FnExactBitPartOf_k23 : (Rows.fnExactBitPartOfRow.shortTexts.isNone) = true := by kernel_rfl
theorem FnExactBitPartOf_k28 : ((Rows.fnExactBitPartOfRow.kinds == (if Rows.fnExactBitPartOfRow.domain.isEmpty then [] else Try.f14.params.toList.map fun t => match Try.prog.underlying t with | some (.int k) => some k | _ => none))) = true := by kernel_rfl
theorem FnExactBitPartOf_k29 : ((Rows.fnExactBitPartOfRow.pinned == Rows.fnExactBitPartOfRow.pinnedBy)) = true := by kernel_rfl
theorem FnExactBitPartOf_k30 : ((Rows.fnExactBitPartOfRow.veiled == (Try.f14.params.toList ++ Rows.fnExactBitPartOfSpec.plain.varTypes Try.prog ++ Try.f14.resultTypes.toList).any (Try.prog.veiledRec ·))) = true := by kernel_rfl
theorem FnExactBitPartOf_k31 : (Rows.fnExactBitPartOfRow.veiledFits Try.prog Try.f14.params.toList (Try.f14.params.toList ++ Rows.fnExactBitPartOfSpec.plain.varTypes Try.prog ++ Try.f14.resultTypes.toList)) = true := by kernel_rfl
theorem FnExactBitPartOf_closed : joinedFacts Try.prog 14 Try.f14 Rows.fnExactBitPartOfSpec Rows.fnExactBitPartOfRow = true := (and2 (and2 (and2 (and2 (and2 (and2 (and2 (and2 (and2 (and2 (and2 (and2 (and2 (and2 (and2 (and2 (and2 (and2 (and2 (and2 (and2 (and2 (and2 (and2 (and2 (and2 (and2 (and2 (and2 (and2 (and2 FnExactBitPartOf_k0 jf1) jf2) FnExactBitPartOf_k3) FnExactBitPartOf_k4) FnExactBitPartOf_k5) jf6) FnExactBitPartOf_k7) jf8) FnExactBitPartOf_k9) FnExactBitPartOf_k10) FnExactBitPartOf_k11) FnExactBitPartOf_k12) FnExactBitPartOf_k13) FnExactBitPartOf_k14) FnExactBitPartOf_k15) FnExactBitPartOf_k16) FnExactBitPartOf_k17) FnExactBitPartOf_k18) FnExactBitPartOf_k19) FnExactBitPartOf_k20) FnExactBitPartOf_k21) jf22) FnExactBitPartOf_k23) jf24) jf25) jf26) jf27) FnExactBitPartOf_k28) FnExactBitPartOf_k29) FnExactBitPartOf_k30) FnExactBitPartOf_k31)
theorem FnExactBitPartOf_over : Rows.fnExactBitPartOfRow.holds Try.pinned (OpenSpec.ofChange Rows.fnExactBitPartOfSpec) :=
  OpenClaim.holds_of_wide 14 Try.f14 rfl rfl rfl rfl rfl rfl rfl ⟨rfl, rfl, rfl, rfl, rfl⟩ rfl rfl rfl rfl rfl (by kernel_rfl) Try.func14 FnExactBitPartOf_closed
    (of_decide_eq_true (by kernel_rfl)) (by unfold Func.isWrapper; first | (rw [if_pos (by decide +kernel)]; kernel_rfl) | (rw [if_neg (by decide +kernel)]; exact ⟨rfl, rfl⟩))
    (fun os started H enc _ => FnExactBitPartOf_lifted os started H enc)

theorem FnExactBitPartOf_proved : Rows.FnExactBitPartOfSaid :=
  FnExactBitPartOf_over
end Go.Proofs.Ytljmmaaaeojbpaa
