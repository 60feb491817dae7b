/- The program's LangNumOk answers as the specification's LangNumOk at every text; nothing that was there is written. No condition. -/
import Derived.Test.YtbhebnhjgkjikaaRows
import Derived.WalkKit
import Derived.ProofKit
import Derived.OpenShut
import Derived.Below
import Derived.Carry
import Derived.Test.YtbhebnhjgkjikaaN0
import Derived.Test.YtbhebnhjgkjikaaZO
import Derived.Test.YtbhebnhjgkjikaaJJ
import Derived.Test.YtbhebnhjgkjikaaJ6
namespace Go.Proofs.Ytbhebnhjgkjikaa
open Go.ChangeShapes Go.WideShapes Go.ChangeAt Go.RowKit
set_option linter.unusedVariables false

theorem FnExactLangNumOk_own : ownKnob Try.prog.godebug = none := by kernel_rfl

set_option maxRecDepth 100000 in
set_option maxHeartbeats 4000000 in
theorem FnExactLangNumOk_walk (s0 : ByteArray) (hs0 : s0.size ≤ maxLen) (w : World) :
    Calls Try.prog 4 #[.string s0] w fun e w' => e = .returned (.bool true) ∧ Below w.heap.size w w' := by
  by_cases hl : 1048576 < s0.size
  · have hl' : 1048576 < (s0.size : Int) := by omega
    go_enter Try.func4, Try.ntmps4
    go_wp2
    go_ret
    exact ⟨rfl, (by repeat (first | exact Below.refl _ _ | refine Below.drew ?_ | refine old_alloc ?_ _ | refine old_trans ?_ (by assumption)))⟩
  have hl' : ¬ 1048576 < (s0.size : Int) := by omega
  have S := hd (sNumOkB s0 hs0)
  have I := hd (iNumOk s0)
  generalize decS s0 = r at *
  clear hs0 hl
  go_enter Try.func4, Try.ntmps4
  go_wp2_with fail
  refine (S.out _).mono ?_
  rintro e w1 ⟨rfl, hb1⟩
  go_wp2_with fail
  refine (I.out _).mono ?_
  rintro e w2 ⟨rfl, hb2⟩
  go_wp2
  go_ret
  exact ⟨rfl, old_trans (old_trans (Below.refl _ _) hb1) hb2⟩
set_option maxRecDepth 100000 in
theorem FnExactLangNumOk_lifted (os : Os) (started : os.Started) (H : Type) (enc : TypeId × Value → H) :
    ReturnsInHanded {} Try.checked os 4 .any (Rows.fnExactLangNumOkSpec.pre6 enc Try.prog Try.f4 Rows.fnExactLangNumOkRow.domain false) (Rows.fnExactLangNumOkSpec.post enc Try.prog Try.f4 false true false false) := by
  refine returnsInHanded_of_change (C := Try.checked) FnExactLangNumOk_own started (by kernel_rfl) Try.func4
    (ChangeSpec.witness6 (enc := enc) (C := Try.checked) false ⟨#[], #[.string ⟨#[]⟩], []⟩ 8 (by kernel_rfl) (by kernel_rfl) (by kernel_rfl) (by kernel_rfl)) ?_
  intro W base args ds gs before hval0 hW hcnd _
  have hval : ∀ (j : Nat) t v, Try.f4.params[j]? = some t → args[j]? = some v → Value.okWide Try.prog W .any base t v := hval0
  have hW' := hW
  obtain ⟨p, q, hA0, hV, rfl, hfz, hnd⟩ := hW
  have hA : DataW.TrodAll enc Try.prog W 0 (fun _ => true) true Try.f4.params.toList args.toList ds p := hA0
  rw [Try.params4] at hA hval
  obtain ⟨v0, vs0, d0, ds0, p0, q0, hargs, rfl, rfl, h0, r0⟩ := trodAll_cons hA
  obtain ⟨rfl, rfl, rfl⟩ := trodAll_nil r0
  obtain rfl : args = #[v0] := by cases args; simp_all
  obtain ⟨rfl, rfl⟩ := trodVars_none hV
  have k0 := h0
  have lt0 : ∀ x ∈ p0, x.block < W.heap.size := by obtain ⟨m, hm⟩ := k0; exact DataW.trod_lt m _ _ _ hm
  obtain ⟨s0, rfl, -, -, hs0⟩ := Go.ChangeMaps.open_string Try.underlying9 (hval 0 9 v0 rfl rfl) h0
  clear hA0 hval0
  refine (FnExactLangNumOk_walk s0 hs0 W ).mono fun e W' ⟨he, bel⟩ => ?_
  subst he
  exact ⟨_, rfl, _, _, _, [], _, [], hW', trodAll_mk1 (shut_bool Try.underlying4 _), (trodAll_cons_mk (Below.trod jf1 (by kernel_rfl) (of_decide_eq_true (by kernel_rfl)) k0 bel lt0) trodAll_mk0), rfl, bel.frame _, fun h => by cases h⟩

theorem FnExactLangNumOk_k0 : (Rows.fnExactLangNumOkRow.wf (OpenSpec.ofChange Rows.fnExactLangNumOkSpec)) = true := by kernel_rfl
theorem FnExactLangNumOk_k3 : (Try.f4.params.all (Try.prog.readableRec ·)) = true := by kernel_rfl
theorem FnExactLangNumOk_k4 : (namedTie Try.prog Rows.fnExactLangNumOkRow.named Rows.fnExactLangNumOkSpec.vars) = true := by kernel_rfl
theorem FnExactLangNumOk_k5 : ((Rows.fnExactLangNumOkRow.stops == [])) = true := by kernel_rfl
theorem FnExactLangNumOk_k7 : ((Rows.fnExactLangNumOkRow.knobs == [])) = true := by kernel_rfl
theorem FnExactLangNumOk_k9 : ((Rows.fnExactLangNumOkRow.inPlace == Try.prog.inPlace 4)) = true := by kernel_rfl
theorem FnExactLangNumOk_k10 : ((Rows.fnExactLangNumOkRow.unfollowed == Try.prog.unfollowed 4)) = true := by kernel_rfl
theorem FnExactLangNumOk_k11 : ((Rows.fnExactLangNumOkRow.recurses == Try.prog.recurses 4)) = true := by kernel_rfl
theorem FnExactLangNumOk_k12 : ((Rows.fnExactLangNumOkRow.named == Try.prog.varsNamed 4)) = true := by kernel_rfl
theorem FnExactLangNumOk_k13 : ((Rows.fnExactLangNumOkRow.maps == (Try.f4.params.toList ++ Rows.fnExactLangNumOkSpec.plain.varTypes Try.prog).any (Try.prog.mapsRec ·))) = true := by kernel_rfl
theorem FnExactLangNumOk_k14 : ((Rows.fnExactLangNumOkRow.ifaces == (Try.f4.params.toList ++ Rows.fnExactLangNumOkSpec.plain.varTypes Try.prog).any (Try.prog.ifacesRec ·))) = true := by kernel_rfl
theorem FnExactLangNumOk_k15 : ((Rows.fnExactLangNumOkRow.mapsOut == Try.prog.mapsAmong Try.f4.resultTypes.toList)) = true := by kernel_rfl
theorem FnExactLangNumOk_k16 : ((Rows.fnExactLangNumOkRow.loops == (Try.f4.params.toList ++ Rows.fnExactLangNumOkSpec.plain.varTypes Try.prog).any (Try.prog.loopsFrom ·))) = true := by kernel_rfl
theorem FnExactLangNumOk_k17 : ((Rows.fnExactLangNumOkRow.wideKeys == (Try.f4.params.toList ++ Rows.fnExactLangNumOkSpec.plain.varTypes Try.prog ++ Try.f4.resultTypes.toList).any (Try.prog.wideKeysFrom ·))) = true := by kernel_rfl
theorem FnExactLangNumOk_k18 : (Rows.fnExactLangNumOkSpec.vars.all (Try.prog.varReadable ·)) = true := by kernel_rfl
theorem FnExactLangNumOk_k19 : (Try.f4.resultTypes.all (fun t => Try.prog.readableRec t && decide (t < Try.prog.types.size))) = true := by kernel_rfl
theorem FnExactLangNumOk_k20 : ((Rows.fnExactLangNumOkRow.ifacesOut == Try.f4.resultTypes.toList.any (Try.prog.ifacesRec ·))) = true := by kernel_rfl
theorem FnExactLangNumOk_k21 : ((Rows.fnExactLangNumOkRow.loopsOut == Try.f4.resultTypes.toList.any (Try.prog.loopsFrom ·))) = true := by kernel_rfl
theorem FnExactLangNumOk_k23 : (Rows.fnExactLangNumOkRow.shortTexts.isNone) = true := by kernel_rfl
theorem FnExactLangNumOk_k28 : ((Rows.fnExactLangNumOkRow.kinds == (if Rows.fnExactLangNumOkRow.domain.isEmpty then [] else Try.f4.params.toList.map fun t => match Try.prog.underlying t with | some (.int k) => some k | _ => none))) = true := by kernel_rfl
theorem FnExactLangNumOk_k29 : ((Rows.fnExactLangNumOkRow.pinned == Rows.fnExactLangNumOkRow.pinnedBy)) = true := by kernel_rfl
theorem FnExactLangNumOk_k30 : ((Rows.fnExactLangNumOkRow.veiled == (Try.f4.params.toList ++ Rows.fnExactLangNumOkSpec.plain.varTypes Try.prog ++ Try.f4.resultTypes.toList).any (Try.prog.veiledRec ·))) = true := by kernel_rfl
theorem FnExactLangNumOk_k31 : (Rows.fnExactLangNumOkRow.veiledFits Try.prog Try.f4.params.toList (Try.f4.params.toList ++ Rows.fnExactLangNumOkSpec.plain.varTypes Try.prog ++ Try.f4.resultTypes.toList)) = true := by kernel_rfl
set_option maxRecDepth 100000 in
theorem FnExactLangNumOk_closed : joinedFacts Try.prog 4 Try.f4 Rows.fnExactLangNumOkSpec Rows.fnExactLangNumOkRow = true := (and2 (and2 (and2 (and2 (and2 (and2 (and2 (and2 (and2 (and2 (and2 (and2 (and2 (and2 (and2 (and2 (and2 (and2 (and2 (and2 (and2 (and2 (and2 (and2 (and2 (and2 (and2 (and2 (and2 (and2 (and2 FnExactLangNumOk_k0 jf1) jf2) FnExactLangNumOk_k3) FnExactLangNumOk_k4) FnExactLangNumOk_k5) jf6) FnExactLangNumOk_k7) jf8) FnExactLangNumOk_k9) FnExactLangNumOk_k10) FnExactLangNumOk_k11) FnExactLangNumOk_k12) FnExactLangNumOk_k13) FnExactLangNumOk_k14) FnExactLangNumOk_k15) FnExactLangNumOk_k16) FnExactLangNumOk_k17) FnExactLangNumOk_k18) FnExactLangNumOk_k19) FnExactLangNumOk_k20) FnExactLangNumOk_k21) jf22) FnExactLangNumOk_k23) jf24) jf25) jf26) jf27) FnExactLangNumOk_k28) FnExactLangNumOk_k29) FnExactLangNumOk_k30) FnExactLangNumOk_k31)
theorem FnExactLangNumOk_over : Rows.fnExactLangNumOkRow.holds Try.pinned (OpenSpec.ofChange Rows.fnExactLangNumOkSpec) :=
  OpenClaim.holds_of_wide 4 Try.f4 rfl rfl rfl rfl rfl rfl rfl ⟨rfl, rfl, rfl, rfl, rfl⟩ rfl rfl rfl rfl rfl (by kernel_rfl) Try.func4 FnExactLangNumOk_closed
    (of_decide_eq_true (by kernel_rfl)) (by unfold Func.isWrapper; first | (rw [if_pos (by decide +kernel)]; kernel_rfl) | (rw [if_neg (by decide +kernel)]; exact ⟨rfl, rfl⟩))
    (fun os started H enc _ => FnExactLangNumOk_lifted os started H enc)

theorem FnExactLangNumOk_proved : Rows.FnExactLangNumOkSaid := FnExactLangNumOk_over
end Go.Proofs.Ytbhebnhjgkjikaa
