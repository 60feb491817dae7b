/- The program's LangNameOk answers as the specification's LangNameOk at every text; nothing that was there is written. No condition. -/
import Derived.Test.YtbhebnhjgkjikaaRows
import Derived.WalkKit
import Derived.ProofKit
import Derived.OpenShut
import Derived.Below
import Derived.Carry
import Derived.Test.YtbhebnhjgkjikaaN0
import Derived.Test.YtbhebnhjgkjikaaZD
import Derived.Test.YtbhebnhjgkjikaaJJ
import Derived.Test.YtbhebnhjgkjikaaJ6
namespace Go.Proofs.Ytbhebnhjgkjikaa
open Go.ChangeShapes Go.WideShapes Go.ChangeAt Go.RowKit
set_option linter.unusedVariables false

theorem FnExactLangNameOk_own : ownKnob Try.prog.godebug = none := by kernel_rfl

set_option maxRecDepth 100000 in
set_option maxHeartbeats 4000000 in
theorem FnExactLangNameOk_walk (s0 : ByteArray) (hs0 : s0.size ≤ maxLen) (w : World) :
    Calls Try.prog 3 #[.string s0] w fun e w' => e = .returned (.bool true) ∧ Below w.heap.size w w' := by
  by_cases hl : 1048576 < s0.size
  · have hl' : 1048576 < (s0.size : Int) := by omega
    go_enter Try.func3, Try.ntmps3
    go_wp2
    go_ret
    exact ⟨rfl, (by repeat (first | exact Below.refl _ _ | refine Below.drew ?_ | refine old_alloc ?_ _ | refine old_trans ?_ (by assumption)))⟩
  have hl' : ¬ 1048576 < (s0.size : Int) := by omega
  have S := hd (sNameOkB s0)
  have I := hd (iNameOk s0)
  generalize nameB s0 = r at *
  clear hs0 hl
  go_enter Try.func3, Try.ntmps3
  go_wp2_with fail
  refine (S.out _).mono ?_
  rintro e w1 ⟨rfl, hb1⟩
  go_wp2_with fail
  refine (I.out _).mono ?_
  rintro e w2 ⟨rfl, hb2⟩
  go_wp2
  go_ret
  exact ⟨rfl, old_trans (old_trans (Below.refl _ _) hb1) hb2⟩
set_option maxRecDepth 100000 in
theorem FnExactLangNameOk_lifted (os : Os) (started : os.Started) (H : Type) (enc : TypeId × Value → H) :
    ReturnsInHanded {} Try.checked os 3 .any (Rows.fnExactLangNameOkSpec.pre6 enc Try.prog Try.f3 Rows.fnExactLangNameOkRow.domain false) (Rows.fnExactLangNameOkSpec.post enc Try.prog Try.f3 false true false false) := by
  refine returnsInHanded_of_change (C := Try.checked) FnExactLangNameOk_own started (by kernel_rfl) Try.func3
    (ChangeSpec.witness6 (enc := enc) (C := Try.checked) false ⟨#[], #[.string ⟨#[]⟩], []⟩ 8 (by kernel_rfl) (by kernel_rfl) (by kernel_rfl) (by kernel_rfl)) ?_
  intro W base args ds gs before hval0 hW hcnd _
  have hval : ∀ (j : Nat) t v, Try.f3.params[j]? = some t → args[j]? = some v → Value.okWide Try.prog W .any base t v := hval0
  have hW' := hW
  obtain ⟨p, q, hA0, hV, rfl, hfz, hnd⟩ := hW
  have hA : DataW.TrodAll enc Try.prog W 0 (fun _ => true) true Try.f3.params.toList args.toList ds p := hA0
  rw [Try.params3] at hA hval
  obtain ⟨v0, vs0, d0, ds0, p0, q0, hargs, rfl, rfl, h0, r0⟩ := trodAll_cons hA
  obtain ⟨rfl, rfl, rfl⟩ := trodAll_nil r0
  obtain rfl : args = #[v0] := by cases args; simp_all
  obtain ⟨rfl, rfl⟩ := trodVars_none hV
  have k0 := h0
  have lt0 : ∀ x ∈ p0, x.block < W.heap.size := by obtain ⟨m, hm⟩ := k0; exact DataW.trod_lt m _ _ _ hm
  obtain ⟨s0, rfl, -, -, hs0⟩ := Go.ChangeMaps.open_string Try.underlying9 (hval 0 9 v0 rfl rfl) h0
  clear hA0 hval0
  refine (FnExactLangNameOk_walk s0 hs0 W ).mono fun e W' ⟨he, bel⟩ => ?_
  subst he
  exact ⟨_, rfl, _, _, _, [], _, [], hW', trodAll_mk1 (shut_bool Try.underlying4 _), (trodAll_cons_mk (Below.trod jf1 (by kernel_rfl) (of_decide_eq_true (by kernel_rfl)) k0 bel lt0) trodAll_mk0), rfl, bel.frame _, fun h => by cases h⟩

theorem FnExactLangNameOk_k0 : (Rows.fnExactLangNameOkRow.wf (OpenSpec.ofChange Rows.fnExactLangNameOkSpec)) = true := by kernel_rfl
theorem FnExactLangNameOk_k3 : (Try.f3.params.all (Try.prog.readableRec ·)) = true := by kernel_rfl
theorem FnExactLangNameOk_k4 : (namedTie Try.prog Rows.fnExactLangNameOkRow.named Rows.fnExactLangNameOkSpec.vars) = true := by kernel_rfl
theorem FnExactLangNameOk_k5 : ((Rows.fnExactLangNameOkRow.stops == [])) = true := by kernel_rfl
theorem FnExactLangNameOk_k7 : ((Rows.fnExactLangNameOkRow.knobs == [])) = true := by kernel_rfl
theorem FnExactLangNameOk_k9 : ((Rows.fnExactLangNameOkRow.inPlace == Try.prog.inPlace 3)) = true := by kernel_rfl
theorem FnExactLangNameOk_k10 : ((Rows.fnExactLangNameOkRow.unfollowed == Try.prog.unfollowed 3)) = true := by kernel_rfl
theorem FnExactLangNameOk_k11 : ((Rows.fnExactLangNameOkRow.recurses == Try.prog.recurses 3)) = true := by kernel_rfl
theorem FnExactLangNameOk_k12 : ((Rows.fnExactLangNameOkRow.named == Try.prog.varsNamed 3)) = true := by kernel_rfl
theorem FnExactLangNameOk_k13 : ((Rows.fnExactLangNameOkRow.maps == (Try.f3.params.toList ++ Rows.fnExactLangNameOkSpec.plain.varTypes Try.prog).any (Try.prog.mapsRec ·))) = true := by kernel_rfl
theorem FnExactLangNameOk_k14 : ((Rows.fnExactLangNameOkRow.ifaces == (Try.f3.params.toList ++ Rows.fnExactLangNameOkSpec.plain.varTypes Try.prog).any (Try.prog.ifacesRec ·))) = true := by kernel_rfl
theorem FnExactLangNameOk_k15 : ((Rows.fnExactLangNameOkRow.mapsOut == Try.prog.mapsAmong Try.f3.resultTypes.toList)) = true := by kernel_rfl
theorem FnExactLangNameOk_k16 : ((Rows.fnExactLangNameOkRow.loops == (Try.f3.params.toList ++ Rows.fnExactLangNameOkSpec.plain.varTypes Try.prog).any (Try.prog.loopsFrom ·))) = true := by kernel_rfl
theorem FnExactLangNameOk_k17 : ((Rows.fnExactLangNameOkRow.wideKeys == (Try.f3.params.toList ++ Rows.fnExactLangNameOkSpec.plain.varTypes Try.prog ++ Try.f3.resultTypes.toList).any (Try.prog.wideKeysFrom ·))) = true := by kernel_rfl
theorem FnExactLangNameOk_k18 : (Rows.fnExactLangNameOkSpec.vars.all (Try.prog.varReadable ·)) = true := by kernel_rfl
theorem FnExactLangNameOk_k19 : (Try.f3.resultTypes.all (fun t => Try.prog.readableRec t && decide (t < Try.prog.types.size))) = true := by kernel_rfl
theorem FnExactLangNameOk_k20 : ((Rows.fnExactLangNameOkRow.ifacesOut == Try.f3.resultTypes.toList.any (Try.prog.ifacesRec ·))) = true := by kernel_rfl
theorem FnExactLangNameOk_k21 : ((Rows.fnExactLangNameOkRow.loopsOut == Try.f3.resultTypes.toList.any (Try.prog.loopsFrom ·))) = true := by kernel_rfl
theorem FnExactLangNameOk_k23 : (Rows.fnExactLangNameOkRow.shortTexts.isNone) = true := by kernel_rfl
theorem FnExactLangNameOk_k28 : ((Rows.fnExactLangNameOkRow.kinds == (if Rows.fnExactLangNameOkRow.domain.isEmpty then [] else Try.f3.params.toList.map fun t => match Try.prog.underlying t with | some (.int k) => some k | _ => none))) = true := by kernel_rfl
theorem FnExactLangNameOk_k29 : ((Rows.fnExactLangNameOkRow.pinned == Rows.fnExactLangNameOkRow.pinnedBy)) = true := by kernel_rfl
theorem FnExactLangNameOk_k30 : ((Rows.fnExactLangNameOkRow.veiled == (Try.f3.params.toList ++ Rows.fnExactLangNameOkSpec.plain.varTypes Try.prog ++ Try.f3.resultTypes.toList).any (Try.prog.veiledRec ·))) = true := by kernel_rfl
theorem FnExactLangNameOk_k31 : (Rows.fnExactLangNameOkRow.veiledFits Try.prog Try.f3.params.toList (Try.f3.params.toList ++ Rows.fnExactLangNameOkSpec.plain.varTypes Try.prog ++ Try.f3.resultTypes.toList)) = true := by kernel_rfl
set_option maxRecDepth 100000 in
theorem FnExactLangNameOk_closed : joinedFacts Try.prog 3 Try.f3 Rows.fnExactLangNameOkSpec Rows.fnExactLangNameOkRow = true := (and2 (and2 (and2 (and2 (and2 (and2 (and2 (and2 (and2 (and2 (and2 (and2 (and2 (and2 (and2 (and2 (and2 (and2 (and2 (and2 (and2 (and2 (and2 (and2 (and2 (and2 (and2 (and2 (and2 (and2 (and2 FnExactLangNameOk_k0 jf1) jf2) FnExactLangNameOk_k3) FnExactLangNameOk_k4) FnExactLangNameOk_k5) jf6) FnExactLangNameOk_k7) jf8) FnExactLangNameOk_k9) FnExactLangNameOk_k10) FnExactLangNameOk_k11) FnExactLangNameOk_k12) FnExactLangNameOk_k13) FnExactLangNameOk_k14) FnExactLangNameOk_k15) FnExactLangNameOk_k16) FnExactLangNameOk_k17) FnExactLangNameOk_k18) FnExactLangNameOk_k19) FnExactLangNameOk_k20) FnExactLangNameOk_k21) jf22) FnExactLangNameOk_k23) jf24) jf25) jf26) jf27) FnExactLangNameOk_k28) FnExactLangNameOk_k29) FnExactLangNameOk_k30) FnExactLangNameOk_k31)
theorem FnExactLangNameOk_over : Rows.fnExactLangNameOkRow.holds Try.pinned (OpenSpec.ofChange Rows.fnExactLangNameOkSpec) :=
  OpenClaim.holds_of_wide 3 Try.f3 rfl rfl rfl rfl rfl rfl rfl ⟨rfl, rfl, rfl, rfl, rfl⟩ rfl rfl rfl rfl rfl (by kernel_rfl) Try.func3 FnExactLangNameOk_closed
    (of_decide_eq_true (by kernel_rfl)) (by unfold Func.isWrapper; first | (rw [if_pos (by decide +kernel)]; kernel_rfl) | (rw [if_neg (by decide +kernel)]; exact ⟨rfl, rfl⟩))
    (fun os started H enc _ => FnExactLangNameOk_lifted os started H enc)

theorem FnExactLangNameOk_proved : Rows.FnExactLangNameOkSaid := FnExactLangNameOk_over
end Go.Proofs.Ytbhebnhjgkjikaa
