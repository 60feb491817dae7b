/- The program's DecOk answers as the specification's DecOk at every text; nothing that was there is written. No condition. -/
import Derived.Test.YtbhebnhjgkjikaaRows
import Derived.WalkKit
import Derived.ProofKit
import Derived.OpenShut
import Derived.Below
import Derived.Carry
import Derived.Test.YtbhebnhjgkjikaaN0
import Derived.Test.YtbhebnhjgkjikaaZP
import Derived.Test.YtbhebnhjgkjikaaJJ
import Derived.Test.YtbhebnhjgkjikaaJ6
namespace Go.Proofs.Ytbhebnhjgkjikaa
open Go.ChangeShapes Go.WideShapes Go.ChangeAt Go.RowKit
set_option linter.unusedVariables false

theorem FnExactDecOk_own : ownKnob Try.prog.godebug = none := by kernel_rfl

set_option maxRecDepth 100000 in
set_option maxHeartbeats 4000000 in
theorem FnExactDecOk_walk (s0 : ByteArray) (hs0 : s0.size ≤ maxLen) (w : World) :
    Calls Try.prog 5 #[.string s0] w fun e w' => e = .returned (.bool true) ∧ Below w.heap.size w w' := by
  by_cases hl : 1048576 < s0.size
  · have hl' : 1048576 < (s0.size : Int) := by omega
    go_enter Try.func5, Try.ntmps5
    go_wp2
    go_ret
    exact ⟨rfl, (by repeat (first | exact Below.refl _ _ | refine Below.drew ?_ | refine old_alloc ?_ _ | refine old_trans ?_ (by assumption)))⟩
  have hl' : ¬ 1048576 < (s0.size : Int) := by omega
  have S := hd (sDecOkB s0 hs0)
  have I := hd (iDecOkB s0)
  generalize decS s0 = r at *
  clear hs0 hl
  go_enter Try.func5, Try.ntmps5
  go_wp2_with fail
  refine (S.out _).mono ?_
  rintro e w1 ⟨rfl, hb1⟩
  go_wp2_with fail
  refine (I.out _).mono ?_
  rintro e w2 ⟨rfl, hb2⟩
  go_wp2
  go_ret
  exact ⟨rfl, old_trans (old_trans (Below.refl _ _) hb1) hb2⟩
set_option maxRecDepth 100000 in
theorem FnExactDecOk_lifted (os : Os) (started : os.Started) (H : Type) (enc : TypeId × Value → H) :
    ReturnsInHanded {} Try.checked os 5 .any (Rows.fnExactDecOkSpec.pre6 enc Try.prog Try.f5 Rows.fnExactDecOkRow.domain false) (Rows.fnExactDecOkSpec.post enc Try.prog Try.f5 false true false false) := by
  refine returnsInHanded_of_change (C := Try.checked) FnExactDecOk_own started (by kernel_rfl) Try.func5
    (ChangeSpec.witness6 (enc := enc) (C := Try.checked) false ⟨#[], #[.string ⟨#[]⟩], []⟩ 8 (by kernel_rfl) (by kernel_rfl) (by kernel_rfl) (by kernel_rfl)) ?_
  intro W base args ds gs before hval0 hW hcnd _
  have hval : ∀ (j : Nat) t v, Try.f5.params[j]? = some t → args[j]? = some v → Value.okWide Try.prog W .any base t v := hval0
  have hW' := hW
  obtain ⟨p, q, hA0, hV, rfl, hfz, hnd⟩ := hW
  have hA : DataW.TrodAll enc Try.prog W 0 (fun _ => true) true Try.f5.params.toList args.toList ds p := hA0
  rw [Try.params5] at hA hval
  obtain ⟨v0, vs0, d0, ds0, p0, q0, hargs, rfl, rfl, h0, r0⟩ := trodAll_cons hA
  obtain ⟨rfl, rfl, rfl⟩ := trodAll_nil r0
  obtain rfl : args = #[v0] := by cases args; simp_all
  obtain ⟨rfl, rfl⟩ := trodVars_none hV
  have k0 := h0
  have lt0 : ∀ x ∈ p0, x.block < W.heap.size := by obtain ⟨m, hm⟩ := k0; exact DataW.trod_lt m _ _ _ hm
  obtain ⟨s0, rfl, -, -, hs0⟩ := Go.ChangeMaps.open_string Try.underlying9 (hval 0 9 v0 rfl rfl) h0
  clear hA0 hval0
  refine (FnExactDecOk_walk s0 hs0 W ).mono fun e W' ⟨he, bel⟩ => ?_
  subst he
  exact ⟨_, rfl, _, _, _, [], _, [], hW', trodAll_mk1 (shut_bool Try.underlying4 _), (trodAll_cons_mk (Below.trod jf1 (by kernel_rfl) (of_decide_eq_true (by kernel_rfl)) k0 bel lt0) trodAll_mk0), rfl, bel.frame _, fun h => by cases h⟩

theorem FnExactDecOk_k0 : (Rows.fnExactDecOkRow.wf (OpenSpec.ofChange Rows.fnExactDecOkSpec)) = true := by kernel_rfl
theorem FnExactDecOk_k3 : (Try.f5.params.all (Try.prog.readableRec ·)) = true := by kernel_rfl
theorem FnExactDecOk_k4 : (namedTie Try.prog Rows.fnExactDecOkRow.named Rows.fnExactDecOkSpec.vars) = true := by kernel_rfl
theorem FnExactDecOk_k5 : ((Rows.fnExactDecOkRow.stops == [])) = true := by kernel_rfl
theorem FnExactDecOk_k7 : ((Rows.fnExactDecOkRow.knobs == [])) = true := by kernel_rfl
theorem FnExactDecOk_k9 : ((Rows.fnExactDecOkRow.inPlace == Try.prog.inPlace 5)) = true := by kernel_rfl
theorem FnExactDecOk_k10 : ((Rows.fnExactDecOkRow.unfollowed == Try.prog.unfollowed 5)) = true := by kernel_rfl
theorem FnExactDecOk_k11 : ((Rows.fnExactDecOkRow.recurses == Try.prog.recurses 5)) = true := by kernel_rfl
theorem FnExactDecOk_k12 : ((Rows.fnExactDecOkRow.named == Try.prog.varsNamed 5)) = true := by kernel_rfl
theorem FnExactDecOk_k13 : ((Rows.fnExactDecOkRow.maps == (Try.f5.params.toList ++ Rows.fnExactDecOkSpec.plain.varTypes Try.prog).any (Try.prog.mapsRec ·))) = true := by kernel_rfl
theorem FnExactDecOk_k14 : ((Rows.fnExactDecOkRow.ifaces == (Try.f5.params.toList ++ Rows.fnExactDecOkSpec.plain.varTypes Try.prog).any (Try.prog.ifacesRec ·))) = true := by kernel_rfl
theorem FnExactDecOk_k15 : ((Rows.fnExactDecOkRow.mapsOut == Try.prog.mapsAmong Try.f5.resultTypes.toList)) = true := by kernel_rfl
theorem FnExactDecOk_k16 : ((Rows.fnExactDecOkRow.loops == (Try.f5.params.toList ++ Rows.fnExactDecOkSpec.plain.varTypes Try.prog).any (Try.prog.loopsFrom ·))) = true := by kernel_rfl
theorem FnExactDecOk_k17 : ((Rows.fnExactDecOkRow.wideKeys == (Try.f5.params.toList ++ Rows.fnExactDecOkSpec.plain.varTypes Try.prog ++ Try.f5.resultTypes.toList).any (Try.prog.wideKeysFrom ·))) = true := by kernel_rfl
theorem FnExactDecOk_k18 : (Rows.fnExactDecOkSpec.vars.all (Try.prog.varReadable ·)) = true := by kernel_rfl
theorem FnExactDecOk_k19 : (Try.f5.resultTypes.all (fun t => Try.prog.readableRec t && decide (t < Try.prog.types.size))) = true := by kernel_rfl
theorem FnExactDecOk_k20 : ((Rows.fnExactDecOkRow.ifacesOut == Try.f5.resultTypes.toList.any (Try.prog.ifacesRec ·))) = true := by kernel_rfl
theorem FnExactDecOk_k21 : ((Rows.fnExactDecOkRow.loopsOut == Try.f5.resultTypes.toList.any (Try.prog.loopsFrom ·))) = true := by kernel_rfl
theorem FnExactDecOk_k23 : (Rows.fnExactDecOkRow.shortTexts.isNone) = true := by kernel_rfl
theorem FnExactDecOk_k28 : ((Rows.fnExactDecOkRow.kinds == (if Rows.fnExactDecOkRow.domain.isEmpty then [] else Try.f5.params.toList.map fun t => match Try.prog.underlying t with | some (.int k) => some k | _ => none))) = true := by kernel_rfl
theorem FnExactDecOk_k29 : ((Rows.fnExactDecOkRow.pinned == Rows.fnExactDecOkRow.pinnedBy)) = true := by kernel_rfl
theorem FnExactDecOk_k30 : ((Rows.fnExactDecOkRow.veiled == (Try.f5.params.toList ++ Rows.fnExactDecOkSpec.plain.varTypes Try.prog ++ Try.f5.resultTypes.toList).any (Try.prog.veiledRec ·))) = true := by kernel_rfl
theorem FnExactDecOk_k31 : (Rows.fnExactDecOkRow.veiledFits Try.prog Try.f5.params.toList (Try.f5.params.toList ++ Rows.fnExactDecOkSpec.plain.varTypes Try.prog ++ Try.f5.resultTypes.toList)) = true := by kernel_rfl
set_option maxRecDepth 100000 in
theorem FnExactDecOk_closed : joinedFacts Try.prog 5 Try.f5 Rows.fnExactDecOkSpec Rows.fnExactDecOkRow = true := (and2 (and2 (and2 (and2 (and2 (and2 (and2 (and2 (and2 (and2 (and2 (and2 (and2 (and2 (and2 (and2 (and2 (and2 (and2 (and2 (and2 (and2 (and2 (and2 (and2 (and2 (and2 (and2 (and2 (and2 (and2 FnExactDecOk_k0 jf1) jf2) FnExactDecOk_k3) FnExactDecOk_k4) FnExactDecOk_k5) jf6) FnExactDecOk_k7) jf8) FnExactDecOk_k9) FnExactDecOk_k10) FnExactDecOk_k11) FnExactDecOk_k12) FnExactDecOk_k13) FnExactDecOk_k14) FnExactDecOk_k15) FnExactDecOk_k16) FnExactDecOk_k17) FnExactDecOk_k18) FnExactDecOk_k19) FnExactDecOk_k20) FnExactDecOk_k21) jf22) FnExactDecOk_k23) jf24) jf25) jf26) jf27) FnExactDecOk_k28) FnExactDecOk_k29) FnExactDecOk_k30) FnExactDecOk_k31)
theorem FnExactDecOk_over : Rows.fnExactDecOkRow.holds Try.pinned (OpenSpec.ofChange Rows.fnExactDecOkSpec) :=
  OpenClaim.holds_of_wide 5 Try.f5 rfl rfl rfl rfl rfl rfl rfl ⟨rfl, rfl, rfl, rfl, rfl⟩ rfl rfl rfl rfl rfl (by kernel_rfl) Try.func5 FnExactDecOk_closed
    (of_decide_eq_true (by kernel_rfl)) (by unfold Func.isWrapper; first | (rw [if_pos (by decide +kernel)]; kernel_rfl) | (rw [if_neg (by decide +kernel)]; exact ⟨rfl, rfl⟩))
    (fun os started H enc _ => FnExactDecOk_lifted os started H enc)

theorem FnExactDecOk_proved : Rows.FnExactDecOkSaid := FnExactDecOk_over
end Go.Proofs.Ytbhebnhjgkjikaa
