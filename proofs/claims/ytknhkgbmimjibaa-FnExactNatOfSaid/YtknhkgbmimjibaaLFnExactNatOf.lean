/- The program's NatOf answers as the specification's NatOf at every argument; it writes into no argument, and what it answers is its own. No condition. -/
import Derived.Test.YtknhkgbmimjibaaRows
import Derived.WalkKit
import Derived.ProofKit
import Derived.OpenShut
import Derived.Below
import Derived.Carry
import Derived.Test.YtknhkgbmimjibaaN0
import Derived.Test.YtknhkgbmimjibaaBA
import Derived.Test.YtknhkgbmimjibaaBJ
namespace Go.Proofs.Ytknhkgbmimjibaa
open Go.ChangeShapes Go.WideShapes Go.ChangeAt Go.RowKit
set_option linter.unusedVariables false

theorem FnExactNatOf_own : ownKnob Try.prog.godebug = none := by kernel_rfl

set_option maxRecDepth 100000 in
set_option maxHeartbeats 4000000 in
theorem FnExactNatOf_walk (a0 : Int) (wa0 : 0 ≤ a0 ∧ a0 ≤ 18446744073709551615) (w : World) :
    Calls Try.prog 5 #[.int .u64 a0] w fun e w' => e = .returned (.bool true) ∧ Below w.heap.size w w' := by
  obtain ⟨n, rfl⟩ := Int.eq_ofNat_of_zero_le wa0.1
  have S := hd (sNatOf n (by omega))
  have I := hd (iNatOf n (by omega))
  have hql : (natL n).length ≤ 1048576 := Nat.le_trans (natL_len.2 (by omega : n < 65536 ^ 4)) (by omega)
  generalize natL n = ql at *
  have hx2 : ¬ (1 + (ql.length : Int) < 0) := by omega
  have hB : Below w.heap.size w w := Below.refl _ _
  go_enter Try.func5, Try.ntmps5
  have n_W := hB.size
  go_wp2_with fail
  refine (S.out _).mono ?_
  rintro e w1 ⟨⟨avW, cvW, rfl, W⟩, hb1⟩
  replace hB := old_trans hB hb1
  clear hb1
  have l_W_G := W.lt
  have n_G := hB.size
  go_wp2_with fail
  refine (I.out _).mono ?_
  rintro e w2 ⟨⟨avG, cvG, rfl, G⟩, hb2⟩
  replace W := W.later hb2
  replace hB := old_trans hB hb2
  clear hb2
  go_wp2_with fail
  refine (lEqO avG avW cvG cvW _ _ ql _ G W).mono ?_
  rintro e w3 ⟨rfl, hb3⟩
  replace W := W.later hb3
  replace G := G.later hb3
  replace hB := old_trans hB hb3
  clear hb3
  go_wp2_with fail
  refine (lMarkO _ avG cvG ql (1) _ G hql (by omega) (by omega)).mono ?_
  rintro e w4 ⟨rfl, G', hg4⟩
  replace W := W.kept hg4 (G.sep l_W_G)
  replace hB := Below.marked hB G hg4 n_G hB.size
  clear G
  have G := G'
  clear G'
  go_wp2_with fail
  refine (lHeldO _ avG cvG ql.length (1) _ G hql (by omega) (by omega)).mono ?_
  rintro e w5 ⟨rfl, hb5⟩
  replace W := W.later hb5
  replace G := G.later hb5
  replace hB := old_trans hB hb5
  clear hb5
  have l_W_H := W.lt
  have l_G_H := G.lt
  have n_H := hB.size
  go_wp2_with fail
  refine (I.out _).mono ?_
  rintro e w6 ⟨⟨avH, cvH, rfl, H⟩, hb6⟩
  replace W := W.later hb6
  replace G := G.later hb6
  replace hB := old_trans hB hb6
  clear hb6
  go_wp2_with fail
  refine (lEqO avH avW cvH cvW _ _ ql _ H W).mono ?_
  rintro e w7 ⟨rfl, hb7⟩
  replace W := W.later hb7
  replace G := G.later hb7
  replace H := H.later hb7
  replace hB := old_trans hB hb7
  clear hb7
  go_wp2_with fail
  refine (lHeldO _ avG cvG ql.length (1) _ G hql (by omega) (by omega)).mono ?_
  rintro e w8 ⟨rfl, hb8⟩
  replace W := W.later hb8
  replace G := G.later hb8
  replace H := H.later hb8
  replace hB := old_trans hB hb8
  clear hb8
  go_wp2
  go_ret
  exact ⟨rfl, hB⟩

set_option maxRecDepth 100000 in
theorem FnExactNatOf_lifted (os : Os) (started : os.Started) (H : Type) (enc : TypeId × Value → H) :
    ReturnsInHanded {} Try.checked os 5 .any (Rows.fnExactNatOfSpec.pre6 enc Try.prog Try.f5 Rows.fnExactNatOfRow.domain false) (Rows.fnExactNatOfSpec.post enc Try.prog Try.f5 false true false false) := by
  refine returnsInHanded_of_change (C := Try.checked) FnExactNatOf_own started (by kernel_rfl) Try.func5
    (ChangeSpec.witness6 (enc := enc) (C := Try.checked) false ⟨#[], #[.int .u64 0], []⟩ 8 (by kernel_rfl) (by kernel_rfl) (by kernel_rfl) (by kernel_rfl)) ?_
  intro W base args ds gs before hval0 hW hcnd _
  have hval : ∀ (j : Nat) t v, Try.f5.params[j]? = some t → args[j]? = some v → Value.okWide Try.prog W .any base t v := hval0
  have hW' := hW
  obtain ⟨p, q, hA0, hV, rfl, hfz, hnd⟩ := hW
  have hA : DataW.TrodAll enc Try.prog W 0 (fun _ => true) true Try.f5.params.toList args.toList ds p := hA0
  rw [Try.params5] at hA hval
  obtain ⟨v0, vs0, d0, ds0, p0, q0, hargs, rfl, rfl, h0, r0⟩ := trodAll_cons hA
  obtain ⟨rfl, rfl, rfl⟩ := trodAll_nil r0
  obtain rfl : args = #[v0] := by cases args; simp_all
  obtain ⟨rfl, rfl⟩ := trodVars_none hV
  have k0 := h0
  have lt0 : ∀ x ∈ p0, x.block < W.heap.size := by obtain ⟨m, hm⟩ := k0; exact DataW.trod_lt m _ _ _ hm
  obtain ⟨a0, rfl, -, -, wf0⟩ := open_int Try.underlying23 (hval 0 23 v0 rfl rfl) h0
  have wa0 := bounds_u64 wf0
  clear hA0 hval0
  refine (FnExactNatOf_walk a0 wa0 W ).mono fun e W' ⟨he, bel⟩ => ?_
  subst he
  exact ⟨_, rfl, _, _, _, [], _, [], hW', trodAll_mk1 (shut_bool Try.underlying4 _), (trodAll_cons_mk (Below.trod jf1 (by kernel_rfl) (of_decide_eq_true (by kernel_rfl)) k0 bel lt0) trodAll_mk0), rfl, bel.frame _, fun h => by cases h⟩

theorem FnExactNatOf_k0 : (Rows.fnExactNatOfRow.wf (OpenSpec.ofChange Rows.fnExactNatOfSpec)) = true := by kernel_rfl
theorem FnExactNatOf_k3 : (Try.f5.params.all (Try.prog.readableRec ·)) = true := by kernel_rfl
theorem FnExactNatOf_k4 : (namedTie Try.prog Rows.fnExactNatOfRow.named Rows.fnExactNatOfSpec.vars) = true := by kernel_rfl
theorem FnExactNatOf_k5 : ((Rows.fnExactNatOfRow.stops == [])) = true := by kernel_rfl
theorem FnExactNatOf_k7 : ((Rows.fnExactNatOfRow.knobs == [])) = true := by kernel_rfl
theorem FnExactNatOf_k9 : ((Rows.fnExactNatOfRow.inPlace == Try.prog.inPlace 5)) = true := by kernel_rfl
theorem FnExactNatOf_k10 : ((Rows.fnExactNatOfRow.unfollowed == Try.prog.unfollowed 5)) = true := by kernel_rfl
theorem FnExactNatOf_k11 : ((Rows.fnExactNatOfRow.recurses == Try.prog.recurses 5)) = true := by kernel_rfl
theorem FnExactNatOf_k12 : ((Rows.fnExactNatOfRow.named == Try.prog.varsNamed 5)) = true := by kernel_rfl
theorem FnExactNatOf_k13 : ((Rows.fnExactNatOfRow.maps == (Try.f5.params.toList ++ Rows.fnExactNatOfSpec.plain.varTypes Try.prog).any (Try.prog.mapsRec ·))) = true := by kernel_rfl
theorem FnExactNatOf_k14 : ((Rows.fnExactNatOfRow.ifaces == (Try.f5.params.toList ++ Rows.fnExactNatOfSpec.plain.varTypes Try.prog).any (Try.prog.ifacesRec ·))) = true := by kernel_rfl
theorem FnExactNatOf_k15 : ((Rows.fnExactNatOfRow.mapsOut == Try.prog.mapsAmong Try.f5.resultTypes.toList)) = true := by kernel_rfl
theorem FnExactNatOf_k16 : ((Rows.fnExactNatOfRow.loops == (Try.f5.params.toList ++ Rows.fnExactNatOfSpec.plain.varTypes Try.prog).any (Try.prog.loopsFrom ·))) = true := by kernel_rfl
theorem FnExactNatOf_k17 : ((Rows.fnExactNatOfRow.wideKeys == (Try.f5.params.toList ++ Rows.fnExactNatOfSpec.plain.varTypes Try.prog ++ Try.f5.resultTypes.toList).any (Try.prog.wideKeysFrom ·))) = true := by kernel_rfl
theorem FnExactNatOf_k18 : (Rows.fnExactNatOfSpec.vars.all (Try.prog.varReadable ·)) = true := by kernel_rfl
theorem FnExactNatOf_k19 : (Try.f5.resultTypes.all (fun t => Try.prog.readableRec t && decide (t < Try.prog.types.size))) = true := by kernel_rfl
theorem FnExactNatOf_k20 : ((Rows.fnExactNatOfRow.ifacesOut == Try.f5.resultTypes.toList.any (Try.prog.ifacesRec ·))) = true := by kernel_rfl
theorem FnExactNatOf_k21 : ((Rows.fnExactNatOfRow.loopsOut == Try.f5.resultTypes.toList.any (Try.prog.loopsFrom ·))) = true := by kernel_rfl
theorem FnExactNatOf_k23 : (Rows.fnExactNatOfRow.shortTexts.isNone) = true := by kernel_rfl
theorem FnExactNatOf_k28 : ((Rows.fnExactNatOfRow.kinds == (if Rows.fnExactNatOfRow.domain.isEmpty then [] else Try.f5.params.toList.map fun t => match Try.prog.underlying t with | some (.int k) => some k | _ => none))) = true := by kernel_rfl
theorem FnExactNatOf_k29 : ((Rows.fnExactNatOfRow.pinned == Rows.fnExactNatOfRow.pinnedBy)) = true := by kernel_rfl
theorem FnExactNatOf_k30 : ((Rows.fnExactNatOfRow.veiled == (Try.f5.params.toList ++ Rows.fnExactNatOfSpec.plain.varTypes Try.prog ++ Try.f5.resultTypes.toList).any (Try.prog.veiledRec ·))) = true := by kernel_rfl
theorem FnExactNatOf_k31 : (Rows.fnExactNatOfRow.veiledFits Try.prog Try.f5.params.toList (Try.f5.params.toList ++ Rows.fnExactNatOfSpec.plain.varTypes Try.prog ++ Try.f5.resultTypes.toList)) = true := by kernel_rfl
set_option maxRecDepth 100000 in
theorem FnExactNatOf_closed : joinedFacts Try.prog 5 Try.f5 Rows.fnExactNatOfSpec Rows.fnExactNatOfRow = true := (and2 (and2 (and2 (and2 (and2 (and2 (and2 (and2 (and2 (and2 (and2 (and2 (and2 (and2 (and2 (and2 (and2 (and2 (and2 (and2 (and2 (and2 (and2 (and2 (and2 (and2 (and2 (and2 (and2 (and2 (and2 FnExactNatOf_k0 jf1) jf2) FnExactNatOf_k3) FnExactNatOf_k4) FnExactNatOf_k5) jf6) FnExactNatOf_k7) jf8) FnExactNatOf_k9) FnExactNatOf_k10) FnExactNatOf_k11) FnExactNatOf_k12) FnExactNatOf_k13) FnExactNatOf_k14) FnExactNatOf_k15) FnExactNatOf_k16) FnExactNatOf_k17) FnExactNatOf_k18) FnExactNatOf_k19) FnExactNatOf_k20) FnExactNatOf_k21) jf22) FnExactNatOf_k23) jf24) jf25) jf26) jf27) FnExactNatOf_k28) FnExactNatOf_k29) FnExactNatOf_k30) FnExactNatOf_k31)
theorem FnExactNatOf_over : Rows.fnExactNatOfRow.holds Try.pinned (OpenSpec.ofChange Rows.fnExactNatOfSpec) :=
  OpenClaim.holds_of_wide 5 Try.f5 rfl rfl rfl rfl rfl rfl rfl ⟨rfl, rfl, rfl, rfl, rfl⟩ rfl rfl rfl rfl rfl (by kernel_rfl) Try.func5 FnExactNatOf_closed
    (of_decide_eq_true (by kernel_rfl)) (by unfold Func.isWrapper; first | (rw [if_pos (by decide +kernel)]; kernel_rfl) | (rw [if_neg (by decide +kernel)]; exact ⟨rfl, rfl⟩))
    (fun os started H enc _ => FnExactNatOf_lifted os started H enc)

theorem FnExactNatOf_proved : Rows.FnExactNatOfSaid := FnExactNatOf_over
end Go.Proofs.Ytknhkgbmimjibaa
