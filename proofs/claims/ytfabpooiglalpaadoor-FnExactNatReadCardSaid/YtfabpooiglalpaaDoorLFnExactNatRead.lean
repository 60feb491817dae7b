/- The program's NatRead answers as the specification's NatRead at every argument; it writes into no argument, and what it answers is its own. Condition: the library's variables hold what their texts lay (the card ties them). -/
import Derived.Test.YtfabpooiglalpaaDoorRows
import Derived.Test.YtfabpooiglalpaaDoorTie
import Derived.Test.YtfabpooiglalpaaDoorCards
import Derived.WalkKit
import Derived.ProofKit
import Derived.OpenShut
import Derived.Below
import Derived.Carry
import Derived.Test.YtfabpooiglalpaaDoorN0
import Derived.Test.YtfabpooiglalpaaDoorLE
import Derived.Test.YtfabpooiglalpaaDoorNL
import Derived.Test.YtfabpooiglalpaaDoorBJ
namespace Go.Proofs.YtfabpooiglalpaaDoor
open Go.ChangeShapes Go.WideShapes Go.ChangeAt Go.RowKit
set_option linter.unusedVariables false

set_option maxRecDepth 100000 in
set_option maxHeartbeats 4000000 in
theorem FnExactNatRead_walk (s0 : ByteArray) (hs0 : s0.size ≤ maxLen) (w : World)   :
    Calls Tryd.prog 3 #[.string s0] w fun e w' => e = .returned (.bool true) ∧ Below w.heap.size w w' := by
  have hs1 := hs0
  unfold maxLen at hs1
  by_cases hl0 : 1048576 < s0.size
  · have hl' : (1048576 : Int) < (s0.size : Int) := by omega
    go_enter Tryd.func3, Tryd.ntmps3
    go_wp2
    go_ret
    exact ⟨rfl, (by repeat (first | exact Below.refl _ _ | refine Below.drew ?_ | refine old_alloc ?_ _ | refine old_trans ?_ (by assumption)))⟩
  have hl' : ¬ (1048576 : Int) < (s0.size : Int) := by omega
  have S := hd (sNatRead s0 hs0)
  have I := hd (iNatRead s0 hs0)
  have hql : (resN (rdB s0) (nv s0 s0.size)).length ≤ 1048576 := by
    cases h : rdB s0
    · exact Nat.zero_le _
    · show (natL (nv s0 s0.size)).length ≤ 1048576
      exact Nat.le_trans (natL_len.2 (nv_lt s0 s0.size)) (by omega)
  generalize resN (rdB s0) (nv s0 s0.size) = ql at *
  generalize rdB s0 = r at *
  have hx2 : ¬ (1 + (ql.length : Int) < 0) := by omega
  have hB : Below w.heap.size w w := Below.refl _ _
  go_enter Tryd.func3, Tryd.ntmps3
  have n_W := hB.size
  go_wp2_with fail
  refine (S.out _).mono ?_
  rintro e w1 ⟨⟨avW, cvW, rfl, W⟩, hb1⟩
  replace hB := old_trans hB hb1
  clear hb1
  have l_W_G := W.lt
  have n_G := hB.size
  go_wp2_with fail
  refine (I.out _).mono ?_
  rintro e w2 ⟨⟨avG, cvG, rfl, G⟩, hb2⟩
  replace W := W.later hb2
  replace hB := old_trans hB hb2
  clear hb2
  go_wp2_with fail
  refine (lEqO avG avW cvG cvW _ _ ql _ G W).mono ?_
  rintro e w3 ⟨rfl, hb3⟩
  replace W := W.later hb3
  replace G := G.later hb3
  replace hB := old_trans hB hb3
  clear hb3
  go_wp2_with fail
  refine (lMarkO _ avG cvG ql (1) _ G hql (by omega) (by omega)).mono ?_
  rintro e w4 ⟨rfl, G', hg4⟩
  replace W := W.kept hg4 (G.sep l_W_G)
  replace hB := Below.marked hB G hg4 n_G hB.size
  clear G
  have G := G'
  clear G'
  go_wp2_with fail
  refine (lHeldO _ avG cvG ql.length (1) _ G hql (by omega) (by omega)).mono ?_
  rintro e w5 ⟨rfl, hb5⟩
  replace W := W.later hb5
  replace G := G.later hb5
  replace hB := old_trans hB hb5
  clear hb5
  have l_W_H := W.lt
  have l_G_H := G.lt
  have n_H := hB.size
  go_wp2_with fail
  refine (I.out _).mono ?_
  rintro e w6 ⟨⟨avH, cvH, rfl, H⟩, hb6⟩
  replace W := W.later hb6
  replace G := G.later hb6
  replace hB := old_trans hB hb6
  clear hb6
  go_wp2_with fail
  refine (lEqO avH avW cvH cvW _ _ ql _ H W).mono ?_
  rintro e w7 ⟨rfl, hb7⟩
  replace W := W.later hb7
  replace G := G.later hb7
  replace H := H.later hb7
  replace hB := old_trans hB hb7
  clear hb7
  go_wp2_with fail
  refine (lHeldO _ avG cvG ql.length (1) _ G hql (by omega) (by omega)).mono ?_
  rintro e w8 ⟨rfl, hb8⟩
  replace W := W.later hb8
  replace G := G.later hb8
  replace H := H.later hb8
  replace hB := old_trans hB hb8
  clear hb8
  go_wp2
  go_ret
  exact ⟨rfl, hB⟩

set_option maxRecDepth 100000 in
theorem FnExactNatRead_lifted (os : Os) (started : os.Started) (H : Type) (enc : TypeId × Value → H) :
    ReturnsInHanded {} Tryd.checked os 3 .any (fun w args => (Rows.fnExactNatReadSpec.pre enc Tryd.prog Tryd.f3 [] false w args ∧ laidMetH Tryd.prog LEL w) ∧ sizedMet enc Tryd.prog Tryd.f3 (OpenSpec.ofChange Rows.fnExactNatReadSpec) false w args)
      (Rows.fnExactNatReadSpec.post enc Tryd.prog Tryd.f3 false true false false) := by
  refine returnsInHanded_of_change_and (C := Tryd.checked) (X := fun w _ => laidMetH Tryd.prog LEL w) (fun _ _ _ hh h => h.of_heap hh) LE_own started (by kernel_rfl) Tryd.func3
    (ChangeSpec.witness_shaped (enc := enc) (C := Tryd.checked) (os := os) (X := fun w _ => laidMetH Tryd.prog LEL w) false (World.doorLaid Tryd.prog LE_fuel os) #[.string ⟨#[]⟩] 8 rfl (LE_shaped os _) (by kernel_rfl) (by kernel_rfl) (by kernel_rfl) (LE_met os _)) ?_
  intro W base args ds gs before hval0 hW _ _ hL _
  have hval : ∀ (j : Nat) t v, Tryd.f3.params[j]? = some t → args[j]? = some v → Value.okWide Tryd.prog W .any base t v := hval0
  have hW' := hW
  obtain ⟨p, q, hA0, hV, rfl, hfz, hnd⟩ := hW
  have hA : DataW.TrodAll enc Tryd.prog W 0 (fun _ => true) true Tryd.f3.params.toList args.toList ds p := hA0
  rw [Tryd.params3] at hA hval
  obtain ⟨v0, vs0, d0, ds0, p0, q0, hargs, rfl, rfl, h0, r0⟩ := trodAll_cons hA
  obtain ⟨rfl, rfl, rfl⟩ := trodAll_nil r0
  obtain rfl : args = #[v0] := by cases args; simp_all
  obtain ⟨rfl, rfl⟩ := trodVars_none hV
  have k0 := h0
  have lt0 : ∀ x ∈ p0, x.block < W.heap.size := by obtain ⟨m, hm⟩ := k0; exact DataW.trod_lt m _ _ _ hm
  obtain ⟨s0, rfl, -, -, hs0⟩ := Go.ChangeMaps.open_string Tryd.underlying9 (hval 0 9 v0 rfl rfl) h0
  clear hA0 hval0
  refine (FnExactNatRead_walk s0 hs0 W  ).mono fun e W' ⟨he, bel⟩ => ?_
  subst he
  exact ⟨_, rfl, _, _, _, [], _, [], hW', trodAll_mk1 (shut_bool Tryd.underlying4 _), (trodAll_cons_mk (Below.trod jf1 (by kernel_rfl) (of_decide_eq_true (by kernel_rfl)) k0 bel lt0) trodAll_mk0), rfl, bel.frame _, fun h => by cases h⟩

theorem FnExactNatRead_k0 : (Rows.fnExactNatReadRow.wf (OpenSpec.ofChange Rows.fnExactNatReadSpec)) = true := by kernel_rfl
theorem FnExactNatRead_k3 : (Tryd.f3.params.all (Tryd.prog.readableRec ·)) = true := by kernel_rfl
theorem FnExactNatRead_k4 : (namedTie Tryd.prog Rows.fnExactNatReadRow.named Rows.fnExactNatReadSpec.vars) = true := by kernel_rfl
theorem FnExactNatRead_k5 : ((Rows.fnExactNatReadRow.stops == [])) = true := by kernel_rfl
theorem FnExactNatRead_k7 : ((Rows.fnExactNatReadRow.knobs == [])) = true := by kernel_rfl
theorem FnExactNatRead_k9 : ((Rows.fnExactNatReadRow.inPlace == Tryd.prog.inPlace 3)) = true := by kernel_rfl
theorem FnExactNatRead_k10 : ((Rows.fnExactNatReadRow.unfollowed == Tryd.prog.unfollowed 3)) = true := by kernel_rfl
theorem FnExactNatRead_k11 : ((Rows.fnExactNatReadRow.recurses == Tryd.prog.recurses 3)) = true := by kernel_rfl
theorem FnExactNatRead_k12 : ((Rows.fnExactNatReadRow.named == Tryd.prog.varsNamed 3)) = true := by kernel_rfl
theorem FnExactNatRead_k13 : ((Rows.fnExactNatReadRow.maps == (Tryd.f3.params.toList ++ Rows.fnExactNatReadSpec.plain.varTypes Tryd.prog).any (Tryd.prog.mapsRec ·))) = true := by kernel_rfl
theorem FnExactNatRead_k14 : ((Rows.fnExactNatReadRow.ifaces == (Tryd.f3.params.toList ++ Rows.fnExactNatReadSpec.plain.varTypes Tryd.prog).any (Tryd.prog.ifacesRec ·))) = true := by kernel_rfl
theorem FnExactNatRead_k15 : ((Rows.fnExactNatReadRow.mapsOut == Tryd.prog.mapsAmong Tryd.f3.resultTypes.toList)) = true := by kernel_rfl
theorem FnExactNatRead_k16 : ((Rows.fnExactNatReadRow.loops == (Tryd.f3.params.toList ++ Rows.fnExactNatReadSpec.plain.varTypes Tryd.prog).any (Tryd.prog.loopsFrom ·))) = true := by kernel_rfl
theorem FnExactNatRead_k17 : ((Rows.fnExactNatReadRow.wideKeys == (Tryd.f3.params.toList ++ Rows.fnExactNatReadSpec.plain.varTypes Tryd.prog ++ Tryd.f3.resultTypes.toList).any (Tryd.prog.wideKeysFrom ·))) = true := by kernel_rfl
theorem FnExactNatRead_k18 : (Rows.fnExactNatReadSpec.vars.all (Tryd.prog.varReadable ·)) = true := by kernel_rfl
theorem FnExactNatRead_k19 : (Tryd.f3.resultTypes.all (fun t => Tryd.prog.readableRec t && decide (t < Tryd.prog.types.size))) = true := by kernel_rfl
theorem FnExactNatRead_k20 : ((Rows.fnExactNatReadRow.ifacesOut == Tryd.f3.resultTypes.toList.any (Tryd.prog.ifacesRec ·))) = true := by kernel_rfl
theorem FnExactNatRead_k21 : ((Rows.fnExactNatReadRow.loopsOut == Tryd.f3.resultTypes.toList.any (Tryd.prog.loopsFrom ·))) = true := by kernel_rfl
theorem FnExactNatRead_k23 : (Rows.fnExactNatReadRow.shortTexts.isNone) = true := by kernel_rfl
theorem FnExactNatRead_k28 : ((Rows.fnExactNatReadRow.kinds == (if Rows.fnExactNatReadRow.domain.isEmpty then [] else Tryd.f3.params.toList.map fun t => match Tryd.prog.underlying t with | some (.int k) => some k | _ => none))) = true := by kernel_rfl
theorem FnExactNatRead_k29 : ((Rows.fnExactNatReadRow.pinned == Rows.fnExactNatReadRow.pinnedBy)) = true := by kernel_rfl
theorem FnExactNatRead_k30 : ((Rows.fnExactNatReadRow.veiled == (Tryd.f3.params.toList ++ Rows.fnExactNatReadSpec.plain.varTypes Tryd.prog ++ Tryd.f3.resultTypes.toList).any (Tryd.prog.veiledRec ·))) = true := by kernel_rfl
theorem FnExactNatRead_k31 : (Rows.fnExactNatReadRow.veiledFits Tryd.prog Tryd.f3.params.toList (Tryd.f3.params.toList ++ Rows.fnExactNatReadSpec.plain.varTypes Tryd.prog ++ Tryd.f3.resultTypes.toList)) = true := by kernel_rfl
set_option maxRecDepth 100000 in
theorem FnExactNatRead_closed : joinedFacts Tryd.prog 3 Tryd.f3 Rows.fnExactNatReadSpec Rows.fnExactNatReadRow = true := (and2 (and2 (and2 (and2 (and2 (and2 (and2 (and2 (and2 (and2 (and2 (and2 (and2 (and2 (and2 (and2 (and2 (and2 (and2 (and2 (and2 (and2 (and2 (and2 (and2 (and2 (and2 (and2 (and2 (and2 (and2 FnExactNatRead_k0 jf1) jf2) FnExactNatRead_k3) FnExactNatRead_k4) FnExactNatRead_k5) jf6) FnExactNatRead_k7) jf8) FnExactNatRead_k9) FnExactNatRead_k10) FnExactNatRead_k11) FnExactNatRead_k12) FnExactNatRead_k13) FnExactNatRead_k14) FnExactNatRead_k15) FnExactNatRead_k16) FnExactNatRead_k17) FnExactNatRead_k18) FnExactNatRead_k19) FnExactNatRead_k20) FnExactNatRead_k21) jf22) FnExactNatRead_k23) jf24) jf25) jf26) jf27) FnExactNatRead_k28) FnExactNatRead_k29) FnExactNatRead_k30) FnExactNatRead_k31)
theorem FnExactNatRead_row : Rows.FnExactNatReadSaid :=
  OpenClaim.holds_of_wide 3 Tryd.f3 rfl rfl rfl rfl rfl rfl rfl ⟨rfl, rfl, rfl, rfl, rfl⟩ rfl rfl rfl rfl rfl (by kernel_rfl) Tryd.func3 FnExactNatRead_closed
    (of_decide_eq_true (by kernel_rfl)) (by unfold Func.isWrapper; first | (rw [if_pos (by decide +kernel)]; kernel_rfl) | (rw [if_neg (by decide +kernel)]; exact ⟨rfl, rfl⟩))
    (fun os started H enc _ => FnExactNatRead_lifted os started H enc)

theorem FnExactNatRead_proved : Rows.FnExactNatReadCardSaid :=
  Claim7.holds_tied_plain_at .later [] [.data, .data, .data, .sentinel, .sentinel] true (true, "61837710c51dfd120b83929a1b3d25e722979c89019156ef2b93b7b516fb5af7") true
    FnExactNatRead_row (fun _ h => by cases h) (by kernel_rfl) (fun _ h => by cases h) fnExactNatRead_row_tie rfl ⟨rfl, rfl⟩ (by kernel_rfl) rfl
    (fun f fn hf hfn => by
      obtain rfl : f = 3 := Option.some.inj ((show Tryd.prog.funcNamed "loop.example/pinfold/laws.FnExactNatRead" = some 3 by kernel_rfl).symm.trans hf) |>.symm
      obtain rfl : fn = Tryd.f3 := (Option.some.inj (Tryd.func3.symm.trans hfn)).symm
      exact ⟨by kernel_rfl, fun j t ht => by
        rw [Tryd.params3] at ht
        have hm : t ∈ [9] := by simpa using Array.mem_of_getElem? ht
        have hall : ([9].all fun u => !Tryd.prog.wantsStandIn u) = true := by kernel_rfl
        exact (show Tryd.prog.wantsStandIn t = false by simpa using List.all_eq_true.1 hall t hm)⟩)
    (by kernel_rfl)
end Go.Proofs.YtfabpooiglalpaaDoor
