/- The program's DecFrac answers as the specification's DecFrac at every argument; it writes into no argument, and what it answers is its own. Condition: the library's tables and its handle of errors hold what their texts lay (the card ties them). -/
import Derived.Test.YtnjdcaidoffhbaaGreatDoorRows
import Derived.Test.YtnjdcaidoffhbaaGreatDoorTie
import Derived.Test.YtnjdcaidoffhbaaGreatDoorCards
import Derived.WalkKit
import Derived.ProofKit
import Derived.OpenShut
import Derived.Below
import Derived.Carry
import Derived.Test.YtnjdcaidoffhbaaGreatDoorN0
import Derived.Test.YtnjdcaidoffhbaaGreatDoorLU
import Derived.Test.YtnjdcaidoffhbaaGreatDoorZS
import Derived.Test.YtnjdcaidoffhbaaGreatDoorFL
import Derived.Test.YtnjdcaidoffhbaaGreatDoorFI
import Derived.Test.YtnjdcaidoffhbaaGreatDoorBJ
namespace Go.Proofs.YtnjdcaidoffhbaaGreatDoor
open Go.ChangeShapes Go.WideShapes Go.ChangeAt Go.RowKit
set_option linter.unusedVariables false
set_option maxRecDepth 100000

set_option maxRecDepth 100000 in
set_option maxHeartbeats 8000000 in
theorem FnExactDecFrac_walk (s0 : ByteArray) (hs0 : s0.size ≤ maxLen) (w : World)  (hT : Tab w ∧ ET w) :
    Calls Tryz.prog 3 #[.string s0] w fun e w' => e = .returned (.bool true) ∧ Below w.heap.size w w' := by
  have hs1 := hs0
  unfold maxLen at hs1
  by_cases hl0 : 1048576 < s0.size
  · have hl' : (1048576 : Int) < (s0.size : Int) := by omega
    go_enter Tryz.func3, Tryz.ntmps3
    go_wp2
    go_ret
    exact ⟨rfl, (by repeat (first | exact Below.refl _ _ | refine Below.drew ?_ | refine old_alloc ?_ _ | refine old_trans ?_ (by assumption)))⟩
  have hl' : ¬ (1048576 : Int) < (s0.size : Int) := by omega
  have S := hd (fun w' => sDecFrac s0 hs0 w')
  have I := hd (fun w' (h : Tab w' ∧ ET w') => iDecFrac s0 w' h.1 h.2)
  have hlow : dcOk s0 = true → lowB (dcA s0) (dcB s0) = true := fun h => by unfold dcOk at h; rw [Bool.and_eq_true] at h; exact h.2
  simp only [FRes] at S I
  have htl : (fT (dcOk s0) (dcA s0) (dcB s0)).length ≤ 1048576 := fT_len hlow
  have hul : (fU (dcOk s0) (dcA s0) (dcB s0)).length ≤ 1048576 := fU_len hlow
  generalize fT (dcOk s0) (dcA s0) (dcB s0) = tl at *
  generalize fU (dcOk s0) (dcA s0) (dcB s0) = ul at *
  generalize fS (dcOk s0) (false) (dcA s0) = sg at *
  generalize (dcOk s0) = r at *
  have hx2 : ¬ (1 + (tl.length : Int) + (ul.length : Int) < 0) := by omega
  have hTT := hd (fun (w' : World) (h : Below w.heap.size w w') => (⟨hT.1.old h, hT.2.old h⟩ : Tab w' ∧ ET w'))
  have hB : Below w.heap.size w w := Below.refl _ _
  clear hT hlow hl0 hs1
  go_enter Tryz.func3, Tryz.ntmps3
  have n_W := hB.size
  have n_W' := hB.size
  go_wp2_with fail
  refine (S.out _).mono ?_
  rintro e w1 ⟨⟨avW, cvW, avW', cvW', rfl, W, W', sW⟩, hb1⟩
  replace hB := old_trans hB hb1
  clear hb1
  have y_W_KW := W.lt
  have y_W'_KW := W'.lt
  have KW_ := Cel3.new w1 (.bool sg) (.slice avW tl.length cvW) (.slice avW' ul.length cvW') 24
  have halKW : Below w1.heap.size w1 (w1.alloc (.cells #[.bool sg, .slice avW tl.length cvW, .slice avW' ul.length cvW'] 24)) := old_alloc (Below.refl _ _) _
  replace W := W.later halKW
  replace W' := W'.later halKW
  replace hB := old_trans hB halKW
  clear halKW
  have KW := KW_
  clear KW_
  obtain ⟨KWa, ⟨KWb, KWc, KWd⟩, -⟩ := id KW
  have l_W_G := W.lt
  have l_W'_G := W'.lt
  have l_KW_G := KW.1
  have n_G := hB.size
  have l_W_G' := W.lt
  have l_W'_G' := W'.lt
  have l_KW_G' := KW.1
  have n_G' := hB.size
  go_wp2_with fail
  refine (I.out _ (hTT.out _ hB)).mono ?_
  rintro e w2 ⟨⟨avG, cvG, avG', cvG', rfl, G, G', sG⟩, hb2⟩
  clear KWa KWb KWc KWd
  replace W := W.later hb2
  replace W' := W'.later hb2
  replace KW := KW.old hb2
  replace hB := old_trans hB hb2
  clear hb2
  obtain ⟨KWa, ⟨KWb, KWc, KWd⟩, -⟩ := id KW
  clear KWa KWb KWc KWd
  have y_W_KG := W.lt
  have y_W'_KG := W'.lt
  have y_G_KG := G.lt
  have y_G'_KG := G'.lt
  have KG_ := Cel3.new w2 (.bool sg) (.slice avG tl.length cvG) (.slice avG' ul.length cvG') 24
  have halKG : Below w2.heap.size w2 (w2.alloc (.cells #[.bool sg, .slice avG tl.length cvG, .slice avG' ul.length cvG'] 24)) := old_alloc (Below.refl _ _) _
  replace W := W.later halKG
  replace W' := W'.later halKG
  replace G := G.later halKG
  replace G' := G'.later halKG
  replace KW := KW.old halKG
  replace hB := old_trans hB halKG
  clear halKG
  have KG := KG_
  clear KG_
  obtain ⟨KWa, ⟨KWb, KWc, KWd⟩, -⟩ := id KW
  obtain ⟨KGa, ⟨KGb, KGc, KGd⟩, -⟩ := id KG
  go_wp2_with fail
  refine (lEqF sg avG avG' avW avW' cvG cvG' cvW cvW' _ _ _ _ tl ul _ G G' W W').mono ?_
  rintro e w3 ⟨rfl, hb3⟩
  clear KWa KWb KWc KWd KGa KGb KGc KGd
  replace W := W.later hb3
  replace W' := W'.later hb3
  replace G := G.later hb3
  replace G' := G'.later hb3
  replace KW := KW.old hb3
  replace KG := KG.old hb3
  replace hB := old_trans hB hb3
  clear hb3
  obtain ⟨KWa, ⟨KWb, KWc, KWd⟩, -⟩ := id KW
  obtain ⟨KGa, ⟨KGb, KGc, KGd⟩, -⟩ := id KG
  go_wp2_with fail
  refine (lMarkF sg _ _ avG avG' cvG cvG' tl ul (1) _ G G' sG htl hul (by omega) (by omega)).mono ?_
  rintro e w4 ⟨rfl, Gn, Gm, wm4, hg4, hk4⟩
  clear KWa KWb KWc KWd KGa KGb KGc KGd
  have Gs := G
  have G's := G'
  replace W := W.kept hg4 (Gs.sep l_W_G)
  replace W' := W'.kept hg4 (Gs.sep l_W'_G)
  replace G' := G'.kept hg4 (sepB sG.symm)
  replace KW := KW.kept hg4 (oi_ne_old Gs l_KW_G)
  replace KG := KG.kept hg4 (oi_ne_young y_G_KG)
  replace G's := G'
  replace hB := Below.marked hB Gs hg4 n_G hB.size
  replace W := W.kept hk4 (G's.sep l_W_G')
  replace W' := W'.kept hk4 (G's.sep l_W'_G')
  replace KW := KW.kept hk4 (oi_ne_old G's l_KW_G')
  replace KG := KG.kept hk4 (oi_ne_young y_G'_KG)
  replace hB := Below.marked hB G's hk4 n_G' hB.size
  clear G Gs G' G's
  have G := Gn
  have G' := Gm
  clear Gn Gm hg4 hk4
  obtain ⟨KWa, ⟨KWb, KWc, KWd⟩, -⟩ := id KW
  obtain ⟨KGa, ⟨KGb, KGc, KGd⟩, -⟩ := id KG
  go_wp2_with fail
  refine (lHeldF sg _ _ avG avG' cvG cvG' tl.length ul.length (1) _ G G' htl hul (by omega) (by omega)).mono ?_
  rintro e w5 ⟨rfl, hb5⟩
  clear KWa KWb KWc KWd KGa KGb KGc KGd
  replace W := W.later hb5
  replace W' := W'.later hb5
  replace G := G.later hb5
  replace G' := G'.later hb5
  replace KW := KW.old hb5
  replace KG := KG.old hb5
  replace hB := old_trans hB hb5
  clear hb5
  obtain ⟨KWa, ⟨KWb, KWc, KWd⟩, -⟩ := id KW
  obtain ⟨KGa, ⟨KGb, KGc, KGd⟩, -⟩ := id KG
  have l_W_H := W.lt
  have l_W'_H := W'.lt
  have l_G_H := G.lt
  have l_G'_H := G'.lt
  have l_KW_H := KW.1
  have l_KG_H := KG.1
  have n_H := hB.size
  have l_W_H' := W.lt
  have l_W'_H' := W'.lt
  have l_G_H' := G.lt
  have l_G'_H' := G'.lt
  have l_KW_H' := KW.1
  have l_KG_H' := KG.1
  have n_H' := hB.size
  go_wp2_with fail
  refine (I.out _ (hTT.out _ hB)).mono ?_
  rintro e w6 ⟨⟨avH, cvH, avH', cvH', rfl, H, H', sH⟩, hb6⟩
  clear KWa KWb KWc KWd KGa KGb KGc KGd
  replace W := W.later hb6
  replace W' := W'.later hb6
  replace G := G.later hb6
  replace G' := G'.later hb6
  replace KW := KW.old hb6
  replace KG := KG.old hb6
  replace hB := old_trans hB hb6
  clear hb6
  obtain ⟨KWa, ⟨KWb, KWc, KWd⟩, -⟩ := id KW
  obtain ⟨KGa, ⟨KGb, KGc, KGd⟩, -⟩ := id KG
  clear KWa KWb KWc KWd KGa KGb KGc KGd
  have y_W_KH := W.lt
  have y_W'_KH := W'.lt
  have y_G_KH := G.lt
  have y_G'_KH := G'.lt
  have y_H_KH := H.lt
  have y_H'_KH := H'.lt
  have KH_ := Cel3.new w6 (.bool sg) (.slice avH tl.length cvH) (.slice avH' ul.length cvH') 24
  have halKH : Below w6.heap.size w6 (w6.alloc (.cells #[.bool sg, .slice avH tl.length cvH, .slice avH' ul.length cvH'] 24)) := old_alloc (Below.refl _ _) _
  replace W := W.later halKH
  replace W' := W'.later halKH
  replace G := G.later halKH
  replace G' := G'.later halKH
  replace H := H.later halKH
  replace H' := H'.later halKH
  replace KW := KW.old halKH
  replace KG := KG.old halKH
  replace hB := old_trans hB halKH
  clear halKH
  have KH := KH_
  clear KH_
  obtain ⟨KWa, ⟨KWb, KWc, KWd⟩, -⟩ := id KW
  obtain ⟨KGa, ⟨KGb, KGc, KGd⟩, -⟩ := id KG
  obtain ⟨KHa, ⟨KHb, KHc, KHd⟩, -⟩ := id KH
  go_wp2_with fail
  refine (lEqF sg avH avH' avW avW' cvH cvH' cvW cvW' _ _ _ _ tl ul _ H H' W W').mono ?_
  rintro e w7 ⟨rfl, hb7⟩
  clear KWa KWb KWc KWd KGa KGb KGc KGd KHa KHb KHc KHd
  replace W := W.later hb7
  replace W' := W'.later hb7
  replace G := G.later hb7
  replace G' := G'.later hb7
  replace H := H.later hb7
  replace H' := H'.later hb7
  replace KW := KW.old hb7
  replace KG := KG.old hb7
  replace KH := KH.old hb7
  replace hB := old_trans hB hb7
  clear hb7
  obtain ⟨KWa, ⟨KWb, KWc, KWd⟩, -⟩ := id KW
  obtain ⟨KGa, ⟨KGb, KGc, KGd⟩, -⟩ := id KG
  obtain ⟨KHa, ⟨KHb, KHc, KHd⟩, -⟩ := id KH
  go_wp2_with fail
  refine (lHeldF sg _ _ avG avG' cvG cvG' tl.length ul.length (1) _ G G' htl hul (by omega) (by omega)).mono ?_
  rintro e w8 ⟨rfl, hb8⟩
  clear KWa KWb KWc KWd KGa KGb KGc KGd KHa KHb KHc KHd
  replace W := W.later hb8
  replace W' := W'.later hb8
  replace G := G.later hb8
  replace G' := G'.later hb8
  replace H := H.later hb8
  replace H' := H'.later hb8
  replace KW := KW.old hb8
  replace KG := KG.old hb8
  replace KH := KH.old hb8
  replace hB := old_trans hB hb8
  clear hb8
  obtain ⟨KWa, ⟨KWb, KWc, KWd⟩, -⟩ := id KW
  obtain ⟨KGa, ⟨KGb, KGc, KGd⟩, -⟩ := id KG
  obtain ⟨KHa, ⟨KHb, KHc, KHd⟩, -⟩ := id KH
  go_wp2
  go_ret
  exact ⟨rfl, hB⟩

set_option maxRecDepth 100000 in
theorem FnExactDecFrac_lifted (os : Os) (started : os.Started) (H : Type) (enc : TypeId × Value → H) :
    ReturnsInHanded {} Tryz.checked os 3 .any (fun w args => (Rows.fnExactDecFracSpec.pre enc Tryz.prog Tryz.f3 [] false w args ∧ laidMetH Tryz.prog LUL w) ∧ sizedMet enc Tryz.prog Tryz.f3 (OpenSpec.ofChange Rows.fnExactDecFracSpec) false w args)
      (Rows.fnExactDecFracSpec.post enc Tryz.prog Tryz.f3 false true false false) := by
  refine returnsInHanded_of_change_and (C := Tryz.checked) (X := fun w _ => laidMetH Tryz.prog LUL w) (fun _ _ _ hh h => h.of_heap hh) LU_own started (by kernel_rfl) Tryz.func3
    (ChangeSpec.witness_shaped (enc := enc) (C := Tryz.checked) (os := os) (X := fun w _ => laidMetH Tryz.prog LUL w) false (World.doorLaid Tryz.prog LU_fuel os) #[.string ⟨#[]⟩] 8 rfl (LU_shaped os _) (by kernel_rfl) (by kernel_rfl) (by kernel_rfl) (LU_met os _)) ?_
  intro W base args ds gs before hval0 hW _ _ hL _
  have hval : ∀ (j : Nat) t v, Tryz.f3.params[j]? = some t → args[j]? = some v → Value.okWide Tryz.prog W .any base t v := hval0
  have hW' := hW
  obtain ⟨p, q, hA0, hV, rfl, hfz, hnd⟩ := hW
  have hA : DataW.TrodAll enc Tryz.prog W 0 (fun _ => true) true Tryz.f3.params.toList args.toList ds p := hA0
  rw [Tryz.params3] at hA hval
  obtain ⟨v0, vs0, d0, ds0, p0, q0, hargs, rfl, rfl, h0, r0⟩ := trodAll_cons hA
  obtain ⟨rfl, rfl, rfl⟩ := trodAll_nil r0
  obtain rfl : args = #[v0] := by cases args; simp_all
  obtain ⟨rfl, rfl⟩ := trodVars_none hV
  have k0 := h0
  have lt0 : ∀ x ∈ p0, x.block < W.heap.size := by obtain ⟨m, hm⟩ := k0; exact DataW.trod_lt m _ _ _ hm
  obtain ⟨s0, rfl, -, -, hs0⟩ := Go.ChangeMaps.open_string Tryz.underlying9 (hval 0 9 v0 rfl rfl) h0
  clear hA0 hval0
  refine (FnExactDecFrac_walk s0 hs0 W  (two_of6 hL)).mono fun e W' ⟨he, bel⟩ => ?_
  subst he
  exact ⟨_, rfl, _, _, _, [], _, [], hW', trodAll_mk1 (shut_bool Tryz.underlying4 _), (trodAll_cons_mk (Below.trod jf1 (by kernel_rfl) (of_decide_eq_true (by kernel_rfl)) k0 bel lt0) trodAll_mk0), rfl, bel.frame _, fun h => by cases h⟩

theorem FnExactDecFrac_k0 : (Rows.fnExactDecFracRow.wf (OpenSpec.ofChange Rows.fnExactDecFracSpec)) = true := by kernel_rfl
theorem FnExactDecFrac_k3 : (Tryz.f3.params.all (Tryz.prog.readableRec ·)) = true := by kernel_rfl
theorem FnExactDecFrac_k4 : (namedTie Tryz.prog Rows.fnExactDecFracRow.named Rows.fnExactDecFracSpec.vars) = true := by kernel_rfl
theorem FnExactDecFrac_k5 : ((Rows.fnExactDecFracRow.stops == [])) = true := by kernel_rfl
theorem FnExactDecFrac_k7 : ((Rows.fnExactDecFracRow.knobs == [])) = true := by kernel_rfl
theorem FnExactDecFrac_k9 : ((Rows.fnExactDecFracRow.inPlace == Tryz.prog.inPlace 3)) = true := by kernel_rfl
theorem FnExactDecFrac_k10 : ((Rows.fnExactDecFracRow.unfollowed == Tryz.prog.unfollowed 3)) = true := by kernel_rfl
theorem FnExactDecFrac_k11 : ((Rows.fnExactDecFracRow.recurses == Tryz.prog.recurses 3)) = true := by kernel_rfl
theorem FnExactDecFrac_k12 : ((Rows.fnExactDecFracRow.named == Tryz.prog.varsNamed 3)) = true := by kernel_rfl
theorem FnExactDecFrac_k13 : ((Rows.fnExactDecFracRow.maps == (Tryz.f3.params.toList ++ Rows.fnExactDecFracSpec.plain.varTypes Tryz.prog).any (Tryz.prog.mapsRec ·))) = true := by kernel_rfl
theorem FnExactDecFrac_k14 : ((Rows.fnExactDecFracRow.ifaces == (Tryz.f3.params.toList ++ Rows.fnExactDecFracSpec.plain.varTypes Tryz.prog).any (Tryz.prog.ifacesRec ·))) = true := by kernel_rfl
theorem FnExactDecFrac_k15 : ((Rows.fnExactDecFracRow.mapsOut == Tryz.prog.mapsAmong Tryz.f3.resultTypes.toList)) = true := by kernel_rfl
theorem FnExactDecFrac_k16 : ((Rows.fnExactDecFracRow.loops == (Tryz.f3.params.toList ++ Rows.fnExactDecFracSpec.plain.varTypes Tryz.prog).any (Tryz.prog.loopsFrom ·))) = true := by kernel_rfl
theorem FnExactDecFrac_k17 : ((Rows.fnExactDecFracRow.wideKeys == (Tryz.f3.params.toList ++ Rows.fnExactDecFracSpec.plain.varTypes Tryz.prog ++ Tryz.f3.resultTypes.toList).any (Tryz.prog.wideKeysFrom ·))) = true := by kernel_rfl
theorem FnExactDecFrac_k18 : (Rows.fnExactDecFracSpec.vars.all (Tryz.prog.varReadable ·)) = true := by kernel_rfl
theorem FnExactDecFrac_k19 : (Tryz.f3.resultTypes.all (fun t => Tryz.prog.readableRec t && decide (t < Tryz.prog.types.size))) = true := by kernel_rfl
theorem FnExactDecFrac_k20 : ((Rows.fnExactDecFracRow.ifacesOut == Tryz.f3.resultTypes.toList.any (Tryz.prog.ifacesRec ·))) = true := by kernel_rfl
theorem FnExactDecFrac_k21 : ((Rows.fnExactDecFracRow.loopsOut == Tryz.f3.resultTypes.toList.any (Tryz.prog.loopsFrom ·))) = true := by kernel_rfl
theorem FnExactDecFrac_k23 : (Rows.fnExactDecFracRow.shortTexts.isNone) = true := by kernel_rfl
theorem FnExactDecFrac_k28 : ((Rows.fnExactDecFracRow.kinds == (if Rows.fnExactDecFracRow.domain.isEmpty then [] else Tryz.f3.params.toList.map fun t => match Tryz.prog.underlying t with | some (.int k) => some k | _ => none))) = true := by kernel_rfl
theorem FnExactDecFrac_k29 : ((Rows.fnExactDecFracRow.pinned == Rows.fnExactDecFracRow.pinnedBy)) = true := by kernel_rfl
theorem FnExactDecFrac_k30 : ((Rows.fnExactDecFracRow.veiled == (Tryz.f3.params.toList ++ Rows.fnExactDecFracSpec.plain.varTypes Tryz.prog ++ Tryz.f3.resultTypes.toList).any (Tryz.prog.veiledRec ·))) = true := by kernel_rfl
theorem FnExactDecFrac_k31 : (Rows.fnExactDecFracRow.veiledFits Tryz.prog Tryz.f3.params.toList (Tryz.f3.params.toList ++ Rows.fnExactDecFracSpec.plain.varTypes Tryz.prog ++ Tryz.f3.resultTypes.toList)) = true := by kernel_rfl
set_option maxRecDepth 100000 in
theorem FnExactDecFrac_closed : joinedFacts Tryz.prog 3 Tryz.f3 Rows.fnExactDecFracSpec Rows.fnExactDecFracRow = true := (and2 (and2 (and2 (and2 (and2 (and2 (and2 (and2 (and2 (and2 (and2 (and2 (and2 (and2 (and2 (and2 (and2 (and2 (and2 (and2 (and2 (and2 (and2 (and2 (and2 (and2 (and2 (and2 (and2 (and2 (and2 FnExactDecFrac_k0 jf1) jf2) FnExactDecFrac_k3) FnExactDecFrac_k4) FnExactDecFrac_k5) jf6) FnExactDecFrac_k7) jf8) FnExactDecFrac_k9) FnExactDecFrac_k10) FnExactDecFrac_k11) FnExactDecFrac_k12) FnExactDecFrac_k13) FnExactDecFrac_k14) FnExactDecFrac_k15) FnExactDecFrac_k16) FnExactDecFrac_k17) FnExactDecFrac_k18) FnExactDecFrac_k19) FnExactDecFrac_k20) FnExactDecFrac_k21) jf22) FnExactDecFrac_k23) jf24) jf25) jf26) jf27) FnExactDecFrac_k28) FnExactDecFrac_k29) FnExactDecFrac_k30) FnExactDecFrac_k31)
theorem FnExactDecFrac_row : Rows.FnExactDecFracSaid :=
  OpenClaim.holds_of_wide 3 Tryz.f3 rfl rfl rfl rfl rfl rfl rfl ⟨rfl, rfl, rfl, rfl, rfl⟩ rfl rfl rfl rfl rfl (by kernel_rfl) Tryz.func3 FnExactDecFrac_closed
    (of_decide_eq_true (by kernel_rfl)) (by unfold Func.isWrapper; first | (rw [if_pos (by decide +kernel)]; kernel_rfl) | (rw [if_neg (by decide +kernel)]; exact ⟨rfl, rfl⟩))
    (fun os started H enc _ => FnExactDecFrac_lifted os started H enc)

theorem FnExactDecFrac_proved : Rows.FnExactDecFracCardSaid :=
  Claim7.holds_tied_plain_at .later [] [.data, .data, .data, .handle, .sentinel, .sentinel] true (true, "6389f3aae3ddcf10e9903449038c2b736bd668e6d35eaf8e8343ee0c9c38de1c") true
    FnExactDecFrac_row (fun _ h => by cases h) (by kernel_rfl) (fun _ h => by cases h) fnExactDecFrac_row_tie rfl ⟨rfl, rfl⟩ (by kernel_rfl) rfl
    (fun f fn hf hfn => by
      obtain rfl : f = 3 := Option.some.inj ((show Tryz.prog.funcNamed "loop.example/pinfold/laws.FnExactDecFrac" = some 3 by kernel_rfl).symm.trans hf) |>.symm
      obtain rfl : fn = Tryz.f3 := (Option.some.inj (Tryz.func3.symm.trans hfn)).symm
      exact ⟨by kernel_rfl, fun j t ht => by
        rw [Tryz.params3] at ht
        have hm : t ∈ [9] := by simpa using Array.mem_of_getElem? ht
        have hall : ([9].all fun u => !Tryz.prog.wantsStandIn u) = true := by kernel_rfl
        exact (show Tryz.prog.wantsStandIn t = false by simpa using List.all_eq_true.1 hall t hm)⟩)
    (by kernel_rfl)
end Go.Proofs.YtnjdcaidoffhbaaGreatDoor
