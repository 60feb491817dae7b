/- The program's NatShift answers as the specification's NatShift at every argument; it writes into no argument, and what it answers is its own. No condition. -/
import Derived.Test.YtdffcbpekabnjaaRows
import Derived.WalkKit
import Derived.ProofKit
import Derived.OpenShut
import Derived.Below
import Derived.Carry
import Derived.Test.YtdffcbpekabnjaaN0
import Derived.Test.YtdffcbpekabnjaaV6
import Derived.Test.YtdffcbpekabnjaaBJ
namespace Go.Proofs.Ytdffcbpekabnjaa
open Go.ChangeShapes Go.WideShapes Go.ChangeAt Go.RowKit
set_option linter.unusedVariables false

theorem FnExactNatShift_own : ownKnob Try.prog.godebug = none := by kernel_rfl

set_option maxRecDepth 100000 in
set_option maxHeartbeats 4000000 in
theorem FnExactNatShift_walk (a0 : Option Addr) (len0 cap0 : Nat) (xs0 : List Int) (a1 : Int) (wa1 : -9223372036854775808 ≤ a1 ∧ a1 ≤ 9223372036854775807) (w : World) (wb0 : InI w a0 len0 cap0 xs0):
    Calls Try.prog 8 #[.slice a0 len0 cap0, .int .i64 a1] w fun e w' => e = .returned (.bool true) ∧ Below w.heap.size w w' := by
  obtain rfl := wb0.1
  have hlen0 := wb0.len
  by_cases hl0 : xs0.length ≤ 1048576
  case neg =>
    go_enter Try.func8, Try.ntmps8
    go_wp2
    go_ret
    exact ⟨rfl, (by repeat (first | exact Below.refl _ _ | refine Below.drew ?_ | refine old_alloc ?_ _ | refine old_trans ?_ (by assumption)))⟩
  have S := hd (fun a len cap w (h : InI w a len cap xs0) => sNatShift a len cap xs0 a1 wa1 w h)
  have I := hd (fun a len cap w (h : InI w a len cap xs0) => iNatShift a len cap xs0 a1 wa1 w h)
  have hql : (resN (shiftB xs0 a1) (shV (val xs0) a1)).length ≤ 1048576 := resN_len shiftB_fits
  generalize resN (shiftB xs0 a1) (shV (val xs0) a1) = ql at *
  generalize shiftB xs0 a1 = r at *
  have hx1 : ¬ (1 + (xs0.length : Int) < 0) := by omega
  have hx2 : ¬ (1 + (ql.length : Int) < 0) := by omega
  have hB : Below w.heap.size w w := Below.refl _ _
  have R0 := wb0
  go_enter Try.func8, Try.ntmps8
  have l_R0_P := R0.far
  have n_P := hB.size
  go_wp2_with fail
  refine (toIntsO a0 cap0 xs0 _ R0 hl0).mono ?_
  rintro e w1 ⟨⟨avP, cvP, rfl, P⟩, hb1⟩
  replace R0 := R0.old hb1
  replace hB := old_trans hB hb1
  clear hb1
  have l_P_W := P.lt
  have l_R0_W := R0.far
  have n_W := hB.size
  go_wp2_with fail
  refine (S.out _ _ _ _ P.inI).mono ?_
  rintro e w2 ⟨⟨avW, cvW, rfl, W⟩, hb2⟩
  replace P := P.later hb2
  replace R0 := R0.old hb2
  replace hB := old_trans hB hb2
  clear hb2
  clear P
  have l_W_X := W.lt
  have l_R0_X := R0.far
  have n_X := hB.size
  go_wp2_with fail
  refine (toIntsO a0 cap0 xs0 _ R0 hl0).mono ?_
  rintro e w3 ⟨⟨avX, cvX, rfl, X⟩, hb3⟩
  replace W := W.later hb3
  replace R0 := R0.old hb3
  replace hB := old_trans hB hb3
  clear hb3
  have l_W_G := W.lt
  have l_X_G := X.lt
  have l_R0_G := R0.far
  have n_G := hB.size
  go_wp2_with fail
  refine (I.out _ _ _ _ X.inI).mono ?_
  rintro e w4 ⟨⟨avG, cvG, rfl, G⟩, hb4⟩
  replace W := W.later hb4
  replace X := X.later hb4
  replace R0 := R0.old hb4
  replace hB := old_trans hB hb4
  clear hb4
  go_wp2_with fail
  refine (lEqO avG avW cvG cvW _ _ ql _ G W).mono ?_
  rintro e w5 ⟨rfl, hb5⟩
  replace W := W.later hb5
  replace X := X.later hb5
  replace G := G.later hb5
  replace R0 := R0.old hb5
  replace hB := old_trans hB hb5
  clear hb5
  have l_W_Z := W.lt
  have l_X_Z := X.lt
  have l_G_Z := G.lt
  have l_R0_Z := R0.far
  have n_Z := hB.size
  go_wp2_with fail
  refine (toIntsO a0 cap0 xs0 _ R0 hl0).mono ?_
  rintro e w6 ⟨⟨avZ, cvZ, rfl, Z⟩, hb6⟩
  replace W := W.later hb6
  replace X := X.later hb6
  replace G := G.later hb6
  replace R0 := R0.old hb6
  replace hB := old_trans hB hb6
  clear hb6
  go_wp2_with fail
  refine (lEqO avX avZ cvX cvZ _ _ xs0 _ X Z).mono ?_
  rintro e w7 ⟨rfl, hb7⟩
  replace W := W.later hb7
  replace X := X.later hb7
  replace G := G.later hb7
  replace Z := Z.later hb7
  replace R0 := R0.old hb7
  replace hB := old_trans hB hb7
  clear hb7
  clear Z
  go_wp2_with fail
  refine (lMarkO _ avX cvX xs0 (1) _ X hl0 (by omega) (by omega)).mono ?_
  rintro e w8 ⟨rfl, X', hg8⟩
  replace W := W.kept hg8 (X.sep l_W_X)
  replace G := G.kept hg8 (G.sep' l_X_G)
  replace R0 := R0.kept hg8 (fun h0 => X.sep (l_R0_X h0))
  replace hB := Below.marked hB X hg8 n_X hB.size
  clear X
  have X := X'
  clear X'
  go_wp2_with fail
  refine (lEqO avG avW cvG cvW _ _ ql _ G W).mono ?_
  rintro e w9 ⟨rfl, hb9⟩
  replace W := W.later hb9
  replace X := X.later hb9
  replace G := G.later hb9
  replace R0 := R0.old hb9
  replace hB := old_trans hB hb9
  clear hb9
  clear X
  go_wp2_with fail
  refine (lMarkO _ avG cvG ql (1) _ G hql (by omega) (by omega)).mono ?_
  rintro e w10 ⟨rfl, G', hg10⟩
  replace W := W.kept hg10 (G.sep l_W_G)
  replace R0 := R0.kept hg10 (fun h0 => G.sep (l_R0_G h0))
  replace hB := Below.marked hB G hg10 n_G hB.size
  clear G
  have G := G'
  clear G'
  go_wp2_with fail
  refine (lHeldO _ avG cvG ql.length (1) _ G hql (by omega) (by omega)).mono ?_
  rintro e w11 ⟨rfl, hb11⟩
  replace W := W.later hb11
  replace G := G.later hb11
  replace R0 := R0.old hb11
  replace hB := old_trans hB hb11
  clear hb11
  have l_W_P := W.lt
  have l_G_P := G.lt
  have l_R0_P := R0.far
  have n_P := hB.size
  go_wp2_with fail
  refine (toIntsO a0 cap0 xs0 _ R0 hl0).mono ?_
  rintro e w12 ⟨⟨avP, cvP, rfl, P⟩, hb12⟩
  replace W := W.later hb12
  replace G := G.later hb12
  replace R0 := R0.old hb12
  replace hB := old_trans hB hb12
  clear hb12
  have l_W_H := W.lt
  have l_G_H := G.lt
  have l_P_H := P.lt
  have l_R0_H := R0.far
  have n_H := hB.size
  go_wp2_with fail
  refine (I.out _ _ _ _ P.inI).mono ?_
  rintro e w13 ⟨⟨avH, cvH, rfl, H⟩, hb13⟩
  replace W := W.later hb13
  replace G := G.later hb13
  replace P := P.later hb13
  replace R0 := R0.old hb13
  replace hB := old_trans hB hb13
  clear hb13
  clear P
  go_wp2_with fail
  refine (lEqO avH avW cvH cvW _ _ ql _ H W).mono ?_
  rintro e w14 ⟨rfl, hb14⟩
  replace W := W.later hb14
  replace G := G.later hb14
  replace H := H.later hb14
  replace R0 := R0.old hb14
  replace hB := old_trans hB hb14
  clear hb14
  go_wp2_with fail
  refine (lHeldO _ avG cvG ql.length (1) _ G hql (by omega) (by omega)).mono ?_
  rintro e w15 ⟨rfl, hb15⟩
  replace W := W.later hb15
  replace G := G.later hb15
  replace H := H.later hb15
  replace R0 := R0.old hb15
  replace hB := old_trans hB hb15
  clear hb15
  go_wp2
  go_ret
  exact ⟨rfl, hB⟩

set_option maxRecDepth 100000 in
theorem FnExactNatShift_lifted (os : Os) (started : os.Started) (H : Type) (enc : TypeId × Value → H) :
    ReturnsInHanded {} Try.checked os 8 .any (Rows.fnExactNatShiftSpec.pre6 enc Try.prog Try.f8 Rows.fnExactNatShiftRow.domain false) (Rows.fnExactNatShiftSpec.post enc Try.prog Try.f8 false true false false) := by
  refine returnsInHanded_of_change (C := Try.checked) FnExactNatShift_own started (by kernel_rfl) Try.func8
    (ChangeSpec.witness6 (enc := enc) (C := Try.checked) false ⟨#[], #[.slice none 0 0, .int .i64 0], []⟩ 8 (by kernel_rfl) (by kernel_rfl) (by kernel_rfl) (by kernel_rfl)) ?_
  intro W base args ds gs before hval0 hW hcnd _
  have hval : ∀ (j : Nat) t v, Try.f8.params[j]? = some t → args[j]? = some v → Value.okWide Try.prog W .any base t v := hval0
  have hW' := hW
  obtain ⟨p, q, hA0, hV, rfl, hfz, hnd⟩ := hW
  have hA : DataW.TrodAll enc Try.prog W 0 (fun _ => true) true Try.f8.params.toList args.toList ds p := hA0
  rw [Try.params8] at hA hval
  obtain ⟨v0, vs0, d0, ds0, p0, q0, hargs, rfl, rfl, h0, r0⟩ := trodAll_cons hA
  obtain ⟨v1, vs1, d1, ds1, p1, q1, rfl, rfl, rfl, h1, r1⟩ := trodAll_cons r0
  obtain ⟨rfl, rfl, rfl⟩ := trodAll_nil r1
  obtain rfl : args = #[v0, v1] := by cases args; simp_all
  obtain ⟨rfl, rfl⟩ := trodVars_none hV
  have k0 := h0
  have lt0 : ∀ x ∈ p0, x.block < W.heap.size := by obtain ⟨m, hm⟩ := k0; exact DataW.trod_lt m _ _ _ hm
  obtain ⟨a0, len0, cap0, xs0, rfl, wb0⟩ := open_intS (hval 0 23 v0 rfl rfl) h0
  have k1 := h1
  have lt1 : ∀ x ∈ p1, x.block < W.heap.size := by obtain ⟨m, hm⟩ := k1; exact DataW.trod_lt m _ _ _ hm
  obtain ⟨a1, rfl, -, -, wf1⟩ := open_int Try.underlying3 (hval 1 3 v1 rfl rfl) h1
  have wa1 := bounds_i64 wf1
  clear hA0 hval0
  refine (FnExactNatShift_walk a0 len0 cap0 xs0 a1 wa1 W wb0).mono fun e W' ⟨he, bel⟩ => ?_
  subst he
  exact ⟨_, rfl, _, _, _, [], _, [], hW', trodAll_mk1 (shut_bool Try.underlying4 _), (trodAll_cons_mk (Below.trod jf1 (by kernel_rfl) (of_decide_eq_true (by kernel_rfl)) k0 bel lt0) (trodAll_cons_mk (Below.trod jf1 (by kernel_rfl) (of_decide_eq_true (by kernel_rfl)) k1 bel lt1) trodAll_mk0)), rfl, bel.frame _, fun h => by cases h⟩

theorem FnExactNatShift_k0 : (Rows.fnExactNatShiftRow.wf (OpenSpec.ofChange Rows.fnExactNatShiftSpec)) = true := by kernel_rfl
theorem FnExactNatShift_k3 : (Try.f8.params.all (Try.prog.readableRec ·)) = true := by kernel_rfl
theorem FnExactNatShift_k4 : (namedTie Try.prog Rows.fnExactNatShiftRow.named Rows.fnExactNatShiftSpec.vars) = true := by kernel_rfl
theorem FnExactNatShift_k5 : ((Rows.fnExactNatShiftRow.stops == [])) = true := by kernel_rfl
theorem FnExactNatShift_k7 : ((Rows.fnExactNatShiftRow.knobs == [])) = true := by kernel_rfl
theorem FnExactNatShift_k9 : ((Rows.fnExactNatShiftRow.inPlace == Try.prog.inPlace 8)) = true := by kernel_rfl
theorem FnExactNatShift_k10 : ((Rows.fnExactNatShiftRow.unfollowed == Try.prog.unfollowed 8)) = true := by kernel_rfl
theorem FnExactNatShift_k11 : ((Rows.fnExactNatShiftRow.recurses == Try.prog.recurses 8)) = true := by kernel_rfl
theorem FnExactNatShift_k12 : ((Rows.fnExactNatShiftRow.named == Try.prog.varsNamed 8)) = true := by kernel_rfl
theorem FnExactNatShift_k13 : ((Rows.fnExactNatShiftRow.maps == (Try.f8.params.toList ++ Rows.fnExactNatShiftSpec.plain.varTypes Try.prog).any (Try.prog.mapsRec ·))) = true := by kernel_rfl
theorem FnExactNatShift_k14 : ((Rows.fnExactNatShiftRow.ifaces == (Try.f8.params.toList ++ Rows.fnExactNatShiftSpec.plain.varTypes Try.prog).any (Try.prog.ifacesRec ·))) = true := by kernel_rfl
theorem FnExactNatShift_k15 : ((Rows.fnExactNatShiftRow.mapsOut == Try.prog.mapsAmong Try.f8.resultTypes.toList)) = true := by kernel_rfl
theorem FnExactNatShift_k16 : ((Rows.fnExactNatShiftRow.loops == (Try.f8.params.toList ++ Rows.fnExactNatShiftSpec.plain.varTypes Try.prog).any (Try.prog.loopsFrom ·))) = true := by kernel_rfl
theorem FnExactNatShift_k17 : ((Rows.fnExactNatShiftRow.wideKeys == (Try.f8.params.toList ++ Rows.fnExactNatShiftSpec.plain.varTypes Try.prog ++ Try.f8.resultTypes.toList).any (Try.prog.wideKeysFrom ·))) = true := by kernel_rfl
theorem FnExactNatShift_k18 : (Rows.fnExactNatShiftSpec.vars.all (Try.prog.varReadable ·)) = true := by kernel_rfl
theorem FnExactNatShift_k19 : (Try.f8.resultTypes.all (fun t => Try.prog.readableRec t && decide (t < Try.prog.types.size))) = true := by kernel_rfl
theorem FnExactNatShift_k20 : ((Rows.fnExactNatShiftRow.ifacesOut == Try.f8.resultTypes.toList.any (Try.prog.ifacesRec ·))) = true := by kernel_rfl
theorem FnExactNatShift_k21 : ((Rows.fnExactNatShiftRow.loopsOut == Try.f8.resultTypes.toList.any (Try.prog.loopsFrom ·))) = true := by kernel_rfl
theorem FnExactNatShift_k23 : (Rows.fnExactNatShiftRow.shortTexts.isNone) = true := by kernel_rfl
theorem FnExactNatShift_k28 : ((Rows.fnExactNatShiftRow.kinds == (if Rows.fnExactNatShiftRow.domain.isEmpty then [] else Try.f8.params.toList.map fun t => match Try.prog.underlying t with | some (.int k) => some k | _ => none))) = true := by kernel_rfl
theorem FnExactNatShift_k29 : ((Rows.fnExactNatShiftRow.pinned == Rows.fnExactNatShiftRow.pinnedBy)) = true := by kernel_rfl
theorem FnExactNatShift_k30 : ((Rows.fnExactNatShiftRow.veiled == (Try.f8.params.toList ++ Rows.fnExactNatShiftSpec.plain.varTypes Try.prog ++ Try.f8.resultTypes.toList).any (Try.prog.veiledRec ·))) = true := by kernel_rfl
theorem FnExactNatShift_k31 : (Rows.fnExactNatShiftRow.veiledFits Try.prog Try.f8.params.toList (Try.f8.params.toList ++ Rows.fnExactNatShiftSpec.plain.varTypes Try.prog ++ Try.f8.resultTypes.toList)) = true := by kernel_rfl
set_option maxRecDepth 100000 in
theorem FnExactNatShift_closed : joinedFacts Try.prog 8 Try.f8 Rows.fnExactNatShiftSpec Rows.fnExactNatShiftRow = true := (and2 (and2 (and2 (and2 (and2 (and2 (and2 (and2 (and2 (and2 (and2 (and2 (and2 (and2 (and2 (and2 (and2 (and2 (and2 (and2 (and2 (and2 (and2 (and2 (and2 (and2 (and2 (and2 (and2 (and2 (and2 FnExactNatShift_k0 jf1) jf2) FnExactNatShift_k3) FnExactNatShift_k4) FnExactNatShift_k5) jf6) FnExactNatShift_k7) jf8) FnExactNatShift_k9) FnExactNatShift_k10) FnExactNatShift_k11) FnExactNatShift_k12) FnExactNatShift_k13) FnExactNatShift_k14) FnExactNatShift_k15) FnExactNatShift_k16) FnExactNatShift_k17) FnExactNatShift_k18) FnExactNatShift_k19) FnExactNatShift_k20) FnExactNatShift_k21) jf22) FnExactNatShift_k23) jf24) jf25) jf26) jf27) FnExactNatShift_k28) FnExactNatShift_k29) FnExactNatShift_k30) FnExactNatShift_k31)
theorem FnExactNatShift_over : Rows.fnExactNatShiftRow.holds Try.pinned (OpenSpec.ofChange Rows.fnExactNatShiftSpec) :=
  OpenClaim.holds_of_wide 8 Try.f8 rfl rfl rfl rfl rfl rfl rfl ⟨rfl, rfl, rfl, rfl, rfl⟩ rfl rfl rfl rfl rfl (by kernel_rfl) Try.func8 FnExactNatShift_closed
    (of_decide_eq_true (by kernel_rfl)) (by unfold Func.isWrapper; first | (rw [if_pos (by decide +kernel)]; kernel_rfl) | (rw [if_neg (by decide +kernel)]; exact ⟨rfl, rfl⟩))
    (fun os started H enc _ => FnExactNatShift_lifted os started H enc)

theorem FnExactNatShift_proved : Rows.FnExactNatShiftSaid := FnExactNatShift_over
end Go.Proofs.Ytdffcbpekabnjaa
