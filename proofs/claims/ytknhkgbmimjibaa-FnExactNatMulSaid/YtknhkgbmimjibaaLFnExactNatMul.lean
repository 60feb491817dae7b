/- The program's NatMul answers as the specification's NatMul at every argument; it writes into no argument, and what it answers is its own. No condition. -/
import Derived.Test.YtknhkgbmimjibaaRows
import Derived.WalkKit
import Derived.ProofKit
import Derived.OpenShut
import Derived.Below
import Derived.Carry
import Derived.Test.YtknhkgbmimjibaaN0
import Derived.Test.YtknhkgbmimjibaaBB
import Derived.Test.YtknhkgbmimjibaaBJ
namespace Go.Proofs.Ytknhkgbmimjibaa
open Go.ChangeShapes Go.WideShapes Go.ChangeAt Go.RowKit
set_option linter.unusedVariables false

theorem FnExactNatMul_own : ownKnob Try.prog.godebug = none := by kernel_rfl

set_option maxRecDepth 100000 in
set_option maxHeartbeats 4000000 in
theorem FnExactNatMul_walk (a0 : Option Addr) (len0 cap0 : Nat) (xs0 : List Int) (a1 : Option Addr) (len1 cap1 : Nat) (xs1 : List Int) (w : World) (wb0 : InI w a0 len0 cap0 xs0) (wb1 : InI w a1 len1 cap1 xs1):
    Calls Try.prog 11 #[.slice a0 len0 cap0, .slice a1 len1 cap1] w fun e w' => e = .returned (.bool true) ∧ Below w.heap.size w w' := by
  obtain rfl := wb0.1
  obtain rfl := wb1.1
  have hlen0 := wb0.len
  have hlen1 := wb1.len
  by_cases hl0 : xs0.length ≤ 1048576
  case neg =>
    go_enter Try.func11, Try.ntmps11
    go_wp2
    go_ret
    exact ⟨rfl, (by repeat (first | exact Below.refl _ _ | refine Below.drew ?_ | refine old_alloc ?_ _ | refine old_trans ?_ (by assumption)))⟩
  by_cases hl1 : xs1.length ≤ 1048576
  case neg =>
    go_enter Try.func11, Try.ntmps11
    go_wp2
    go_ret
    exact ⟨rfl, (by repeat (first | exact Below.refl _ _ | refine Below.drew ?_ | refine old_alloc ?_ _ | refine old_trans ?_ (by assumption)))⟩
  have S := hd (fun a a' len len' cap cap' w (h : InI w a len cap xs0) (h' : InI w a' len' cap' xs1) => sNatMul a a' len len' cap cap' xs0 xs1 w h h')
  have I := hd (fun a a' len len' cap cap' w (h : InI w a len cap xs0) (h' : InI w a' len' cap' xs1) => iNatMul a a' len len' cap cap' xs0 xs1 w h h')
  have hql : (resN (mulB xs0 xs1) (val xs0 * val xs1)).length ≤ 1048576 := resN_len mulB_fits
  generalize resN (mulB xs0 xs1) (val xs0 * val xs1) = ql at *
  generalize mulB xs0 xs1 = r at *
  have hx1 : ¬ (1 + (xs0.length : Int) < 0) := by omega
  have hx3 : ¬ (1 + (xs0.length : Int) + (xs1.length : Int) < 0) := by omega
  have hx2 : ¬ (1 + (ql.length : Int) < 0) := by omega
  have hB : Below w.heap.size w w := Below.refl _ _
  have R0 := wb0
  have R1 := wb1
  go_enter Try.func11, Try.ntmps11
  have l_R0_P := R0.far
  have l_R1_P := R1.far
  have n_P := hB.size
  go_wp2_with fail
  refine (toIntsO a0 cap0 xs0 _ R0 hl0).mono ?_
  rintro e w1 ⟨⟨avP, cvP, rfl, P⟩, hb1⟩
  replace R0 := R0.old hb1
  replace R1 := R1.old hb1
  replace hB := old_trans hB hb1
  clear hb1
  have l_P_Q := P.lt
  have l_R0_Q := R0.far
  have l_R1_Q := R1.far
  have n_Q := hB.size
  go_wp2_with fail
  refine (toIntsO a1 cap1 xs1 _ R1 hl1).mono ?_
  rintro e w2 ⟨⟨avQ, cvQ, rfl, Q⟩, hb2⟩
  replace P := P.later hb2
  replace R0 := R0.old hb2
  replace R1 := R1.old hb2
  replace hB := old_trans hB hb2
  clear hb2
  have l_P_W := P.lt
  have l_Q_W := Q.lt
  have l_R0_W := R0.far
  have l_R1_W := R1.far
  have n_W := hB.size
  go_wp2_with fail
  refine (S.out _ _ _ _ _ _ _ P.inI Q.inI).mono ?_
  rintro e w3 ⟨⟨avW, cvW, rfl, W⟩, hb3⟩
  replace P := P.later hb3
  replace Q := Q.later hb3
  replace R0 := R0.old hb3
  replace R1 := R1.old hb3
  replace hB := old_trans hB hb3
  clear hb3
  clear P
  clear Q
  have l_W_X := W.lt
  have l_R0_X := R0.far
  have l_R1_X := R1.far
  have n_X := hB.size
  go_wp2_with fail
  refine (toIntsO a0 cap0 xs0 _ R0 hl0).mono ?_
  rintro e w4 ⟨⟨avX, cvX, rfl, X⟩, hb4⟩
  replace W := W.later hb4
  replace R0 := R0.old hb4
  replace R1 := R1.old hb4
  replace hB := old_trans hB hb4
  clear hb4
  have l_W_Y := W.lt
  have l_X_Y := X.lt
  have l_R0_Y := R0.far
  have l_R1_Y := R1.far
  have n_Y := hB.size
  go_wp2_with fail
  refine (toIntsO a1 cap1 xs1 _ R1 hl1).mono ?_
  rintro e w5 ⟨⟨avY, cvY, rfl, Y⟩, hb5⟩
  replace W := W.later hb5
  replace X := X.later hb5
  replace R0 := R0.old hb5
  replace R1 := R1.old hb5
  replace hB := old_trans hB hb5
  clear hb5
  have l_W_G := W.lt
  have l_X_G := X.lt
  have l_Y_G := Y.lt
  have l_R0_G := R0.far
  have l_R1_G := R1.far
  have n_G := hB.size
  go_wp2_with fail
  refine (I.out _ _ _ _ _ _ _ X.inI Y.inI).mono ?_
  rintro e w6 ⟨⟨avG, cvG, rfl, G⟩, hb6⟩
  replace W := W.later hb6
  replace X := X.later hb6
  replace Y := Y.later hb6
  replace R0 := R0.old hb6
  replace R1 := R1.old hb6
  replace hB := old_trans hB hb6
  clear hb6
  go_wp2_with fail
  refine (lEqO avG avW cvG cvW _ _ ql _ G W).mono ?_
  rintro e w7 ⟨rfl, hb7⟩
  replace W := W.later hb7
  replace X := X.later hb7
  replace Y := Y.later hb7
  replace G := G.later hb7
  replace R0 := R0.old hb7
  replace R1 := R1.old hb7
  replace hB := old_trans hB hb7
  clear hb7
  have l_W_Z := W.lt
  have l_X_Z := X.lt
  have l_Y_Z := Y.lt
  have l_G_Z := G.lt
  have l_R0_Z := R0.far
  have l_R1_Z := R1.far
  have n_Z := hB.size
  go_wp2_with fail
  refine (toIntsO a0 cap0 xs0 _ R0 hl0).mono ?_
  rintro e w8 ⟨⟨avZ, cvZ, rfl, Z⟩, hb8⟩
  replace W := W.later hb8
  replace X := X.later hb8
  replace Y := Y.later hb8
  replace G := G.later hb8
  replace R0 := R0.old hb8
  replace R1 := R1.old hb8
  replace hB := old_trans hB hb8
  clear hb8
  go_wp2_with fail
  refine (lEqO avX avZ cvX cvZ _ _ xs0 _ X Z).mono ?_
  rintro e w9 ⟨rfl, hb9⟩
  replace W := W.later hb9
  replace X := X.later hb9
  replace Y := Y.later hb9
  replace G := G.later hb9
  replace Z := Z.later hb9
  replace R0 := R0.old hb9
  replace R1 := R1.old hb9
  replace hB := old_trans hB hb9
  clear hb9
  clear Z
  have l_W_Z := W.lt
  have l_X_Z := X.lt
  have l_Y_Z := Y.lt
  have l_G_Z := G.lt
  have l_R0_Z := R0.far
  have l_R1_Z := R1.far
  have n_Z := hB.size
  go_wp2_with fail
  refine (toIntsO a1 cap1 xs1 _ R1 hl1).mono ?_
  rintro e w10 ⟨⟨avZ, cvZ, rfl, Z⟩, hb10⟩
  replace W := W.later hb10
  replace X := X.later hb10
  replace Y := Y.later hb10
  replace G := G.later hb10
  replace R0 := R0.old hb10
  replace R1 := R1.old hb10
  replace hB := old_trans hB hb10
  clear hb10
  go_wp2_with fail
  refine (lEqO avY avZ cvY cvZ _ _ xs1 _ Y Z).mono ?_
  rintro e w11 ⟨rfl, hb11⟩
  replace W := W.later hb11
  replace X := X.later hb11
  replace Y := Y.later hb11
  replace G := G.later hb11
  replace Z := Z.later hb11
  replace R0 := R0.old hb11
  replace R1 := R1.old hb11
  replace hB := old_trans hB hb11
  clear hb11
  clear Z
  go_wp2_with fail
  refine (lMarkO _ avX cvX xs0 (1) _ X hl0 (by omega) (by omega)).mono ?_
  rintro e w12 ⟨rfl, X', hg12⟩
  replace W := W.kept hg12 (X.sep l_W_X)
  replace Y := Y.kept hg12 (Y.sep' l_X_Y)
  replace G := G.kept hg12 (G.sep' l_X_G)
  replace R0 := R0.kept hg12 (fun h0 => X.sep (l_R0_X h0))
  replace R1 := R1.kept hg12 (fun h0 => X.sep (l_R1_X h0))
  replace hB := Below.marked hB X hg12 n_X hB.size
  clear X
  have X := X'
  clear X'
  go_wp2_with fail
  refine (lMarkO _ avY cvY xs1 (1 + (xs0.length : Int)) _ Y hl1 (by omega) (by omega)).mono ?_
  rintro e w13 ⟨rfl, Y', hg13⟩
  replace W := W.kept hg13 (Y.sep l_W_Y)
  replace X := X.kept hg13 (Y.sep l_X_Y)
  replace G := G.kept hg13 (G.sep' l_Y_G)
  replace R0 := R0.kept hg13 (fun h0 => Y.sep (l_R0_Y h0))
  replace R1 := R1.kept hg13 (fun h0 => Y.sep (l_R1_Y h0))
  replace hB := Below.marked hB Y hg13 n_Y hB.size
  clear Y
  have Y := Y'
  clear Y'
  go_wp2_with fail
  refine (lEqO avG avW cvG cvW _ _ ql _ G W).mono ?_
  rintro e w14 ⟨rfl, hb14⟩
  replace W := W.later hb14
  replace X := X.later hb14
  replace Y := Y.later hb14
  replace G := G.later hb14
  replace R0 := R0.old hb14
  replace R1 := R1.old hb14
  replace hB := old_trans hB hb14
  clear hb14
  clear X
  clear Y
  go_wp2_with fail
  refine (lMarkO _ avG cvG ql (1) _ G hql (by omega) (by omega)).mono ?_
  rintro e w15 ⟨rfl, G', hg15⟩
  replace W := W.kept hg15 (G.sep l_W_G)
  replace R0 := R0.kept hg15 (fun h0 => G.sep (l_R0_G h0))
  replace R1 := R1.kept hg15 (fun h0 => G.sep (l_R1_G h0))
  replace hB := Below.marked hB G hg15 n_G hB.size
  clear G
  have G := G'
  clear G'
  go_wp2_with fail
  refine (lHeldO _ avG cvG ql.length (1) _ G hql (by omega) (by omega)).mono ?_
  rintro e w16 ⟨rfl, hb16⟩
  replace W := W.later hb16
  replace G := G.later hb16
  replace R0 := R0.old hb16
  replace R1 := R1.old hb16
  replace hB := old_trans hB hb16
  clear hb16
  have l_W_P := W.lt
  have l_G_P := G.lt
  have l_R0_P := R0.far
  have l_R1_P := R1.far
  have n_P := hB.size
  go_wp2_with fail
  refine (toIntsO a0 cap0 xs0 _ R0 hl0).mono ?_
  rintro e w17 ⟨⟨avP, cvP, rfl, P⟩, hb17⟩
  replace W := W.later hb17
  replace G := G.later hb17
  replace R0 := R0.old hb17
  replace R1 := R1.old hb17
  replace hB := old_trans hB hb17
  clear hb17
  have l_W_Q := W.lt
  have l_G_Q := G.lt
  have l_P_Q := P.lt
  have l_R0_Q := R0.far
  have l_R1_Q := R1.far
  have n_Q := hB.size
  go_wp2_with fail
  refine (toIntsO a1 cap1 xs1 _ R1 hl1).mono ?_
  rintro e w18 ⟨⟨avQ, cvQ, rfl, Q⟩, hb18⟩
  replace W := W.later hb18
  replace G := G.later hb18
  replace P := P.later hb18
  replace R0 := R0.old hb18
  replace R1 := R1.old hb18
  replace hB := old_trans hB hb18
  clear hb18
  have l_W_H := W.lt
  have l_G_H := G.lt
  have l_P_H := P.lt
  have l_Q_H := Q.lt
  have l_R0_H := R0.far
  have l_R1_H := R1.far
  have n_H := hB.size
  go_wp2_with fail
  refine (I.out _ _ _ _ _ _ _ P.inI Q.inI).mono ?_
  rintro e w19 ⟨⟨avH, cvH, rfl, H⟩, hb19⟩
  replace W := W.later hb19
  replace G := G.later hb19
  replace P := P.later hb19
  replace Q := Q.later hb19
  replace R0 := R0.old hb19
  replace R1 := R1.old hb19
  replace hB := old_trans hB hb19
  clear hb19
  clear P
  clear Q
  go_wp2_with fail
  refine (lEqO avH avW cvH cvW _ _ ql _ H W).mono ?_
  rintro e w20 ⟨rfl, hb20⟩
  replace W := W.later hb20
  replace G := G.later hb20
  replace H := H.later hb20
  replace R0 := R0.old hb20
  replace R1 := R1.old hb20
  replace hB := old_trans hB hb20
  clear hb20
  go_wp2_with fail
  refine (lHeldO _ avG cvG ql.length (1) _ G hql (by omega) (by omega)).mono ?_
  rintro e w21 ⟨rfl, hb21⟩
  replace W := W.later hb21
  replace G := G.later hb21
  replace H := H.later hb21
  replace R0 := R0.old hb21
  replace R1 := R1.old hb21
  replace hB := old_trans hB hb21
  clear hb21
  go_wp2
  go_ret
  exact ⟨rfl, hB⟩

set_option maxRecDepth 100000 in
theorem FnExactNatMul_lifted (os : Os) (started : os.Started) (H : Type) (enc : TypeId × Value → H) :
    ReturnsInHanded {} Try.checked os 11 .any (Rows.fnExactNatMulSpec.pre6 enc Try.prog Try.f11 Rows.fnExactNatMulRow.domain false) (Rows.fnExactNatMulSpec.post enc Try.prog Try.f11 false true false false) := by
  refine returnsInHanded_of_change (C := Try.checked) FnExactNatMul_own started (by kernel_rfl) Try.func11
    (ChangeSpec.witness6 (enc := enc) (C := Try.checked) false ⟨#[], #[.slice none 0 0, .slice none 0 0], []⟩ 8 (by kernel_rfl) (by kernel_rfl) (by kernel_rfl) (by kernel_rfl)) ?_
  intro W base args ds gs before hval0 hW hcnd _
  have hval : ∀ (j : Nat) t v, Try.f11.params[j]? = some t → args[j]? = some v → Value.okWide Try.prog W .any base t v := hval0
  have hW' := hW
  obtain ⟨p, q, hA0, hV, rfl, hfz, hnd⟩ := hW
  have hA : DataW.TrodAll enc Try.prog W 0 (fun _ => true) true Try.f11.params.toList args.toList ds p := hA0
  rw [Try.params11] at hA hval
  obtain ⟨v0, vs0, d0, ds0, p0, q0, hargs, rfl, rfl, h0, r0⟩ := trodAll_cons hA
  obtain ⟨v1, vs1, d1, ds1, p1, q1, rfl, rfl, rfl, h1, r1⟩ := trodAll_cons r0
  obtain ⟨rfl, rfl, rfl⟩ := trodAll_nil r1
  obtain rfl : args = #[v0, v1] := by cases args; simp_all
  obtain ⟨rfl, rfl⟩ := trodVars_none hV
  have k0 := h0
  have lt0 : ∀ x ∈ p0, x.block < W.heap.size := by obtain ⟨m, hm⟩ := k0; exact DataW.trod_lt m _ _ _ hm
  obtain ⟨a0, len0, cap0, xs0, rfl, wb0⟩ := open_intS (hval 0 25 v0 rfl rfl) h0
  have k1 := h1
  have lt1 : ∀ x ∈ p1, x.block < W.heap.size := by obtain ⟨m, hm⟩ := k1; exact DataW.trod_lt m _ _ _ hm
  obtain ⟨a1, len1, cap1, xs1, rfl, wb1⟩ := open_intS (hval 1 25 v1 rfl rfl) h1
  clear hA0 hval0
  refine (FnExactNatMul_walk a0 len0 cap0 xs0 a1 len1 cap1 xs1 W wb0 wb1).mono fun e W' ⟨he, bel⟩ => ?_
  subst he
  exact ⟨_, rfl, _, _, _, [], _, [], hW', trodAll_mk1 (shut_bool Try.underlying4 _), (trodAll_cons_mk (Below.trod jf1 (by kernel_rfl) (of_decide_eq_true (by kernel_rfl)) k0 bel lt0) (trodAll_cons_mk (Below.trod jf1 (by kernel_rfl) (of_decide_eq_true (by kernel_rfl)) k1 bel lt1) trodAll_mk0)), rfl, bel.frame _, fun h => by cases h⟩

theorem FnExactNatMul_k0 : (Rows.fnExactNatMulRow.wf (OpenSpec.ofChange Rows.fnExactNatMulSpec)) = true := by kernel_rfl
theorem FnExactNatMul_k3 : (Try.f11.params.all (Try.prog.readableRec ·)) = true := by kernel_rfl
theorem FnExactNatMul_k4 : (namedTie Try.prog Rows.fnExactNatMulRow.named Rows.fnExactNatMulSpec.vars) = true := by kernel_rfl
theorem FnExactNatMul_k5 : ((Rows.fnExactNatMulRow.stops == [])) = true := by kernel_rfl
theorem FnExactNatMul_k7 : ((Rows.fnExactNatMulRow.knobs == [])) = true := by kernel_rfl
theorem FnExactNatMul_k9 : ((Rows.fnExactNatMulRow.inPlace == Try.prog.inPlace 11)) = true := by kernel_rfl
theorem FnExactNatMul_k10 : ((Rows.fnExactNatMulRow.unfollowed == Try.prog.unfollowed 11)) = true := by kernel_rfl
theorem FnExactNatMul_k11 : ((Rows.fnExactNatMulRow.recurses == Try.prog.recurses 11)) = true := by kernel_rfl
theorem FnExactNatMul_k12 : ((Rows.fnExactNatMulRow.named == Try.prog.varsNamed 11)) = true := by kernel_rfl
theorem FnExactNatMul_k13 : ((Rows.fnExactNatMulRow.maps == (Try.f11.params.toList ++ Rows.fnExactNatMulSpec.plain.varTypes Try.prog).any (Try.prog.mapsRec ·))) = true := by kernel_rfl
theorem FnExactNatMul_k14 : ((Rows.fnExactNatMulRow.ifaces == (Try.f11.params.toList ++ Rows.fnExactNatMulSpec.plain.varTypes Try.prog).any (Try.prog.ifacesRec ·))) = true := by kernel_rfl
theorem FnExactNatMul_k15 : ((Rows.fnExactNatMulRow.mapsOut == Try.prog.mapsAmong Try.f11.resultTypes.toList)) = true := by kernel_rfl
theorem FnExactNatMul_k16 : ((Rows.fnExactNatMulRow.loops == (Try.f11.params.toList ++ Rows.fnExactNatMulSpec.plain.varTypes Try.prog).any (Try.prog.loopsFrom ·))) = true := by kernel_rfl
theorem FnExactNatMul_k17 : ((Rows.fnExactNatMulRow.wideKeys == (Try.f11.params.toList ++ Rows.fnExactNatMulSpec.plain.varTypes Try.prog ++ Try.f11.resultTypes.toList).any (Try.prog.wideKeysFrom ·))) = true := by kernel_rfl
theorem FnExactNatMul_k18 : (Rows.fnExactNatMulSpec.vars.all (Try.prog.varReadable ·)) = true := by kernel_rfl
theorem FnExactNatMul_k19 : (Try.f11.resultTypes.all (fun t => Try.prog.readableRec t && decide (t < Try.prog.types.size))) = true := by kernel_rfl
theorem FnExactNatMul_k20 : ((Rows.fnExactNatMulRow.ifacesOut == Try.f11.resultTypes.toList.any (Try.prog.ifacesRec ·))) = true := by kernel_rfl
theorem FnExactNatMul_k21 : ((Rows.fnExactNatMulRow.loopsOut == Try.f11.resultTypes.toList.any (Try.prog.loopsFrom ·))) = true := by kernel_rfl
theorem FnExactNatMul_k23 : (Rows.fnExactNatMulRow.shortTexts.isNone) = true := by kernel_rfl
theorem FnExactNatMul_k28 : ((Rows.fnExactNatMulRow.kinds == (if Rows.fnExactNatMulRow.domain.isEmpty then [] else Try.f11.params.toList.map fun t => match Try.prog.underlying t with | some (.int k) => some k | _ => none))) = true := by kernel_rfl
theorem FnExactNatMul_k29 : ((Rows.fnExactNatMulRow.pinned == Rows.fnExactNatMulRow.pinnedBy)) = true := by kernel_rfl
theorem FnExactNatMul_k30 : ((Rows.fnExactNatMulRow.veiled == (Try.f11.params.toList ++ Rows.fnExactNatMulSpec.plain.varTypes Try.prog ++ Try.f11.resultTypes.toList).any (Try.prog.veiledRec ·))) = true := by kernel_rfl
theorem FnExactNatMul_k31 : (Rows.fnExactNatMulRow.veiledFits Try.prog Try.f11.params.toList (Try.f11.params.toList ++ Rows.fnExactNatMulSpec.plain.varTypes Try.prog ++ Try.f11.resultTypes.toList)) = true := by kernel_rfl
set_option maxRecDepth 100000 in
theorem FnExactNatMul_closed : joinedFacts Try.prog 11 Try.f11 Rows.fnExactNatMulSpec Rows.fnExactNatMulRow = true := (and2 (and2 (and2 (and2 (and2 (and2 (and2 (and2 (and2 (and2 (and2 (and2 (and2 (and2 (and2 (and2 (and2 (and2 (and2 (and2 (and2 (and2 (and2 (and2 (and2 (and2 (and2 (and2 (and2 (and2 (and2 FnExactNatMul_k0 jf1) jf2) FnExactNatMul_k3) FnExactNatMul_k4) FnExactNatMul_k5) jf6) FnExactNatMul_k7) jf8) FnExactNatMul_k9) FnExactNatMul_k10) FnExactNatMul_k11) FnExactNatMul_k12) FnExactNatMul_k13) FnExactNatMul_k14) FnExactNatMul_k15) FnExactNatMul_k16) FnExactNatMul_k17) FnExactNatMul_k18) FnExactNatMul_k19) FnExactNatMul_k20) FnExactNatMul_k21) jf22) FnExactNatMul_k23) jf24) jf25) jf26) jf27) FnExactNatMul_k28) FnExactNatMul_k29) FnExactNatMul_k30) FnExactNatMul_k31)
theorem FnExactNatMul_over : Rows.fnExactNatMulRow.holds Try.pinned (OpenSpec.ofChange Rows.fnExactNatMulSpec) :=
  OpenClaim.holds_of_wide 11 Try.f11 rfl rfl rfl rfl rfl rfl rfl ⟨rfl, rfl, rfl, rfl, rfl⟩ rfl rfl rfl rfl rfl (by kernel_rfl) Try.func11 FnExactNatMul_closed
    (of_decide_eq_true (by kernel_rfl)) (by unfold Func.isWrapper; first | (rw [if_pos (by decide +kernel)]; kernel_rfl) | (rw [if_neg (by decide +kernel)]; exact ⟨rfl, rfl⟩))
    (fun os started H enc _ => FnExactNatMul_lifted os started H enc)

theorem FnExactNatMul_proved : Rows.FnExactNatMulSaid := FnExactNatMul_over
end Go.Proofs.Ytknhkgbmimjibaa
