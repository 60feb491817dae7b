/- The program's NatDiv answers as the specification's NatDiv at every argument; it writes into no argument, and what it answers is its own. No condition. -/
import Derived.Test.YtdffcbpekabnjaaRows
import Derived.WalkKit
import Derived.ProofKit
import Derived.OpenShut
import Derived.Below
import Derived.Carry
import Derived.Test.YtdffcbpekabnjaaN0
import Derived.Test.YtdffcbpekabnjaaBG
import Derived.Test.YtdffcbpekabnjaaBJ
namespace Go.Proofs.Ytdffcbpekabnjaa
open Go.ChangeShapes Go.WideShapes Go.ChangeAt Go.RowKit
set_option linter.unusedVariables false

theorem FnExactNatDiv_own : ownKnob Try.prog.godebug = none := by kernel_rfl

set_option maxRecDepth 100000 in
set_option maxHeartbeats 4000000 in
theorem FnExactNatDiv_walk (a0 : Option Addr) (len0 cap0 : Nat) (xs0 : List Int) (a1 : Option Addr) (len1 cap1 : Nat) (xs1 : List Int) (w : World) (wb0 : InI w a0 len0 cap0 xs0) (wb1 : InI w a1 len1 cap1 xs1):
    Calls Try.prog 7 #[.slice a0 len0 cap0, .slice a1 len1 cap1] w fun e w' => e = .returned (.bool true) ∧ Below w.heap.size w w' := by
  obtain rfl := wb0.1
  obtain rfl := wb1.1
  have hlen0 := wb0.len
  have hlen1 := wb1.len
  by_cases hl0 : xs0.length ≤ 1048576
  case neg =>
    go_enter Try.func7, Try.ntmps7
    go_wp2
    go_ret
    exact ⟨rfl, (by repeat (first | exact Below.refl _ _ | refine Below.drew ?_ | refine old_alloc ?_ _ | refine old_trans ?_ (by assumption)))⟩
  by_cases hl1 : xs1.length ≤ 1048576
  case neg =>
    go_enter Try.func7, Try.ntmps7
    go_wp2
    go_ret
    exact ⟨rfl, (by repeat (first | exact Below.refl _ _ | refine Below.drew ?_ | refine old_alloc ?_ _ | refine old_trans ?_ (by assumption)))⟩
  have S := hd (fun a a' len len' cap cap' w (h : InI w a len cap xs0) (h' : InI w a' len' cap' xs1) => sNatDiv a a' len len' cap cap' xs0 xs1 w h h')
  have I := hd (fun a a' len len' cap cap' w (h : InI w a len cap xs0) (h' : InI w a' len' cap' xs1) => iNatDiv a a' len len' cap cap' xs0 xs1 w h h')
  have hql : (divQ xs0 xs1).length ≤ 1048576 := divQ_len
  have hrl : (divR xs0 xs1).length ≤ 1048576 := divR_len
  generalize divQ xs0 xs1 = ql at *
  generalize divR xs0 xs1 = rl at *
  generalize divB xs0 xs1 = r at *
  have hx1 : ¬ (1 + (xs0.length : Int) < 0) := by omega
  have hx3 : ¬ (1 + (xs0.length : Int) + (xs1.length : Int) < 0) := by omega
  have hx2 : ¬ (1 + (ql.length : Int) < 0) := by omega
  have hx4 : ¬ (1 + (ql.length : Int) + (rl.length : Int) < 0) := by omega
  have hB : Below w.heap.size w w := Below.refl _ _
  have R0 := wb0
  have R1 := wb1
  go_enter Try.func7, Try.ntmps7
  have l_R0_P := R0.far
  have l_R1_P := R1.far
  have n_P := hB.size
  go_wp2_with fail
  refine (toIntsO a0 cap0 xs0 _ R0 hl0).mono ?_
  rintro e w1 ⟨⟨avP, cvP, rfl, P⟩, hb1⟩
  replace R0 := R0.old hb1
  replace R1 := R1.old hb1
  replace hB := old_trans hB hb1
  clear hb1
  have l_P_Q := P.lt
  have l_R0_Q := R0.far
  have l_R1_Q := R1.far
  have n_Q := hB.size
  go_wp2_with fail
  refine (toIntsO a1 cap1 xs1 _ R1 hl1).mono ?_
  rintro e w2 ⟨⟨avQ, cvQ, rfl, Q⟩, hb2⟩
  replace P := P.later hb2
  replace R0 := R0.old hb2
  replace R1 := R1.old hb2
  replace hB := old_trans hB hb2
  clear hb2
  have l_P_W := P.lt
  have l_Q_W := Q.lt
  have l_R0_W := R0.far
  have l_R1_W := R1.far
  have n_W := hB.size
  have l_P_V := P.lt
  have l_Q_V := Q.lt
  have l_R0_V := R0.far
  have l_R1_V := R1.far
  have n_V := hB.size
  go_wp2_with fail
  refine (S.out _ _ _ _ _ _ _ P.inI Q.inI).mono ?_
  rintro e w3 ⟨⟨avW, cvW, avV, cvV, rfl, W, V, sWV⟩, hb3⟩
  replace P := P.later hb3
  replace Q := Q.later hb3
  replace R0 := R0.old hb3
  replace R1 := R1.old hb3
  replace hB := old_trans hB hb3
  clear hb3
  clear P
  clear Q
  have l_W_X := W.lt
  have l_V_X := V.lt
  have l_R0_X := R0.far
  have l_R1_X := R1.far
  have n_X := hB.size
  go_wp2_with fail
  refine (toIntsO a0 cap0 xs0 _ R0 hl0).mono ?_
  rintro e w4 ⟨⟨avX, cvX, rfl, X⟩, hb4⟩
  replace W := W.later hb4
  replace V := V.later hb4
  replace R0 := R0.old hb4
  replace R1 := R1.old hb4
  replace hB := old_trans hB hb4
  clear hb4
  have l_W_Y := W.lt
  have l_V_Y := V.lt
  have l_X_Y := X.lt
  have l_R0_Y := R0.far
  have l_R1_Y := R1.far
  have n_Y := hB.size
  go_wp2_with fail
  refine (toIntsO a1 cap1 xs1 _ R1 hl1).mono ?_
  rintro e w5 ⟨⟨avY, cvY, rfl, Y⟩, hb5⟩
  replace W := W.later hb5
  replace V := V.later hb5
  replace X := X.later hb5
  replace R0 := R0.old hb5
  replace R1 := R1.old hb5
  replace hB := old_trans hB hb5
  clear hb5
  have l_W_G := W.lt
  have l_V_G := V.lt
  have l_X_G := X.lt
  have l_Y_G := Y.lt
  have l_R0_G := R0.far
  have l_R1_G := R1.far
  have n_G := hB.size
  have l_W_K := W.lt
  have l_V_K := V.lt
  have l_X_K := X.lt
  have l_Y_K := Y.lt
  have l_R0_K := R0.far
  have l_R1_K := R1.far
  have n_K := hB.size
  go_wp2_with fail
  refine (I.out _ _ _ _ _ _ _ X.inI Y.inI).mono ?_
  rintro e w6 ⟨⟨avG, cvG, avK, cvK, rfl, G, K, sGK⟩, hb6⟩
  replace W := W.later hb6
  replace V := V.later hb6
  replace X := X.later hb6
  replace Y := Y.later hb6
  replace R0 := R0.old hb6
  replace R1 := R1.old hb6
  replace hB := old_trans hB hb6
  clear hb6
  go_wp2_with fail
  refine (lEqO avG avW cvG cvW _ _ ql _ G W).mono ?_
  rintro e w7 ⟨rfl, hb7⟩
  replace W := W.later hb7
  replace V := V.later hb7
  replace X := X.later hb7
  replace Y := Y.later hb7
  replace G := G.later hb7
  replace K := K.later hb7
  replace R0 := R0.old hb7
  replace R1 := R1.old hb7
  replace hB := old_trans hB hb7
  clear hb7
  go_wp2_with fail
  refine (lEqO avK avV cvK cvV _ _ rl _ K V).mono ?_
  rintro e w8 ⟨rfl, hb8⟩
  replace W := W.later hb8
  replace V := V.later hb8
  replace X := X.later hb8
  replace Y := Y.later hb8
  replace G := G.later hb8
  replace K := K.later hb8
  replace R0 := R0.old hb8
  replace R1 := R1.old hb8
  replace hB := old_trans hB hb8
  clear hb8
  have l_W_Z := W.lt
  have l_V_Z := V.lt
  have l_X_Z := X.lt
  have l_Y_Z := Y.lt
  have l_G_Z := G.lt
  have l_K_Z := K.lt
  have l_R0_Z := R0.far
  have l_R1_Z := R1.far
  have n_Z := hB.size
  go_wp2_with fail
  refine (toIntsO a0 cap0 xs0 _ R0 hl0).mono ?_
  rintro e w9 ⟨⟨avZ, cvZ, rfl, Z⟩, hb9⟩
  replace W := W.later hb9
  replace V := V.later hb9
  replace X := X.later hb9
  replace Y := Y.later hb9
  replace G := G.later hb9
  replace K := K.later hb9
  replace R0 := R0.old hb9
  replace R1 := R1.old hb9
  replace hB := old_trans hB hb9
  clear hb9
  go_wp2_with fail
  refine (lEqO avX avZ cvX cvZ _ _ xs0 _ X Z).mono ?_
  rintro e w10 ⟨rfl, hb10⟩
  replace W := W.later hb10
  replace V := V.later hb10
  replace X := X.later hb10
  replace Y := Y.later hb10
  replace G := G.later hb10
  replace K := K.later hb10
  replace Z := Z.later hb10
  replace R0 := R0.old hb10
  replace R1 := R1.old hb10
  replace hB := old_trans hB hb10
  clear hb10
  clear Z
  have l_W_Z := W.lt
  have l_V_Z := V.lt
  have l_X_Z := X.lt
  have l_Y_Z := Y.lt
  have l_G_Z := G.lt
  have l_K_Z := K.lt
  have l_R0_Z := R0.far
  have l_R1_Z := R1.far
  have n_Z := hB.size
  go_wp2_with fail
  refine (toIntsO a1 cap1 xs1 _ R1 hl1).mono ?_
  rintro e w11 ⟨⟨avZ, cvZ, rfl, Z⟩, hb11⟩
  replace W := W.later hb11
  replace V := V.later hb11
  replace X := X.later hb11
  replace Y := Y.later hb11
  replace G := G.later hb11
  replace K := K.later hb11
  replace R0 := R0.old hb11
  replace R1 := R1.old hb11
  replace hB := old_trans hB hb11
  clear hb11
  go_wp2_with fail
  refine (lEqO avY avZ cvY cvZ _ _ xs1 _ Y Z).mono ?_
  rintro e w12 ⟨rfl, hb12⟩
  replace W := W.later hb12
  replace V := V.later hb12
  replace X := X.later hb12
  replace Y := Y.later hb12
  replace G := G.later hb12
  replace K := K.later hb12
  replace Z := Z.later hb12
  replace R0 := R0.old hb12
  replace R1 := R1.old hb12
  replace hB := old_trans hB hb12
  clear hb12
  clear Z
  go_wp2_with fail
  refine (lMarkO _ avX cvX xs0 (1) _ X hl0 (by omega) (by omega)).mono ?_
  rintro e w13 ⟨rfl, X', hg13⟩
  replace W := W.kept hg13 (X.sep l_W_X)
  replace V := V.kept hg13 (X.sep l_V_X)
  replace Y := Y.kept hg13 (Y.sep' l_X_Y)
  replace G := G.kept hg13 (G.sep' l_X_G)
  replace K := K.kept hg13 (K.sep' l_X_K)
  replace R0 := R0.kept hg13 (fun h0 => X.sep (l_R0_X h0))
  replace R1 := R1.kept hg13 (fun h0 => X.sep (l_R1_X h0))
  replace hB := Below.marked hB X hg13 n_X hB.size
  clear X
  have X := X'
  clear X'
  go_wp2_with fail
  refine (lMarkO _ avY cvY xs1 (1 + (xs0.length : Int)) _ Y hl1 (by omega) (by omega)).mono ?_
  rintro e w14 ⟨rfl, Y', hg14⟩
  replace W := W.kept hg14 (Y.sep l_W_Y)
  replace V := V.kept hg14 (Y.sep l_V_Y)
  replace X := X.kept hg14 (Y.sep l_X_Y)
  replace G := G.kept hg14 (G.sep' l_Y_G)
  replace K := K.kept hg14 (K.sep' l_Y_K)
  replace R0 := R0.kept hg14 (fun h0 => Y.sep (l_R0_Y h0))
  replace R1 := R1.kept hg14 (fun h0 => Y.sep (l_R1_Y h0))
  replace hB := Below.marked hB Y hg14 n_Y hB.size
  clear Y
  have Y := Y'
  clear Y'
  go_wp2_with fail
  refine (lEqO avG avW cvG cvW _ _ ql _ G W).mono ?_
  rintro e w15 ⟨rfl, hb15⟩
  replace W := W.later hb15
  replace V := V.later hb15
  replace X := X.later hb15
  replace Y := Y.later hb15
  replace G := G.later hb15
  replace K := K.later hb15
  replace R0 := R0.old hb15
  replace R1 := R1.old hb15
  replace hB := old_trans hB hb15
  clear hb15
  go_wp2_with fail
  refine (lEqO avK avV cvK cvV _ _ rl _ K V).mono ?_
  rintro e w16 ⟨rfl, hb16⟩
  replace W := W.later hb16
  replace V := V.later hb16
  replace X := X.later hb16
  replace Y := Y.later hb16
  replace G := G.later hb16
  replace K := K.later hb16
  replace R0 := R0.old hb16
  replace R1 := R1.old hb16
  replace hB := old_trans hB hb16
  clear hb16
  clear X
  clear Y
  go_wp2_with fail
  refine (lMarkO _ avG cvG ql (1) _ G hql (by omega) (by omega)).mono ?_
  rintro e w17 ⟨rfl, G', hg17⟩
  replace W := W.kept hg17 (G.sep l_W_G)
  replace V := V.kept hg17 (G.sep l_V_G)
  replace K := K.kept hg17 (sepB sGK.symm)
  replace R0 := R0.kept hg17 (fun h0 => G.sep (l_R0_G h0))
  replace R1 := R1.kept hg17 (fun h0 => G.sep (l_R1_G h0))
  replace hB := Below.marked hB G hg17 n_G hB.size
  clear G
  have G := G'
  clear G'
  go_wp2_with fail
  refine (lMarkO _ avK cvK rl (1 + (ql.length : Int)) _ K hrl (by omega) (by omega)).mono ?_
  rintro e w18 ⟨rfl, K', hg18⟩
  replace W := W.kept hg18 (K.sep l_W_K)
  replace V := V.kept hg18 (K.sep l_V_K)
  replace G := G.kept hg18 (sepB sGK)
  replace R0 := R0.kept hg18 (fun h0 => K.sep (l_R0_K h0))
  replace R1 := R1.kept hg18 (fun h0 => K.sep (l_R1_K h0))
  replace hB := Below.marked hB K hg18 n_K hB.size
  clear K
  have K := K'
  clear K'
  go_wp2_with fail
  refine (lHeldO _ avG cvG ql.length (1) _ G hql (by omega) (by omega)).mono ?_
  rintro e w19 ⟨rfl, hb19⟩
  replace W := W.later hb19
  replace V := V.later hb19
  replace G := G.later hb19
  replace K := K.later hb19
  replace R0 := R0.old hb19
  replace R1 := R1.old hb19
  replace hB := old_trans hB hb19
  clear hb19
  go_wp2_with fail
  refine (lHeldO _ avK cvK rl.length (1 + (ql.length : Int)) _ K hrl (by omega) (by omega)).mono ?_
  rintro e w20 ⟨rfl, hb20⟩
  replace W := W.later hb20
  replace V := V.later hb20
  replace G := G.later hb20
  replace K := K.later hb20
  replace R0 := R0.old hb20
  replace R1 := R1.old hb20
  replace hB := old_trans hB hb20
  clear hb20
  have l_W_P := W.lt
  have l_V_P := V.lt
  have l_G_P := G.lt
  have l_K_P := K.lt
  have l_R0_P := R0.far
  have l_R1_P := R1.far
  have n_P := hB.size
  go_wp2_with fail
  refine (toIntsO a0 cap0 xs0 _ R0 hl0).mono ?_
  rintro e w21 ⟨⟨avP, cvP, rfl, P⟩, hb21⟩
  replace W := W.later hb21
  replace V := V.later hb21
  replace G := G.later hb21
  replace K := K.later hb21
  replace R0 := R0.old hb21
  replace R1 := R1.old hb21
  replace hB := old_trans hB hb21
  clear hb21
  have l_W_Q := W.lt
  have l_V_Q := V.lt
  have l_G_Q := G.lt
  have l_K_Q := K.lt
  have l_P_Q := P.lt
  have l_R0_Q := R0.far
  have l_R1_Q := R1.far
  have n_Q := hB.size
  go_wp2_with fail
  refine (toIntsO a1 cap1 xs1 _ R1 hl1).mono ?_
  rintro e w22 ⟨⟨avQ, cvQ, rfl, Q⟩, hb22⟩
  replace W := W.later hb22
  replace V := V.later hb22
  replace G := G.later hb22
  replace K := K.later hb22
  replace P := P.later hb22
  replace R0 := R0.old hb22
  replace R1 := R1.old hb22
  replace hB := old_trans hB hb22
  clear hb22
  have l_W_H := W.lt
  have l_V_H := V.lt
  have l_G_H := G.lt
  have l_K_H := K.lt
  have l_P_H := P.lt
  have l_Q_H := Q.lt
  have l_R0_H := R0.far
  have l_R1_H := R1.far
  have n_H := hB.size
  have l_W_M := W.lt
  have l_V_M := V.lt
  have l_G_M := G.lt
  have l_K_M := K.lt
  have l_P_M := P.lt
  have l_Q_M := Q.lt
  have l_R0_M := R0.far
  have l_R1_M := R1.far
  have n_M := hB.size
  go_wp2_with fail
  refine (I.out _ _ _ _ _ _ _ P.inI Q.inI).mono ?_
  rintro e w23 ⟨⟨avH, cvH, avM, cvM, rfl, H, M, sHM⟩, hb23⟩
  replace W := W.later hb23
  replace V := V.later hb23
  replace G := G.later hb23
  replace K := K.later hb23
  replace P := P.later hb23
  replace Q := Q.later hb23
  replace R0 := R0.old hb23
  replace R1 := R1.old hb23
  replace hB := old_trans hB hb23
  clear hb23
  clear P
  clear Q
  go_wp2_with fail
  refine (lEqO avH avW cvH cvW _ _ ql _ H W).mono ?_
  rintro e w24 ⟨rfl, hb24⟩
  replace W := W.later hb24
  replace V := V.later hb24
  replace G := G.later hb24
  replace K := K.later hb24
  replace H := H.later hb24
  replace M := M.later hb24
  replace R0 := R0.old hb24
  replace R1 := R1.old hb24
  replace hB := old_trans hB hb24
  clear hb24
  go_wp2_with fail
  refine (lEqO avM avV cvM cvV _ _ rl _ M V).mono ?_
  rintro e w25 ⟨rfl, hb25⟩
  replace W := W.later hb25
  replace V := V.later hb25
  replace G := G.later hb25
  replace K := K.later hb25
  replace H := H.later hb25
  replace M := M.later hb25
  replace R0 := R0.old hb25
  replace R1 := R1.old hb25
  replace hB := old_trans hB hb25
  clear hb25
  go_wp2_with fail
  refine (lHeldO _ avG cvG ql.length (1) _ G hql (by omega) (by omega)).mono ?_
  rintro e w26 ⟨rfl, hb26⟩
  replace W := W.later hb26
  replace V := V.later hb26
  replace G := G.later hb26
  replace K := K.later hb26
  replace H := H.later hb26
  replace M := M.later hb26
  replace R0 := R0.old hb26
  replace R1 := R1.old hb26
  replace hB := old_trans hB hb26
  clear hb26
  go_wp2_with fail
  refine (lHeldO _ avK cvK rl.length (1 + (ql.length : Int)) _ K hrl (by omega) (by omega)).mono ?_
  rintro e w27 ⟨rfl, hb27⟩
  replace W := W.later hb27
  replace V := V.later hb27
  replace G := G.later hb27
  replace K := K.later hb27
  replace H := H.later hb27
  replace M := M.later hb27
  replace R0 := R0.old hb27
  replace R1 := R1.old hb27
  replace hB := old_trans hB hb27
  clear hb27
  go_wp2
  go_ret
  exact ⟨rfl, hB⟩

set_option maxRecDepth 100000 in
theorem FnExactNatDiv_lifted (os : Os) (started : os.Started) (H : Type) (enc : TypeId × Value → H) :
    ReturnsInHanded {} Try.checked os 7 .any (Rows.fnExactNatDivSpec.pre6 enc Try.prog Try.f7 Rows.fnExactNatDivRow.domain false) (Rows.fnExactNatDivSpec.post enc Try.prog Try.f7 false true false false) := by
  refine returnsInHanded_of_change (C := Try.checked) FnExactNatDiv_own started (by kernel_rfl) Try.func7
    (ChangeSpec.witness6 (enc := enc) (C := Try.checked) false ⟨#[], #[.slice none 0 0, .slice none 0 0], []⟩ 8 (by kernel_rfl) (by kernel_rfl) (by kernel_rfl) (by kernel_rfl)) ?_
  intro W base args ds gs before hval0 hW hcnd _
  have hval : ∀ (j : Nat) t v, Try.f7.params[j]? = some t → args[j]? = some v → Value.okWide Try.prog W .any base t v := hval0
  have hW' := hW
  obtain ⟨p, q, hA0, hV, rfl, hfz, hnd⟩ := hW
  have hA : DataW.TrodAll enc Try.prog W 0 (fun _ => true) true Try.f7.params.toList args.toList ds p := hA0
  rw [Try.params7] at hA hval
  obtain ⟨v0, vs0, d0, ds0, p0, q0, hargs, rfl, rfl, h0, r0⟩ := trodAll_cons hA
  obtain ⟨v1, vs1, d1, ds1, p1, q1, rfl, rfl, rfl, h1, r1⟩ := trodAll_cons r0
  obtain ⟨rfl, rfl, rfl⟩ := trodAll_nil r1
  obtain rfl : args = #[v0, v1] := by cases args; simp_all
  obtain ⟨rfl, rfl⟩ := trodVars_none hV
  have k0 := h0
  have lt0 : ∀ x ∈ p0, x.block < W.heap.size := by obtain ⟨m, hm⟩ := k0; exact DataW.trod_lt m _ _ _ hm
  obtain ⟨a0, len0, cap0, xs0, rfl, wb0⟩ := open_intS (hval 0 23 v0 rfl rfl) h0
  have k1 := h1
  have lt1 : ∀ x ∈ p1, x.block < W.heap.size := by obtain ⟨m, hm⟩ := k1; exact DataW.trod_lt m _ _ _ hm
  obtain ⟨a1, len1, cap1, xs1, rfl, wb1⟩ := open_intS (hval 1 23 v1 rfl rfl) h1
  clear hA0 hval0
  refine (FnExactNatDiv_walk a0 len0 cap0 xs0 a1 len1 cap1 xs1 W wb0 wb1).mono fun e W' ⟨he, bel⟩ => ?_
  subst he
  exact ⟨_, rfl, _, _, _, [], _, [], hW', trodAll_mk1 (shut_bool Try.underlying4 _), (trodAll_cons_mk (Below.trod jf1 (by kernel_rfl) (of_decide_eq_true (by kernel_rfl)) k0 bel lt0) (trodAll_cons_mk (Below.trod jf1 (by kernel_rfl) (of_decide_eq_true (by kernel_rfl)) k1 bel lt1) trodAll_mk0)), rfl, bel.frame _, fun h => by cases h⟩

theorem FnExactNatDiv_k0 : (Rows.fnExactNatDivRow.wf (OpenSpec.ofChange Rows.fnExactNatDivSpec)) = true := by kernel_rfl
theorem FnExactNatDiv_k3 : (Try.f7.params.all (Try.prog.readableRec ·)) = true := by kernel_rfl
theorem FnExactNatDiv_k4 : (namedTie Try.prog Rows.fnExactNatDivRow.named Rows.fnExactNatDivSpec.vars) = true := by kernel_rfl
theorem FnExactNatDiv_k5 : ((Rows.fnExactNatDivRow.stops == [])) = true := by kernel_rfl
theorem FnExactNatDiv_k7 : ((Rows.fnExactNatDivRow.knobs == [])) = true := by kernel_rfl
theorem FnExactNatDiv_k9 : ((Rows.fnExactNatDivRow.inPlace == Try.prog.inPlace 7)) = true := by kernel_rfl
theorem FnExactNatDiv_k10 : ((Rows.fnExactNatDivRow.unfollowed == Try.prog.unfollowed 7)) = true := by kernel_rfl
theorem FnExactNatDiv_k11 : ((Rows.fnExactNatDivRow.recurses == Try.prog.recurses 7)) = true := by kernel_rfl
theorem FnExactNatDiv_k12 : ((Rows.fnExactNatDivRow.named == Try.prog.varsNamed 7)) = true := by kernel_rfl
theorem FnExactNatDiv_k13 : ((Rows.fnExactNatDivRow.maps == (Try.f7.params.toList ++ Rows.fnExactNatDivSpec.plain.varTypes Try.prog).any (Try.prog.mapsRec ·))) = true := by kernel_rfl
theorem FnExactNatDiv_k14 : ((Rows.fnExactNatDivRow.ifaces == (Try.f7.params.toList ++ Rows.fnExactNatDivSpec.plain.varTypes Try.prog).any (Try.prog.ifacesRec ·))) = true := by kernel_rfl
theorem FnExactNatDiv_k15 : ((Rows.fnExactNatDivRow.mapsOut == Try.prog.mapsAmong Try.f7.resultTypes.toList)) = true := by kernel_rfl
theorem FnExactNatDiv_k16 : ((Rows.fnExactNatDivRow.loops == (Try.f7.params.toList ++ Rows.fnExactNatDivSpec.plain.varTypes Try.prog).any (Try.prog.loopsFrom ·))) = true := by kernel_rfl
theorem FnExactNatDiv_k17 : ((Rows.fnExactNatDivRow.wideKeys == (Try.f7.params.toList ++ Rows.fnExactNatDivSpec.plain.varTypes Try.prog ++ Try.f7.resultTypes.toList).any (Try.prog.wideKeysFrom ·))) = true := by kernel_rfl
theorem FnExactNatDiv_k18 : (Rows.fnExactNatDivSpec.vars.all (Try.prog.varReadable ·)) = true := by kernel_rfl
theorem FnExactNatDiv_k19 : (Try.f7.resultTypes.all (fun t => Try.prog.readableRec t && decide (t < Try.prog.types.size))) = true := by kernel_rfl
theorem FnExactNatDiv_k20 : ((Rows.fnExactNatDivRow.ifacesOut == Try.f7.resultTypes.toList.any (Try.prog.ifacesRec ·))) = true := by kernel_rfl
theorem FnExactNatDiv_k21 : ((Rows.fnExactNatDivRow.loopsOut == Try.f7.resultTypes.toList.any (Try.prog.loopsFrom ·))) = true := by kernel_rfl
theorem FnExactNatDiv_k23 : (Rows.fnExactNatDivRow.shortTexts.isNone) = true := by kernel_rfl
theorem FnExactNatDiv_k28 : ((Rows.fnExactNatDivRow.kinds == (if Rows.fnExactNatDivRow.domain.isEmpty then [] else Try.f7.params.toList.map fun t => match Try.prog.underlying t with | some (.int k) => some k | _ => none))) = true := by kernel_rfl
theorem FnExactNatDiv_k29 : ((Rows.fnExactNatDivRow.pinned == Rows.fnExactNatDivRow.pinnedBy)) = true := by kernel_rfl
theorem FnExactNatDiv_k30 : ((Rows.fnExactNatDivRow.veiled == (Try.f7.params.toList ++ Rows.fnExactNatDivSpec.plain.varTypes Try.prog ++ Try.f7.resultTypes.toList).any (Try.prog.veiledRec ·))) = true := by kernel_rfl
theorem FnExactNatDiv_k31 : (Rows.fnExactNatDivRow.veiledFits Try.prog Try.f7.params.toList (Try.f7.params.toList ++ Rows.fnExactNatDivSpec.plain.varTypes Try.prog ++ Try.f7.resultTypes.toList)) = true := by kernel_rfl
set_option maxRecDepth 100000 in
theorem FnExactNatDiv_closed : joinedFacts Try.prog 7 Try.f7 Rows.fnExactNatDivSpec Rows.fnExactNatDivRow = true := (and2 (and2 (and2 (and2 (and2 (and2 (and2 (and2 (and2 (and2 (and2 (and2 (and2 (and2 (and2 (and2 (and2 (and2 (and2 (and2 (and2 (and2 (and2 (and2 (and2 (and2 (and2 (and2 (and2 (and2 (and2 FnExactNatDiv_k0 jf1) jf2) FnExactNatDiv_k3) FnExactNatDiv_k4) FnExactNatDiv_k5) jf6) FnExactNatDiv_k7) jf8) FnExactNatDiv_k9) FnExactNatDiv_k10) FnExactNatDiv_k11) FnExactNatDiv_k12) FnExactNatDiv_k13) FnExactNatDiv_k14) FnExactNatDiv_k15) FnExactNatDiv_k16) FnExactNatDiv_k17) FnExactNatDiv_k18) FnExactNatDiv_k19) FnExactNatDiv_k20) FnExactNatDiv_k21) jf22) FnExactNatDiv_k23) jf24) jf25) jf26) jf27) FnExactNatDiv_k28) FnExactNatDiv_k29) FnExactNatDiv_k30) FnExactNatDiv_k31)
theorem FnExactNatDiv_over : Rows.fnExactNatDivRow.holds Try.pinned (OpenSpec.ofChange Rows.fnExactNatDivSpec) :=
  OpenClaim.holds_of_wide 7 Try.f7 rfl rfl rfl rfl rfl rfl rfl ⟨rfl, rfl, rfl, rfl, rfl⟩ rfl rfl rfl rfl rfl (by kernel_rfl) Try.func7 FnExactNatDiv_closed
    (of_decide_eq_true (by kernel_rfl)) (by unfold Func.isWrapper; first | (rw [if_pos (by decide +kernel)]; kernel_rfl) | (rw [if_neg (by decide +kernel)]; exact ⟨rfl, rfl⟩))
    (fun os started H enc _ => FnExactNatDiv_lifted os started H enc)

theorem FnExactNatDiv_proved : Rows.FnExactNatDivSaid := FnExactNatDiv_over
end Go.Proofs.Ytdffcbpekabnjaa
