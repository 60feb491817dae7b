/- The program's BoxBits answers as the specification's BoxBits at every argument; it writes into no argument, and what it answers is its own. No condition. -/
import Derived.Test.YtmofapcoaolndaaRows
import Derived.WalkKit
import Derived.ProofKit
import Derived.OpenShut
import Derived.Below
import Derived.Carry
import Derived.Test.YtmofapcoaolndaaO1
import Derived.Test.YtmofapcoaolndaaEX
import Derived.Test.YtmofapcoaolndaaCut
import Derived.Test.YtmofapcoaolndaaBJ
namespace Go.Proofs.Ytmofapcoaolndaa
open Go.ChangeShapes Go.WideShapes Go.ChangeAt Go.RowKit
set_option linter.unusedVariables false

theorem FnExactBoxBits_own : ownKnob Try.prog.godebug = none := by kernel_rfl

set_option maxRecDepth 100000 in
set_option maxHeartbeats 4000000 in
theorem FnExactBoxBits_walk (a0 : Int) (wa0 : -9223372036854775808 ≤ a0 ∧ a0 ≤ 9223372036854775807) (a1 : Option Addr) (len1 cap1 : Nat) (ps1 : List (Int × Int)) (w : World) (wb1 : InRow w a1 len1 cap1 ps1):
    Calls Try.prog 5 #[.int .i64 a0, .agg #[.slice a1 len1 cap1]] w fun e w' => e = .returned (.bool true) ∧ Below w.heap.size w w' := by
  obtain rfl := wb1.1
  have hlen1 : ps1.length ≤ maxLen := Nat.le_trans wb1.2.1 wb1.2.2.1
  have SZ := hd (lSzBox a1 ps1.length cap1 1048576 hlen1 (by omega) (by omega))
  by_cases c : (ps1.length : Int) ≤ 1048576
  case neg =>
    rw [if_neg c] at SZ
    go_enter Try.func5, Try.ntmps5
    go_wp2_with (go_at_call 6; refine (SZ.out _).mono ?_; rintro e w1 ⟨rfl, hb1⟩)
    go_ret
    exact ⟨rfl, (by repeat (first | exact Below.refl _ _ | refine Below.drew ?_ | refine old_alloc ?_ _ | refine old_trans ?_ (by assumption)))⟩
  rw [if_pos c] at SZ
  have hl1 : ps1.length ≤ 1048576 := by omega
  have c' : ¬ (1048576 - (ps1.length : Int) < 0) := by omega
  clear c
  have S := hd (fun a cap w (h : InRow w a ps1.length cap ps1) => sBoxBitsO a0 a cap ps1 w h hl1)
  have I := hd (fun a cap w (h : InRow w a ps1.length cap ps1) => iBoxBitsO a0 a cap ps1 w h hl1)
  have hok8 : okRow a0 ps1 = true → ps1.length ≤ 8 := fun h => by have := okRow_len h; omega
  have hql : (resU (okRow a0 ps1) (bitsL a0 ps1)).length ≤ 1048576 := by
    cases h : okRow a0 ps1
    · exact Nat.zero_le _
    · show (bitsL a0 ps1).length ≤ 1048576
      rw [bitsL_len]; have := hok8 h; omega
  generalize resU (okRow a0 ps1) (bitsL a0 ps1) = ql at *
  clear hok8
  have hx1 : ¬ (1 + 2 * (ps1.length : Int) < 0) := by omega
  have hx2 : ¬ (1 + (ql.length : Int) < 0) := by omega
  have K : Cel1 (w.alloc (.cells #[.slice a1 ps1.length cap1] 24)) w.heap.size (.slice a1 ps1.length cap1) := Cel1.made w _ rfl _ _
  have R := wb1.alloc (.cells #[.slice a1 ps1.length cap1] 24)
  have hB : Below w.heap.size w (w.alloc (.cells #[.slice a1 ps1.length cap1] 24)) := old_alloc (Below.refl _ _) _
  obtain ⟨pK, hpK⟩ : ∃ p, w.heap.size = p := ⟨_, rfl⟩
  have hB0 : w.heap.size ≤ pK := by omega
  go_enter Try.func5, Try.ntmps5
  rw [hpK] at K
  have K0 := K.1
  have K2 := K.2.2
  go_wp2_with fail
  clear K0 K2
  generalize (w.alloc (.cells #[.slice a1 ps1.length cap1] 24)) = V0 at *
  have K0 := K.1
  have K2 := K.2.2
  refine (SZ.out _).mono ?_
  rintro e w1 ⟨rfl, hb1⟩
  clear K0 K2
  replace K := K.later hb1
  replace R := R.old hb1
  replace hB := old_trans hB hb1
  clear hb1
  have K0 := K.1
  have K2 := K.2.2
  go_wp2_with fail
  have l_K_P := K.2.2
  have l_R_P := R.far
  have n_P := hB.size
  refine (toBoxO a1 cap1 ps1 _ R hl1).mono ?_
  rintro e w2 ⟨⟨avP, cvP, rfl, P⟩, hb2⟩
  clear K0 K2
  replace K := K.later hb2
  replace R := R.old hb2
  replace hB := old_trans hB hb2
  clear hb2
  have K0 := K.1
  have K2 := K.2.2
  go_wp2_with fail
  have l_K_W := K.2.2
  have l_P_W := P.lt
  have l_R_W := R.far
  have n_W := hB.size
  refine (S.out _ _ _ P.inRow).mono ?_
  rintro e w3 ⟨⟨avW, cvW, rfl, W⟩, hb3⟩
  clear K0 K2
  clear P
  replace K := K.later hb3
  replace R := R.old hb3
  replace hB := old_trans hB hb3
  clear hb3
  have K0 := K.1
  have K2 := K.2.2
  go_wp2_with fail
  have l_K_X := K.2.2
  have l_W_X := W.lt
  have l_R_X := R.far
  have n_X := hB.size
  refine (toBoxO a1 cap1 ps1 _ R hl1).mono ?_
  rintro e w4 ⟨⟨avX, cvX, rfl, X⟩, hb4⟩
  clear K0 K2
  replace K := K.later hb4
  replace W := W.later hb4
  replace R := R.old hb4
  replace hB := old_trans hB hb4
  clear hb4
  have K0 := K.1
  have K2 := K.2.2
  have y_W_Xc := W.lt
  have y_X_Xc := X.lt
  clear K0 K2
  replace K := (K.alloc (.cells #[.slice avX ps1.length cvX] 28))
  replace W := (W.alloc (.cells #[.slice avX ps1.length cvX] 28))
  replace X := (X.alloc (.cells #[.slice avX ps1.length cvX] 28))
  replace R := (R.alloc (.cells #[.slice avX ps1.length cvX] 28))
  replace hB := old_alloc hB (.cells #[.slice avX ps1.length cvX] 28)
  have Xc : Cel1 (w4.alloc (.cells #[.slice avX ps1.length cvX] 28)) (w4.heap.size) (.slice avX ps1.length cvX) := Cel1.made w4 _ (by simp) _ _
  have K0 := K.1
  have K2 := K.2.2
  have Xc0 := Xc.1
  have Xc2 := Xc.2.2
  go_wp2_with fail
  clear K0 K2 Xc0 Xc2
  generalize (w4.alloc (.cells #[.slice avX ps1.length cvX] 28)) = V1 at *
  generalize hpXc : w4.heap.size = pXc at *
  have K0 := K.1
  have K2 := K.2.2
  have Xc0 := Xc.1
  have Xc2 := Xc.2.2
  have l_K_G := K.2.2
  have l_Xc_G := Xc.2.2
  have l_W_G := W.lt
  have l_X_G := X.lt
  have l_R_G := R.far
  have n_G := hB.size
  refine (I.out _ _ _ X.inRow).mono ?_
  rintro e w5 ⟨⟨avG, cvG, rfl, G⟩, hb5⟩
  clear K0 K2 Xc0 Xc2
  replace K := K.later hb5
  replace Xc := Xc.later hb5
  replace W := W.later hb5
  replace X := X.later hb5
  replace R := R.old hb5
  replace hB := old_trans hB hb5
  clear hb5
  have K0 := K.1
  have K2 := K.2.2
  have Xc0 := Xc.1
  have Xc2 := Xc.2.2
  go_wp2_with fail
  refine (lEqUO avG avW cvG cvW _ _ ql _ G W).mono ?_
  rintro e w6 ⟨rfl, hb6⟩
  clear K0 K2 Xc0 Xc2
  replace K := K.later hb6
  replace Xc := Xc.later hb6
  replace W := W.later hb6
  replace X := X.later hb6
  replace G := G.later hb6
  replace R := R.old hb6
  replace hB := old_trans hB hb6
  clear hb6
  have K0 := K.1
  have K2 := K.2.2
  have Xc0 := Xc.1
  have Xc2 := Xc.2.2
  go_wp2_with fail
  go_region_held3 (fun w' => w'.cell? ⟨pXc, 0, none⟩ = some (.slice avX ps1.length cvX) ∧ w'.cell? ⟨pK, 0, none⟩ = some (.slice a1 ps1.length cap1)) (go_keep) (first | (go_at_call 8; refine (toBoxO a1 cap1 ps1 _ R.drew hl1).mono ?_; rintro e wz ⟨⟨avZ, cvZ, rfl, Z⟩, hbz⟩; have K := K.drew.later hbz; have Xc := Xc.drew.later hbz; have W := W.drew.later hbz; have X := X.drew.later hbz; have G := G.drew.later hbz; have R := R.drew.old hbz; have hB := old_trans (Below.drew hB) hbz; have K0 := K.1; have K2 := K.2.2; have Xc0 := Xc.1; have Xc2 := Xc.2.2) | (go_at_call 10; refine (lEqO avX avZ cvX cvZ _ _ ps1 _ X Z).mono ?_; rintro e wy ⟨rfl, hby⟩; have K := K.later hby; have Xc := Xc.later hby; have W := W.later hby; have X := X.later hby; have G := G.later hby; have R := R.old hby; have hB := old_trans hB hby; have K0 := K.1; have K2 := K.2.2; have Xc0 := Xc.1; have Xc2 := Xc.2.2))
  go_wp2_with fail
  refine (lMarkO _ avX cvX ps1 (1) _ X hl1 (by omega) (by omega)).mono ?_
  rintro e w8 ⟨rfl, X', hg8⟩
  clear K0 K2 Xc0 Xc2
  replace K := K.kept hg8 (X.ne_old l_K_X)
  replace Xc := Xc.kept hg8 (ne_young (fun q e => by have := y_X_Xc q e; omega))
  replace W := W.kept hg8 (X.sep l_W_X)
  replace G := G.kept hg8 (G.sep' l_X_G)
  replace R := R.kept' hg8 (fun h0 => X.sep (l_R_X h0))
  replace hB := Below.marked hB X hg8 n_X hB.size
  clear X
  have X := X'
  clear X'
  have K0 := K.1
  have K2 := K.2.2
  have Xc0 := Xc.1
  have Xc2 := Xc.2.2
  go_wp2_with fail
  refine (lEqUO avG avW cvG cvW _ _ ql _ G W).mono ?_
  rintro e w9 ⟨rfl, hb9⟩
  clear K0 K2 Xc0 Xc2
  replace K := K.later hb9
  replace Xc := Xc.later hb9
  replace W := W.later hb9
  replace X := X.later hb9
  replace G := G.later hb9
  replace R := R.old hb9
  replace hB := old_trans hB hb9
  clear hb9
  have K0 := K.1
  have K2 := K.2.2
  have Xc0 := Xc.1
  have Xc2 := Xc.2.2
  go_wp2_with fail
  refine (lMarkUO _ avG cvG ql (1) _ G hql (by omega) (by omega)).mono ?_
  rintro e w10 ⟨rfl, G', hg10⟩
  clear K0 K2 Xc0 Xc2
  replace K := K.kept hg10 (G.ne_old l_K_G)
  replace Xc := Xc.kept hg10 (G.ne_old l_Xc_G)
  replace W := W.kept hg10 (G.sep l_W_G)
  replace X := X.kept hg10 (G.sep l_X_G)
  replace R := R.kept' hg10 (fun h0 => G.sep (l_R_G h0))
  replace hB := Below.markedU hB G hg10 n_G hB.size
  clear G
  have G := G'
  clear G'
  have K0 := K.1
  have K2 := K.2.2
  have Xc0 := Xc.1
  have Xc2 := Xc.2.2
  go_wp2_with fail
  refine (lHeldUO _ avG cvG ql.length (1) _ G hql (by omega) (by omega)).mono ?_
  rintro e w11 ⟨rfl, hb11⟩
  clear K0 K2 Xc0 Xc2
  replace K := K.later hb11
  replace Xc := Xc.later hb11
  replace W := W.later hb11
  replace X := X.later hb11
  replace G := G.later hb11
  replace R := R.old hb11
  replace hB := old_trans hB hb11
  clear hb11
  have K0 := K.1
  have K2 := K.2.2
  have Xc0 := Xc.1
  have Xc2 := Xc.2.2
  go_wp2_with fail
  have l_K_Y := K.2.2
  have l_Xc_Y := Xc.2.2
  have l_W_Y := W.lt
  have l_X_Y := X.lt
  have l_G_Y := G.lt
  have l_R_Y := R.far
  have n_Y := hB.size
  refine (toBoxO a1 cap1 ps1 _ R hl1).mono ?_
  rintro e w12 ⟨⟨avY, cvY, rfl, Y⟩, hb12⟩
  clear K0 K2 Xc0 Xc2
  replace K := K.later hb12
  replace Xc := Xc.later hb12
  replace W := W.later hb12
  replace X := X.later hb12
  replace G := G.later hb12
  replace R := R.old hb12
  replace hB := old_trans hB hb12
  clear hb12
  have K0 := K.1
  have K2 := K.2.2
  have Xc0 := Xc.1
  have Xc2 := Xc.2.2
  go_wp2_with fail
  have l_K_H := K.2.2
  have l_Xc_H := Xc.2.2
  have l_W_H := W.lt
  have l_X_H := X.lt
  have l_G_H := G.lt
  have l_Y_H := Y.lt
  have l_R_H := R.far
  have n_H := hB.size
  refine (I.out _ _ _ Y.inRow).mono ?_
  rintro e w13 ⟨⟨avH, cvH, rfl, H⟩, hb13⟩
  clear K0 K2 Xc0 Xc2
  clear Y
  replace K := K.later hb13
  replace Xc := Xc.later hb13
  replace W := W.later hb13
  replace X := X.later hb13
  replace G := G.later hb13
  replace R := R.old hb13
  replace hB := old_trans hB hb13
  clear hb13
  have K0 := K.1
  have K2 := K.2.2
  have Xc0 := Xc.1
  have Xc2 := Xc.2.2
  go_wp2_with fail
  refine (lEqUO avH avW cvH cvW _ _ ql _ H W).mono ?_
  rintro e w14 ⟨rfl, hb14⟩
  clear K0 K2 Xc0 Xc2
  replace K := K.later hb14
  replace Xc := Xc.later hb14
  replace W := W.later hb14
  replace X := X.later hb14
  replace G := G.later hb14
  replace H := H.later hb14
  replace R := R.old hb14
  replace hB := old_trans hB hb14
  clear hb14
  have K0 := K.1
  have K2 := K.2.2
  have Xc0 := Xc.1
  have Xc2 := Xc.2.2
  go_wp2_with fail
  refine (lHeldUO _ avG cvG ql.length (1) _ G hql (by omega) (by omega)).mono ?_
  rintro e w15 ⟨rfl, hb15⟩
  clear K0 K2 Xc0 Xc2
  replace K := K.later hb15
  replace Xc := Xc.later hb15
  replace W := W.later hb15
  replace X := X.later hb15
  replace G := G.later hb15
  replace H := H.later hb15
  replace R := R.old hb15
  replace hB := old_trans hB hb15
  clear hb15
  have K0 := K.1
  have K2 := K.2.2
  have Xc0 := Xc.1
  have Xc2 := Xc.2.2
  go_wp2
  go_ret
  exact ⟨rfl, hB⟩

set_option maxRecDepth 100000 in
theorem FnExactBoxBits_lifted (os : Os) (started : os.Started) (H : Type) (enc : TypeId × Value → H) :
    ReturnsInHanded {} Try.checked os 5 .any (Rows.fnExactBoxBitsSpec.pre6 enc Try.prog Try.f5 Rows.fnExactBoxBitsRow.domain false) (Rows.fnExactBoxBitsSpec.post enc Try.prog Try.f5 false true false false) := by
  refine returnsInHanded_of_change (C := Try.checked) FnExactBoxBits_own started (by kernel_rfl) Try.func5
    (ChangeSpec.witness6 (enc := enc) (C := Try.checked) false ⟨#[], #[.int .i64 0, .agg #[.slice none 0 0]], []⟩ 8 (by kernel_rfl) (by kernel_rfl) (by kernel_rfl) (by kernel_rfl)) ?_
  intro W base args ds gs before hval0 hW hcnd _
  have hval : ∀ (j : Nat) t v, Try.f5.params[j]? = some t → args[j]? = some v → Value.okWide Try.prog W .any base t v := hval0
  have hW' := hW
  obtain ⟨p, q, hA0, hV, rfl, hfz, hnd⟩ := hW
  have hA : DataW.TrodAll enc Try.prog W 0 (fun _ => true) true Try.f5.params.toList args.toList ds p := hA0
  rw [Try.params5] at hA hval
  obtain ⟨v0, vs0, d0, ds0, p0, q0, hargs, rfl, rfl, h0, r0⟩ := trodAll_cons hA
  obtain ⟨v1, vs1, d1, ds1, p1, q1, rfl, rfl, rfl, h1, r1⟩ := trodAll_cons r0
  obtain ⟨rfl, rfl, rfl⟩ := trodAll_nil r1
  obtain rfl : args = #[v0, v1] := by cases args; simp_all
  obtain ⟨rfl, rfl⟩ := trodVars_none hV
  have k0 := h0
  have lt0 : ∀ x ∈ p0, x.block < W.heap.size := by obtain ⟨m, hm⟩ := k0; exact DataW.trod_lt m _ _ _ hm
  obtain ⟨a0, rfl, -, -, wf0⟩ := open_int Try.underlying3 (hval 0 3 v0 rfl rfl) h0
  have wa0 := bounds_i64 wf0
  have k1 := h1
  have lt1 : ∀ x ∈ p1, x.block < W.heap.size := by obtain ⟨m, hm⟩ := k1; exact DataW.trod_lt m _ _ _ hm
  obtain ⟨a1, len1, cap1, ps1, rfl, wb1⟩ := open_lbox (hval 1 24 v1 rfl rfl) h1
  clear hA0 hval0
  refine (FnExactBoxBits_walk a0 wa0 a1 len1 cap1 ps1 W wb1).mono fun e W' ⟨he, bel⟩ => ?_
  subst he
  exact ⟨_, rfl, _, _, _, [], _, [], hW', trodAll_mk1 (shut_bool Try.underlying4 _), (trodAll_cons_mk (Below.trod jf1 (by kernel_rfl) (of_decide_eq_true (by kernel_rfl)) k0 bel lt0) (trodAll_cons_mk (Below.trod jf1 (by kernel_rfl) (of_decide_eq_true (by kernel_rfl)) k1 bel lt1) trodAll_mk0)), rfl, bel.frame _, fun h => by cases h⟩

theorem FnExactBoxBits_k0 : (Rows.fnExactBoxBitsRow.wf (OpenSpec.ofChange Rows.fnExactBoxBitsSpec)) = true := by kernel_rfl
theorem FnExactBoxBits_k3 : (Try.f5.params.all (Try.prog.readableRec ·)) = true := by kernel_rfl
theorem FnExactBoxBits_k4 : (namedTie Try.prog Rows.fnExactBoxBitsRow.named Rows.fnExactBoxBitsSpec.vars) = true := by kernel_rfl
theorem FnExactBoxBits_k5 : ((Rows.fnExactBoxBitsRow.stops == [])) = true := by kernel_rfl
theorem FnExactBoxBits_k7 : ((Rows.fnExactBoxBitsRow.knobs == [])) = true := by kernel_rfl
theorem FnExactBoxBits_k9 : ((Rows.fnExactBoxBitsRow.inPlace == Try.prog.inPlace 5)) = true := by kernel_rfl
theorem FnExactBoxBits_k10 : ((Rows.fnExactBoxBitsRow.unfollowed == Try.prog.unfollowed 5)) = true := by kernel_rfl
theorem FnExactBoxBits_k11 : ((Rows.fnExactBoxBitsRow.recurses == Try.prog.recurses 5)) = true := by kernel_rfl
theorem FnExactBoxBits_k12 : ((Rows.fnExactBoxBitsRow.named == Try.prog.varsNamed 5)) = true := by kernel_rfl
theorem FnExactBoxBits_k13 : ((Rows.fnExactBoxBitsRow.maps == (Try.f5.params.toList ++ Rows.fnExactBoxBitsSpec.plain.varTypes Try.prog).any (Try.prog.mapsRec ·))) = true := by kernel_rfl
theorem FnExactBoxBits_k14 : ((Rows.fnExactBoxBitsRow.ifaces == (Try.f5.params.toList ++ Rows.fnExactBoxBitsSpec.plain.varTypes Try.prog).any (Try.prog.ifacesRec ·))) = true := by kernel_rfl
theorem FnExactBoxBits_k15 : ((Rows.fnExactBoxBitsRow.mapsOut == Try.prog.mapsAmong Try.f5.resultTypes.toList)) = true := by kernel_rfl
theorem FnExactBoxBits_k16 : ((Rows.fnExactBoxBitsRow.loops == (Try.f5.params.toList ++ Rows.fnExactBoxBitsSpec.plain.varTypes Try.prog).any (Try.prog.loopsFrom ·))) = true := by kernel_rfl
theorem FnExactBoxBits_k17 : ((Rows.fnExactBoxBitsRow.wideKeys == (Try.f5.params.toList ++ Rows.fnExactBoxBitsSpec.plain.varTypes Try.prog ++ Try.f5.resultTypes.toList).any (Try.prog.wideKeysFrom ·))) = true := by kernel_rfl
theorem FnExactBoxBits_k18 : (Rows.fnExactBoxBitsSpec.vars.all (Try.prog.varReadable ·)) = true := by kernel_rfl
theorem FnExactBoxBits_k19 : (Try.f5.resultTypes.all (fun t => Try.prog.readableRec t && decide (t < Try.prog.types.size))) = true := by kernel_rfl
theorem FnExactBoxBits_k20 : ((Rows.fnExactBoxBitsRow.ifacesOut == Try.f5.resultTypes.toList.any (Try.prog.ifacesRec ·))) = true := by kernel_rfl
theorem FnExactBoxBits_k21 : ((Rows.fnExactBoxBitsRow.loopsOut == Try.f5.resultTypes.toList.any (Try.prog.loopsFrom ·))) = true := by kernel_rfl
theorem FnExactBoxBits_k23 : (Rows.fnExactBoxBitsRow.shortTexts.isNone) = true := by kernel_rfl
theorem FnExactBoxBits_k28 : ((Rows.fnExactBoxBitsRow.kinds == (if Rows.fnExactBoxBitsRow.domain.isEmpty then [] else Try.f5.params.toList.map fun t => match Try.prog.underlying t with | some (.int k) => some k | _ => none))) = true := by kernel_rfl
theorem FnExactBoxBits_k29 : ((Rows.fnExactBoxBitsRow.pinned == Rows.fnExactBoxBitsRow.pinnedBy)) = true := by kernel_rfl
theorem FnExactBoxBits_k30 : ((Rows.fnExactBoxBitsRow.veiled == (Try.f5.params.toList ++ Rows.fnExactBoxBitsSpec.plain.varTypes Try.prog ++ Try.f5.resultTypes.toList).any (Try.prog.veiledRec ·))) = true := by kernel_rfl
theorem FnExactBoxBits_k31 : (Rows.fnExactBoxBitsRow.veiledFits Try.prog Try.f5.params.toList (Try.f5.params.toList ++ Rows.fnExactBoxBitsSpec.plain.varTypes Try.prog ++ Try.f5.resultTypes.toList)) = true := by kernel_rfl
set_option maxRecDepth 100000 in
theorem FnExactBoxBits_closed : joinedFacts Try.prog 5 Try.f5 Rows.fnExactBoxBitsSpec Rows.fnExactBoxBitsRow = true := (and2 (and2 (and2 (and2 (and2 (and2 (and2 (and2 (and2 (and2 (and2 (and2 (and2 (and2 (and2 (and2 (and2 (and2 (and2 (and2 (and2 (and2 (and2 (and2 (and2 (and2 (and2 (and2 (and2 (and2 (and2 FnExactBoxBits_k0 jf1) jf2) FnExactBoxBits_k3) FnExactBoxBits_k4) FnExactBoxBits_k5) jf6) FnExactBoxBits_k7) jf8) FnExactBoxBits_k9) FnExactBoxBits_k10) FnExactBoxBits_k11) FnExactBoxBits_k12) FnExactBoxBits_k13) FnExactBoxBits_k14) FnExactBoxBits_k15) FnExactBoxBits_k16) FnExactBoxBits_k17) FnExactBoxBits_k18) FnExactBoxBits_k19) FnExactBoxBits_k20) FnExactBoxBits_k21) jf22) FnExactBoxBits_k23) jf24) jf25) jf26) jf27) FnExactBoxBits_k28) FnExactBoxBits_k29) FnExactBoxBits_k30) FnExactBoxBits_k31)
theorem FnExactBoxBits_over : Rows.fnExactBoxBitsRow.holds Try.pinned (OpenSpec.ofChange Rows.fnExactBoxBitsSpec) :=
  OpenClaim.holds_of_wide 5 Try.f5 rfl rfl rfl rfl rfl rfl rfl ⟨rfl, rfl, rfl, rfl, rfl⟩ rfl rfl rfl rfl rfl (by kernel_rfl) Try.func5 FnExactBoxBits_closed
    (of_decide_eq_true (by kernel_rfl)) (by unfold Func.isWrapper; first | (rw [if_pos (by decide +kernel)]; kernel_rfl) | (rw [if_neg (by decide +kernel)]; exact ⟨rfl, rfl⟩))
    (fun os started H enc _ => FnExactBoxBits_lifted os started H enc)

theorem FnExactBoxBits_proved : Rows.FnExactBoxBitsSaid := FnExactBoxBits_over
end Go.Proofs.Ytmofapcoaolndaa
