/- The program's PairSplit answers as the specification's PairSplit at every argument; nothing that was there is written. No condition. -/
import Derived.Test.YteigdooniolmlaaRows
import Derived.WalkKit
import Derived.ProofKit
import Derived.OpenShut
import Derived.Below
import Derived.Carry
import Derived.Test.YteigdooniolmlaaO1
import Derived.Test.YteigdooniolmlaaR9
import Derived.Test.YteigdooniolmlaaJ0
import Derived.Test.YteigdooniolmlaaJ1
import Derived.Test.YteigdooniolmlaaJ4
import Derived.Test.YteigdooniolmlaaJ5
import Derived.Test.YteigdooniolmlaaJ6
namespace Go.Proofs.Yteigdooniolmlaa
open Go.ChangeShapes Go.WideShapes Go.ChangeAt Go.RowKit
set_option linter.unusedVariables false

theorem FnExactPairSplit_own : ownKnob Try.prog.godebug = none := by kernel_rfl

set_option maxRecDepth 100000 in
set_option maxHeartbeats 4000000 in
theorem FnExactPairSplit_walk (a0 : Int) (wa0 : -9223372036854775808 ≤ a0 ∧ a0 ≤ 9223372036854775807) (a1 b1 : Int) (wa1 : -9223372036854775808 ≤ a1 ∧ a1 ≤ 9223372036854775807) (wb1 : -9223372036854775808 ≤ b1 ∧ b1 ≤ 9223372036854775807) (w : World) :
    Calls Try.prog 10 #[.int .i64 a0, .agg #[.int .i64 a1, .int .i64 b1]] w fun e w' => e = .returned (.bool true) ∧ Below w.heap.size w w' := by
  have S := hd (sPairSplit a0 a1 b1 wa1.1 wa1.2 wb1.1 wb1.2)
  have I := hd (iPairSplit a0 a1 b1 wa1.1 wa1.2 wb1.1 wb1.2)
  rw [pair2V_eq] at S I
  generalize midI a1 b1 = m at *
  generalize splitB a0 a1 b1 = r at *
  generalize (if r then a1 else 0) = x1 at *
  generalize (if r then m else 0) = x2 at *
  generalize (if r then b1 else 0) = x3 at *
  have E1 := hd (eqPair_same x1 x2)
  have E2 := hd (eqPair_same x2 x3)
  go_enter Try.func10, Try.ntmps10
  go_wp2_with fail
  refine (toPair a1 b1 _).mono ?_
  rintro e w1 ⟨rfl, hb1⟩
  have K := (by first | exact (Cel2.made w (w.heap.size) (by simp) (.int .i64 a1) (.int .i64 b1) 39).later hb1 | exact ((Cel2.made w (w.heap.size) (by simp) (.int .i64 a1) (.int .i64 b1) 39).alloc _).later hb1 | exact (((Cel2.made w (w.heap.size) (by simp) (.int .i64 a1) (.int .i64 b1) 39).alloc _).alloc _).later hb1 : Cel2 w1 _ _ _)
  have K0 := K.1
  have K1 := K.2.1
  have Kz := K.2.2.2.2
  go_wp2_with fail
  refine (S.out _).mono ?_
  rintro e w2 ⟨rfl, hb2⟩
  clear K0 K1 Kz
  have K := (by first | exact K.later hb2 | exact (K.alloc _).later hb2 | exact ((K.alloc _).alloc _).later hb2 : Cel2 w2 _ _ _)
  have K0 := K.1
  have K1 := K.2.1
  have Kz := K.2.2.2.2
  go_wp2_with fail
  refine (toPair a1 b1 _).mono ?_
  rintro e w3 ⟨rfl, hb3⟩
  clear K0 K1 Kz
  have K := (by first | exact K.later hb3 | exact (K.alloc _).later hb3 | exact ((K.alloc _).alloc _).later hb3 : Cel2 w3 _ _ _)
  have X := (by first | exact (Cel2.made w2 (w2.heap.size) (by simp) (.int .i64 x1) (.int .i64 x2) 24).later hb3 | exact ((Cel2.made w2 (w2.heap.size) (by simp) (.int .i64 x1) (.int .i64 x2) 24).alloc _).later hb3 | exact (((Cel2.made w2 (w2.heap.size) (by simp) (.int .i64 x1) (.int .i64 x2) 24).alloc _).alloc _).later hb3 : Cel2 w3 _ _ _)
  have Y := (by first | exact (Cel2.made _ (w2.heap.size + 1) (by simp) (.int .i64 x2) (.int .i64 x3) 24).later hb3 | exact ((Cel2.made _ (w2.heap.size + 1) (by simp) (.int .i64 x2) (.int .i64 x3) 24).alloc _).later hb3 | exact (((Cel2.made _ (w2.heap.size + 1) (by simp) (.int .i64 x2) (.int .i64 x3) 24).alloc _).alloc _).later hb3 : Cel2 w3 _ _ _)
  have K0 := K.1
  have K1 := K.2.1
  have Kz := K.2.2.2.2
  have X0 := X.1
  have X1 := X.2.1
  have Xz := X.2.2.2.2
  have Y0 := Y.1
  have Y1 := Y.2.1
  have Yz := Y.2.2.2.2
  go_wp2_with fail
  refine (I.out _).mono ?_
  rintro e w4 ⟨rfl, hb4⟩
  clear K0 K1 Kz
  have K := (by first | exact K.later hb4 | exact (K.alloc _).later hb4 | exact ((K.alloc _).alloc _).later hb4 : Cel2 w4 _ _ _)
  clear X0 X1 Xz
  have X := (by first | exact X.later hb4 | exact (X.alloc _).later hb4 | exact ((X.alloc _).alloc _).later hb4 : Cel2 w4 _ _ _)
  clear Y0 Y1 Yz
  have Y := (by first | exact Y.later hb4 | exact (Y.alloc _).later hb4 | exact ((Y.alloc _).alloc _).later hb4 : Cel2 w4 _ _ _)
  have K0 := K.1
  have K1 := K.2.1
  have Kz := K.2.2.2.2
  have X0 := X.1
  have X1 := X.2.1
  have Xz := X.2.2.2.2
  have Y0 := Y.1
  have Y1 := Y.2.1
  have Yz := Y.2.2.2.2
  go_wp2_with fail
  refine (E1.out _).mono ?_
  rintro e w5 ⟨rfl, hb5⟩
  clear K0 K1 Kz
  have K := (by first | exact K.later hb5 | exact (K.alloc _).later hb5 | exact ((K.alloc _).alloc _).later hb5 : Cel2 w5 _ _ _)
  clear X0 X1 Xz
  have X := (by first | exact X.later hb5 | exact (X.alloc _).later hb5 | exact ((X.alloc _).alloc _).later hb5 : Cel2 w5 _ _ _)
  clear Y0 Y1 Yz
  have Y := (by first | exact Y.later hb5 | exact (Y.alloc _).later hb5 | exact ((Y.alloc _).alloc _).later hb5 : Cel2 w5 _ _ _)
  have G := (by first | exact (Cel2.made w4 (w4.heap.size) (by simp) (.int .i64 x1) (.int .i64 x2) 24).later hb5 | exact ((Cel2.made w4 (w4.heap.size) (by simp) (.int .i64 x1) (.int .i64 x2) 24).alloc _).later hb5 | exact (((Cel2.made w4 (w4.heap.size) (by simp) (.int .i64 x1) (.int .i64 x2) 24).alloc _).alloc _).later hb5 : Cel2 w5 _ _ _)
  have H := (by first | exact (Cel2.made _ (w4.heap.size + 1) (by simp) (.int .i64 x2) (.int .i64 x3) 24).later hb5 | exact ((Cel2.made _ (w4.heap.size + 1) (by simp) (.int .i64 x2) (.int .i64 x3) 24).alloc _).later hb5 | exact (((Cel2.made _ (w4.heap.size + 1) (by simp) (.int .i64 x2) (.int .i64 x3) 24).alloc _).alloc _).later hb5 : Cel2 w5 _ _ _)
  have K0 := K.1
  have K1 := K.2.1
  have Kz := K.2.2.2.2
  have X0 := X.1
  have X1 := X.2.1
  have Xz := X.2.2.2.2
  have Y0 := Y.1
  have Y1 := Y.2.1
  have Yz := Y.2.2.2.2
  have G0 := G.1
  have G1 := G.2.1
  have Gz := G.2.2.2.2
  have H0 := H.1
  have H1 := H.2.1
  have Hz := H.2.2.2.2
  go_wp2_with fail
  refine (E2.out _).mono ?_
  rintro e w6 ⟨rfl, hb6⟩
  clear K0 K1 Kz
  have K := (by first | exact K.later hb6 | exact (K.alloc _).later hb6 | exact ((K.alloc _).alloc _).later hb6 : Cel2 w6 _ _ _)
  clear X0 X1 Xz
  have X := (by first | exact X.later hb6 | exact (X.alloc _).later hb6 | exact ((X.alloc _).alloc _).later hb6 : Cel2 w6 _ _ _)
  clear Y0 Y1 Yz
  have Y := (by first | exact Y.later hb6 | exact (Y.alloc _).later hb6 | exact ((Y.alloc _).alloc _).later hb6 : Cel2 w6 _ _ _)
  clear G0 G1 Gz
  have G := (by first | exact G.later hb6 | exact (G.alloc _).later hb6 | exact ((G.alloc _).alloc _).later hb6 : Cel2 w6 _ _ _)
  clear H0 H1 Hz
  have H := (by first | exact H.later hb6 | exact (H.alloc _).later hb6 | exact ((H.alloc _).alloc _).later hb6 : Cel2 w6 _ _ _)
  have K0 := K.1
  have K1 := K.2.1
  have Kz := K.2.2.2.2
  have X0 := X.1
  have X1 := X.2.1
  have Xz := X.2.2.2.2
  have Y0 := Y.1
  have Y1 := Y.2.1
  have Yz := Y.2.2.2.2
  have G0 := G.1
  have G1 := G.2.1
  have Gz := G.2.2.2.2
  have H0 := H.1
  have H1 := H.2.1
  have Hz := H.2.2.2.2
  go_wp2
  go_ret
  exact ⟨rfl, (by repeat (first | exact Below.refl _ _ | refine Below.drew ?_ | refine old_alloc ?_ _ | refine old_trans ?_ (by assumption)))⟩
set_option maxRecDepth 100000 in
theorem FnExactPairSplit_lifted (os : Os) (started : os.Started) (H : Type) (enc : TypeId × Value → H) :
    ReturnsInHanded {} Try.checked os 10 .any (Rows.fnExactPairSplitSpec.pre6 enc Try.prog Try.f10 Rows.fnExactPairSplitRow.domain false) (Rows.fnExactPairSplitSpec.post enc Try.prog Try.f10 false true false false) := by
  refine returnsInHanded_of_change (C := Try.checked) FnExactPairSplit_own started (by kernel_rfl) Try.func10
    (ChangeSpec.witness6 (enc := enc) (C := Try.checked) false ⟨#[], #[.int .i64 0, .agg #[.int .i64 0, .int .i64 0]], []⟩ 8 (by kernel_rfl) (by kernel_rfl) (by kernel_rfl) (by kernel_rfl)) ?_
  intro W base args ds gs before hval0 hW hcnd _
  have hval : ∀ (j : Nat) t v, Try.f10.params[j]? = some t → args[j]? = some v → Value.okWide Try.prog W .any base t v := hval0
  have hW' := hW
  obtain ⟨p, q, hA0, hV, rfl, hfz, hnd⟩ := hW
  have hA : DataW.TrodAll enc Try.prog W 0 (fun _ => true) true Try.f10.params.toList args.toList ds p := hA0
  rw [Try.params10] at hA hval
  obtain ⟨v0, vs0, d0, ds0, p0, q0, hargs, rfl, rfl, h0, r0⟩ := trodAll_cons hA
  obtain ⟨v1, vs1, d1, ds1, p1, q1, rfl, rfl, rfl, h1, r1⟩ := trodAll_cons r0
  obtain ⟨rfl, rfl, rfl⟩ := trodAll_nil r1
  obtain rfl : args = #[v0, v1] := by cases args; simp_all
  obtain ⟨rfl, rfl⟩ := trodVars_none hV
  have k0 := h0
  have lt0 : ∀ x ∈ p0, x.block < W.heap.size := by obtain ⟨m, hm⟩ := k0; exact DataW.trod_lt m _ _ _ hm
  obtain ⟨a0, rfl, -, -, wf0⟩ := open_int Try.underlying3 (hval 0 3 v0 rfl rfl) h0
  have wa0 := bounds_i64 wf0
  have k1 := h1
  have lt1 : ∀ x ∈ p1, x.block < W.heap.size := by obtain ⟨m, hm⟩ := k1; exact DataW.trod_lt m _ _ _ hm
  obtain ⟨a1, b1, rfl, wa1, wb1⟩ := open_lpair (hval 1 39 v1 rfl rfl) h1
  clear hA0 hval0
  refine (FnExactPairSplit_walk a0 wa0 a1 b1 wa1 wb1 W ).mono fun e W' ⟨he, bel⟩ => ?_
  subst he
  exact ⟨_, rfl, _, _, _, [], _, [], hW', trodAll_mk1 (shut_bool Try.underlying4 _), (trodAll_cons_mk (Below.trod jf1 (by kernel_rfl) (of_decide_eq_true (by kernel_rfl)) k0 bel lt0) (trodAll_cons_mk (Below.trod jf1 (by kernel_rfl) (of_decide_eq_true (by kernel_rfl)) k1 bel lt1) trodAll_mk0)), rfl, bel.frame _, fun h => by cases h⟩

theorem FnExactPairSplit_k0 : (Rows.fnExactPairSplitRow.wf (OpenSpec.ofChange Rows.fnExactPairSplitSpec)) = true := by kernel_rfl
theorem FnExactPairSplit_k3 : (Try.f10.params.all (Try.prog.readableRec ·)) = true := by kernel_rfl
theorem FnExactPairSplit_k4 : (namedTie Try.prog Rows.fnExactPairSplitRow.named Rows.fnExactPairSplitSpec.vars) = true := by kernel_rfl
theorem FnExactPairSplit_k5 : ((Rows.fnExactPairSplitRow.stops == [])) = true := by kernel_rfl
theorem FnExactPairSplit_k7 : ((Rows.fnExactPairSplitRow.knobs == [])) = true := by kernel_rfl
theorem FnExactPairSplit_k9 : ((Rows.fnExactPairSplitRow.inPlace == Try.prog.inPlace 10)) = true := by kernel_rfl
theorem FnExactPairSplit_k10 : ((Rows.fnExactPairSplitRow.unfollowed == Try.prog.unfollowed 10)) = true := by kernel_rfl
theorem FnExactPairSplit_k11 : ((Rows.fnExactPairSplitRow.recurses == Try.prog.recurses 10)) = true := by kernel_rfl
theorem FnExactPairSplit_k12 : ((Rows.fnExactPairSplitRow.named == Try.prog.varsNamed 10)) = true := by kernel_rfl
theorem FnExactPairSplit_k13 : ((Rows.fnExactPairSplitRow.maps == (Try.f10.params.toList ++ Rows.fnExactPairSplitSpec.plain.varTypes Try.prog).any (Try.prog.mapsRec ·))) = true := by kernel_rfl
theorem FnExactPairSplit_k14 : ((Rows.fnExactPairSplitRow.ifaces == (Try.f10.params.toList ++ Rows.fnExactPairSplitSpec.plain.varTypes Try.prog).any (Try.prog.ifacesRec ·))) = true := by kernel_rfl
theorem FnExactPairSplit_k15 : ((Rows.fnExactPairSplitRow.mapsOut == Try.prog.mapsAmong Try.f10.resultTypes.toList)) = true := by kernel_rfl
theorem FnExactPairSplit_k16 : ((Rows.fnExactPairSplitRow.loops == (Try.f10.params.toList ++ Rows.fnExactPairSplitSpec.plain.varTypes Try.prog).any (Try.prog.loopsFrom ·))) = true := by kernel_rfl
theorem FnExactPairSplit_k17 : ((Rows.fnExactPairSplitRow.wideKeys == (Try.f10.params.toList ++ Rows.fnExactPairSplitSpec.plain.varTypes Try.prog ++ Try.f10.resultTypes.toList).any (Try.prog.wideKeysFrom ·))) = true := by kernel_rfl
theorem FnExactPairSplit_k18 : (Rows.fnExactPairSplitSpec.vars.all (Try.prog.varReadable ·)) = true := by kernel_rfl
theorem FnExactPairSplit_k19 : (Try.f10.resultTypes.all (fun t => Try.prog.readableRec t && decide (t < Try.prog.types.size))) = true := by kernel_rfl
theorem FnExactPairSplit_k20 : ((Rows.fnExactPairSplitRow.ifacesOut == Try.f10.resultTypes.toList.any (Try.prog.ifacesRec ·))) = true := by kernel_rfl
theorem FnExactPairSplit_k21 : ((Rows.fnExactPairSplitRow.loopsOut == Try.f10.resultTypes.toList.any (Try.prog.loopsFrom ·))) = true := by kernel_rfl
theorem FnExactPairSplit_k23 : (Rows.fnExactPairSplitRow.shortTexts.isNone) = true := by kernel_rfl
theorem FnExactPairSplit_k28 : ((Rows.fnExactPairSplitRow.kinds == (if Rows.fnExactPairSplitRow.domain.isEmpty then [] else Try.f10.params.toList.map fun t => match Try.prog.underlying t with | some (.int k) => some k | _ => none))) = true := by kernel_rfl
theorem FnExactPairSplit_k29 : ((Rows.fnExactPairSplitRow.pinned == Rows.fnExactPairSplitRow.pinnedBy)) = true := by kernel_rfl
theorem FnExactPairSplit_k30 : ((Rows.fnExactPairSplitRow.veiled == (Try.f10.params.toList ++ Rows.fnExactPairSplitSpec.plain.varTypes Try.prog ++ Try.f10.resultTypes.toList).any (Try.prog.veiledRec ·))) = true := by kernel_rfl
theorem FnExactPairSplit_k31 : (Rows.fnExactPairSplitRow.veiledFits Try.prog Try.f10.params.toList (Try.f10.params.toList ++ Rows.fnExactPairSplitSpec.plain.varTypes Try.prog ++ Try.f10.resultTypes.toList)) = true := by kernel_rfl
set_option maxRecDepth 100000 in
theorem FnExactPairSplit_closed : joinedFacts Try.prog 10 Try.f10 Rows.fnExactPairSplitSpec Rows.fnExactPairSplitRow = true := (and2 (and2 (and2 (and2 (and2 (and2 (and2 (and2 (and2 (and2 (and2 (and2 (and2 (and2 (and2 (and2 (and2 (and2 (and2 (and2 (and2 (and2 (and2 (and2 (and2 (and2 (and2 (and2 (and2 (and2 (and2 FnExactPairSplit_k0 jf1) jf2) FnExactPairSplit_k3) FnExactPairSplit_k4) FnExactPairSplit_k5) jf6) FnExactPairSplit_k7) jf8) FnExactPairSplit_k9) FnExactPairSplit_k10) FnExactPairSplit_k11) FnExactPairSplit_k12) FnExactPairSplit_k13) FnExactPairSplit_k14) FnExactPairSplit_k15) FnExactPairSplit_k16) FnExactPairSplit_k17) FnExactPairSplit_k18) FnExactPairSplit_k19) FnExactPairSplit_k20) FnExactPairSplit_k21) jf22) FnExactPairSplit_k23) jf24) jf25) jf26) jf27) FnExactPairSplit_k28) FnExactPairSplit_k29) FnExactPairSplit_k30) FnExactPairSplit_k31)
theorem FnExactPairSplit_over : Rows.fnExactPairSplitRow.holds Try.pinned (OpenSpec.ofChange Rows.fnExactPairSplitSpec) :=
  OpenClaim.holds_of_wide 10 Try.f10 rfl rfl rfl rfl rfl rfl rfl ⟨rfl, rfl, rfl, rfl, rfl⟩ rfl rfl rfl rfl rfl (by kernel_rfl) Try.func10 FnExactPairSplit_closed
    (of_decide_eq_true (by kernel_rfl)) (by unfold Func.isWrapper; first | (rw [if_pos (by decide +kernel)]; kernel_rfl) | (rw [if_neg (by decide +kernel)]; exact ⟨rfl, rfl⟩))
    (fun os started H enc _ => FnExactPairSplit_lifted os started H enc)

theorem FnExactPairSplit_proved : Rows.FnExactPairSplitSaid := FnExactPairSplit_over
end Go.Proofs.Yteigdooniolmlaa
