/- The program's PairMore answers as the specification's PairMore at every argument; nothing that was there is written. No condition. -/
import Derived.Test.YteigdooniolmlaaRows
import Derived.WalkKit
import Derived.ProofKit
import Derived.OpenShut
import Derived.Below
import Derived.Carry
import Derived.Test.YteigdooniolmlaaO1
import Derived.Test.YteigdooniolmlaaR9
import Derived.Test.YteigdooniolmlaaJ0
import Derived.Test.YteigdooniolmlaaJ1
import Derived.Test.YteigdooniolmlaaJ4
import Derived.Test.YteigdooniolmlaaJ5
import Derived.Test.YteigdooniolmlaaJ6
namespace Go.Proofs.Yteigdooniolmlaa
open Go.ChangeShapes Go.WideShapes Go.ChangeAt Go.RowKit
set_option linter.unusedVariables false

theorem FnExactPairMore_own : ownKnob Try.prog.godebug = none := by kernel_rfl

set_option maxRecDepth 100000 in
set_option maxHeartbeats 4000000 in
theorem FnExactPairMore_walk (a0 b0 : Int) (wa0 : -9223372036854775808 ≤ a0 ∧ a0 ≤ 9223372036854775807) (wb0 : -9223372036854775808 ≤ b0 ∧ b0 ≤ 9223372036854775807) (w : World) :
    Calls Try.prog 13 #[.agg #[.int .i64 a0, .int .i64 b0]] w fun e w' => e = .returned (.bool true) ∧ Below w.heap.size w w' := by
  have S := hd (sPairMore a0 b0)
  have I := hd (iPairMore a0 b0)
  rw [pairV_eq] at S I
  generalize pokB 32 a0 b0 = r at *
  generalize (if r then widI a0 else 0) = x at *
  generalize (if r then widI b0 else 0) = y at *
  have E := hd (eqPair_same x y)
  go_enter Try.func13, Try.ntmps13
  go_wp2_with fail
  refine (toPair a0 b0 _).mono ?_
  rintro e w1 ⟨rfl, hb1⟩
  have K := (by first | exact (Cel2.made w (w.heap.size) (by simp) (.int .i64 a0) (.int .i64 b0) 39).later hb1 | exact ((Cel2.made w (w.heap.size) (by simp) (.int .i64 a0) (.int .i64 b0) 39).alloc _).later hb1 | exact (((Cel2.made w (w.heap.size) (by simp) (.int .i64 a0) (.int .i64 b0) 39).alloc _).alloc _).later hb1 : Cel2 w1 _ _ _)
  have K0 := K.1
  have K1 := K.2.1
  have Kz := K.2.2.2.2
  go_wp2_with fail
  refine (S.out _).mono ?_
  rintro e w2 ⟨rfl, hb2⟩
  clear K0 K1 Kz
  have K := (by first | exact K.later hb2 | exact (K.alloc _).later hb2 | exact ((K.alloc _).alloc _).later hb2 : Cel2 w2 _ _ _)
  have K0 := K.1
  have K1 := K.2.1
  have Kz := K.2.2.2.2
  go_wp2_with fail
  refine (toPair a0 b0 _).mono ?_
  rintro e w3 ⟨rfl, hb3⟩
  clear K0 K1 Kz
  have K := (by first | exact K.later hb3 | exact (K.alloc _).later hb3 | exact ((K.alloc _).alloc _).later hb3 : Cel2 w3 _ _ _)
  have X := (by first | exact (Cel2.made w2 (w2.heap.size) (by simp) (.int .i64 x) (.int .i64 y) 24).later hb3 | exact ((Cel2.made w2 (w2.heap.size) (by simp) (.int .i64 x) (.int .i64 y) 24).alloc _).later hb3 | exact (((Cel2.made w2 (w2.heap.size) (by simp) (.int .i64 x) (.int .i64 y) 24).alloc _).alloc _).later hb3 : Cel2 w3 _ _ _)
  have K0 := K.1
  have K1 := K.2.1
  have Kz := K.2.2.2.2
  have X0 := X.1
  have X1 := X.2.1
  have Xz := X.2.2.2.2
  go_wp2_with fail
  refine (I.out _).mono ?_
  rintro e w4 ⟨rfl, hb4⟩
  clear K0 K1 Kz
  have K := (by first | exact K.later hb4 | exact (K.alloc _).later hb4 | exact ((K.alloc _).alloc _).later hb4 : Cel2 w4 _ _ _)
  clear X0 X1 Xz
  have X := (by first | exact X.later hb4 | exact (X.alloc _).later hb4 | exact ((X.alloc _).alloc _).later hb4 : Cel2 w4 _ _ _)
  have K0 := K.1
  have K1 := K.2.1
  have Kz := K.2.2.2.2
  have X0 := X.1
  have X1 := X.2.1
  have Xz := X.2.2.2.2
  go_wp2_with fail
  refine (E.out _).mono ?_
  rintro e w5 ⟨rfl, hb5⟩
  clear K0 K1 Kz
  have K := (by first | exact K.later hb5 | exact (K.alloc _).later hb5 | exact ((K.alloc _).alloc _).later hb5 : Cel2 w5 _ _ _)
  clear X0 X1 Xz
  have X := (by first | exact X.later hb5 | exact (X.alloc _).later hb5 | exact ((X.alloc _).alloc _).later hb5 : Cel2 w5 _ _ _)
  have G := (by first | exact (Cel2.made w4 (w4.heap.size) (by simp) (.int .i64 x) (.int .i64 y) 24).later hb5 | exact ((Cel2.made w4 (w4.heap.size) (by simp) (.int .i64 x) (.int .i64 y) 24).alloc _).later hb5 | exact (((Cel2.made w4 (w4.heap.size) (by simp) (.int .i64 x) (.int .i64 y) 24).alloc _).alloc _).later hb5 : Cel2 w5 _ _ _)
  have K0 := K.1
  have K1 := K.2.1
  have Kz := K.2.2.2.2
  have X0 := X.1
  have X1 := X.2.1
  have Xz := X.2.2.2.2
  have G0 := G.1
  have G1 := G.2.1
  have Gz := G.2.2.2.2
  go_wp2
  go_ret
  exact ⟨rfl, (by repeat (first | exact Below.refl _ _ | refine Below.drew ?_ | refine old_alloc ?_ _ | refine old_trans ?_ (by assumption)))⟩
set_option maxRecDepth 100000 in
theorem FnExactPairMore_lifted (os : Os) (started : os.Started) (H : Type) (enc : TypeId × Value → H) :
    ReturnsInHanded {} Try.checked os 13 .any (Rows.fnExactPairMoreSpec.pre6 enc Try.prog Try.f13 Rows.fnExactPairMoreRow.domain false) (Rows.fnExactPairMoreSpec.post enc Try.prog Try.f13 false true false false) := by
  refine returnsInHanded_of_change (C := Try.checked) FnExactPairMore_own started (by kernel_rfl) Try.func13
    (ChangeSpec.witness6 (enc := enc) (C := Try.checked) false ⟨#[], #[.agg #[.int .i64 0, .int .i64 0]], []⟩ 8 (by kernel_rfl) (by kernel_rfl) (by kernel_rfl) (by kernel_rfl)) ?_
  intro W base args ds gs before hval0 hW hcnd _
  have hval : ∀ (j : Nat) t v, Try.f13.params[j]? = some t → args[j]? = some v → Value.okWide Try.prog W .any base t v := hval0
  have hW' := hW
  obtain ⟨p, q, hA0, hV, rfl, hfz, hnd⟩ := hW
  have hA : DataW.TrodAll enc Try.prog W 0 (fun _ => true) true Try.f13.params.toList args.toList ds p := hA0
  rw [Try.params13] at hA hval
  obtain ⟨v0, vs0, d0, ds0, p0, q0, hargs, rfl, rfl, h0, r0⟩ := trodAll_cons hA
  obtain ⟨rfl, rfl, rfl⟩ := trodAll_nil r0
  obtain rfl : args = #[v0] := by cases args; simp_all
  obtain ⟨rfl, rfl⟩ := trodVars_none hV
  have k0 := h0
  have lt0 : ∀ x ∈ p0, x.block < W.heap.size := by obtain ⟨m, hm⟩ := k0; exact DataW.trod_lt m _ _ _ hm
  obtain ⟨a0, b0, rfl, wa0, wb0⟩ := open_lpair (hval 0 39 v0 rfl rfl) h0
  clear hA0 hval0
  refine (FnExactPairMore_walk a0 b0 wa0 wb0 W ).mono fun e W' ⟨he, bel⟩ => ?_
  subst he
  exact ⟨_, rfl, _, _, _, [], _, [], hW', trodAll_mk1 (shut_bool Try.underlying4 _), (trodAll_cons_mk (Below.trod jf1 (by kernel_rfl) (of_decide_eq_true (by kernel_rfl)) k0 bel lt0) trodAll_mk0), rfl, bel.frame _, fun h => by cases h⟩

theorem FnExactPairMore_k0 : (Rows.fnExactPairMoreRow.wf (OpenSpec.ofChange Rows.fnExactPairMoreSpec)) = true := by kernel_rfl
theorem FnExactPairMore_k3 : (Try.f13.params.all (Try.prog.readableRec ·)) = true := by kernel_rfl
theorem FnExactPairMore_k4 : (namedTie Try.prog Rows.fnExactPairMoreRow.named Rows.fnExactPairMoreSpec.vars) = true := by kernel_rfl
theorem FnExactPairMore_k5 : ((Rows.fnExactPairMoreRow.stops == [])) = true := by kernel_rfl
theorem FnExactPairMore_k7 : ((Rows.fnExactPairMoreRow.knobs == [])) = true := by kernel_rfl
theorem FnExactPairMore_k9 : ((Rows.fnExactPairMoreRow.inPlace == Try.prog.inPlace 13)) = true := by kernel_rfl
theorem FnExactPairMore_k10 : ((Rows.fnExactPairMoreRow.unfollowed == Try.prog.unfollowed 13)) = true := by kernel_rfl
theorem FnExactPairMore_k11 : ((Rows.fnExactPairMoreRow.recurses == Try.prog.recurses 13)) = true := by kernel_rfl
theorem FnExactPairMore_k12 : ((Rows.fnExactPairMoreRow.named == Try.prog.varsNamed 13)) = true := by kernel_rfl
theorem FnExactPairMore_k13 : ((Rows.fnExactPairMoreRow.maps == (Try.f13.params.toList ++ Rows.fnExactPairMoreSpec.plain.varTypes Try.prog).any (Try.prog.mapsRec ·))) = true := by kernel_rfl
theorem FnExactPairMore_k14 : ((Rows.fnExactPairMoreRow.ifaces == (Try.f13.params.toList ++ Rows.fnExactPairMoreSpec.plain.varTypes Try.prog).any (Try.prog.ifacesRec ·))) = true := by kernel_rfl
theorem FnExactPairMore_k15 : ((Rows.fnExactPairMoreRow.mapsOut == Try.prog.mapsAmong Try.f13.resultTypes.toList)) = true := by kernel_rfl
theorem FnExactPairMore_k16 : ((Rows.fnExactPairMoreRow.loops == (Try.f13.params.toList ++ Rows.fnExactPairMoreSpec.plain.varTypes Try.prog).any (Try.prog.loopsFrom ·))) = true := by kernel_rfl
theorem FnExactPairMore_k17 : ((Rows.fnExactPairMoreRow.wideKeys == (Try.f13.params.toList ++ Rows.fnExactPairMoreSpec.plain.varTypes Try.prog ++ Try.f13.resultTypes.toList).any (Try.prog.wideKeysFrom ·))) = true := by kernel_rfl
theorem FnExactPairMore_k18 : (Rows.fnExactPairMoreSpec.vars.all (Try.prog.varReadable ·)) = true := by kernel_rfl
theorem FnExactPairMore_k19 : (Try.f13.resultTypes.all (fun t => Try.prog.readableRec t && decide (t < Try.prog.types.size))) = true := by kernel_rfl
theorem FnExactPairMore_k20 : ((Rows.fnExactPairMoreRow.ifacesOut == Try.f13.resultTypes.toList.any (Try.prog.ifacesRec ·))) = true := by kernel_rfl
theorem FnExactPairMore_k21 : ((Rows.fnExactPairMoreRow.loopsOut == Try.f13.resultTypes.toList.any (Try.prog.loopsFrom ·))) = true := by kernel_rfl
theorem FnExactPairMore_k23 : (Rows.fnExactPairMoreRow.shortTexts.isNone) = true := by kernel_rfl
theorem FnExactPairMore_k28 : ((Rows.fnExactPairMoreRow.kinds == (if Rows.fnExactPairMoreRow.domain.isEmpty then [] else Try.f13.params.toList.map fun t => match Try.prog.underlying t with | some (.int k) => some k | _ => none))) = true := by kernel_rfl
theorem FnExactPairMore_k29 : ((Rows.fnExactPairMoreRow.pinned == Rows.fnExactPairMoreRow.pinnedBy)) = true := by kernel_rfl
theorem FnExactPairMore_k30 : ((Rows.fnExactPairMoreRow.veiled == (Try.f13.params.toList ++ Rows.fnExactPairMoreSpec.plain.varTypes Try.prog ++ Try.f13.resultTypes.toList).any (Try.prog.veiledRec ·))) = true := by kernel_rfl
theorem FnExactPairMore_k31 : (Rows.fnExactPairMoreRow.veiledFits Try.prog Try.f13.params.toList (Try.f13.params.toList ++ Rows.fnExactPairMoreSpec.plain.varTypes Try.prog ++ Try.f13.resultTypes.toList)) = true := by kernel_rfl
set_option maxRecDepth 100000 in
theorem FnExactPairMore_closed : joinedFacts Try.prog 13 Try.f13 Rows.fnExactPairMoreSpec Rows.fnExactPairMoreRow = true := (and2 (and2 (and2 (and2 (and2 (and2 (and2 (and2 (and2 (and2 (and2 (and2 (and2 (and2 (and2 (and2 (and2 (and2 (and2 (and2 (and2 (and2 (and2 (and2 (and2 (and2 (and2 (and2 (and2 (and2 (and2 FnExactPairMore_k0 jf1) jf2) FnExactPairMore_k3) FnExactPairMore_k4) FnExactPairMore_k5) jf6) FnExactPairMore_k7) jf8) FnExactPairMore_k9) FnExactPairMore_k10) FnExactPairMore_k11) FnExactPairMore_k12) FnExactPairMore_k13) FnExactPairMore_k14) FnExactPairMore_k15) FnExactPairMore_k16) FnExactPairMore_k17) FnExactPairMore_k18) FnExactPairMore_k19) FnExactPairMore_k20) FnExactPairMore_k21) jf22) FnExactPairMore_k23) jf24) jf25) jf26) jf27) FnExactPairMore_k28) FnExactPairMore_k29) FnExactPairMore_k30) FnExactPairMore_k31)
theorem FnExactPairMore_over : Rows.fnExactPairMoreRow.holds Try.pinned (OpenSpec.ofChange Rows.fnExactPairMoreSpec) :=
  OpenClaim.holds_of_wide 13 Try.f13 rfl rfl rfl rfl rfl rfl rfl ⟨rfl, rfl, rfl, rfl, rfl⟩ rfl rfl rfl rfl rfl (by kernel_rfl) Try.func13 FnExactPairMore_closed
    (of_decide_eq_true (by kernel_rfl)) (by unfold Func.isWrapper; first | (rw [if_pos (by decide +kernel)]; kernel_rfl) | (rw [if_neg (by decide +kernel)]; exact ⟨rfl, rfl⟩))
    (fun os started H enc _ => FnExactPairMore_lifted os started H enc)

theorem FnExactPairMore_proved : Rows.FnExactPairMoreSaid := FnExactPairMore_over
end Go.Proofs.Yteigdooniolmlaa
