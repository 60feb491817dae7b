/- The program's SpanAbs answers as the specification's SpanAbs at every argument; nothing that was there is written. No condition. -/
import Derived.Test.YtpjagplloljefaaGreatRows
import Derived.WalkKit
import Derived.ProofKit
import Derived.OpenShut
import Derived.Below
import Derived.Carry
import Derived.Test.YtpjagplloljefaaGreatOS
import Derived.Test.YtpjagplloljefaaGreatS9
import Derived.Test.YtpjagplloljefaaGreatSS
import Derived.Test.YtpjagplloljefaaGreatBJ
namespace Go.Proofs.YtpjagplloljefaaGreat
open Go.ChangeShapes Go.WideShapes Go.ChangeAt Go.RowKit
set_option linter.unusedVariables false
set_option maxRecDepth 100000

theorem FnExactSpanAbs_own : ownKnob Tryz.prog.godebug = none := by kernel_rfl

set_option maxRecDepth 100000 in
set_option maxHeartbeats 4000000 in
theorem FnExactSpanAbs_walk (a0 : Int) (wa0 : -9223372036854775808 ≤ a0 ∧ a0 ≤ 9223372036854775807) (s1 : Bool) (a1 b1 : Int) (wa1 : -9223372036854775808 ≤ a1 ∧ a1 ≤ 9223372036854775807) (wb1 : -9223372036854775808 ≤ b1 ∧ b1 ≤ 9223372036854775807) (w : World) :
    Calls Tryz.prog 9 #[.int .i64 a0, .agg #[.bool s1, .int .i64 a1, .int .i64 b1]] w fun e w' => e = .returned (.bool true) ∧ Below w.heap.size w w' := by
  have S := hd (sSpanAbs a0 s1 a1 b1)
  have I := hd (iSpanAbs a0 s1 a1 b1)
  generalize (bothB a0 s1 s1 a1 b1 a1 b1 && true) = r at *
  generalize (if r = true then absLo a1 b1 else 0) = x at *
  generalize (if r = true then absHi a1 b1 else 0) = y at *
  have E := hd (eqSpan_same r x y)
  have T := hd (toSpan s1 a1 b1)
  have K0 := S3.made w _ rfl (.bool s1) (.int .i64 a1) (.int .i64 b1) 23
  go_enter Tryz.func9, Tryz.ntmps9
  go_wp2_with fail
  refine (T.out _).mono ?_
  rintro e w1 ⟨rfl, hb1⟩
  have K := K0.later hb1
  clear K0
  go_wp2_with fail
  refine (S.out _).mono ?_
  rintro e w2 ⟨rfl, hb2⟩
  replace K := (K.later hb2).alloc (.cells #[.bool r, .int .i64 x, .int .i64 y] 24)
  have X := S3.made w2 _ rfl (.bool r) (.int .i64 x) (.int .i64 y) 24
  obtain ⟨⟨k0, k1, k2⟩, -, -⟩ := id K
  go_wp2_with fail
  refine (T.out _).mono ?_
  rintro e w3 ⟨rfl, hb3⟩
  replace X := X.later hb3
  clear k0 k1 k2
  go_wp2_with fail
  refine (I.out _).mono ?_
  rintro e w4 ⟨rfl, hb4⟩
  replace X := X.later hb4
  obtain ⟨⟨k0, k1, k2⟩, -, kz⟩ := id X
  have kn := Nat.ne_of_lt kz
  have ko := Nat.ne_of_gt kz
  go_wp2_with fail
  refine (E.out _).mono ?_
  rintro e w5 ⟨rfl, hb5⟩
  go_wp2
  go_ret
  exact ⟨rfl, (by repeat (first | exact Below.refl _ _ | refine Below.drew ?_ | refine old_alloc ?_ _ | refine old_trans ?_ (by assumption)))⟩

set_option maxRecDepth 100000 in
theorem FnExactSpanAbs_lifted (os : Os) (started : os.Started) (H : Type) (enc : TypeId × Value → H) :
    ReturnsInHanded {} Tryz.checked os 9 .any (Rows.fnExactSpanAbsSpec.pre6 enc Tryz.prog Tryz.f9 Rows.fnExactSpanAbsRow.domain false) (Rows.fnExactSpanAbsSpec.post enc Tryz.prog Tryz.f9 false true false false) := by
  refine returnsInHanded_of_change (C := Tryz.checked) FnExactSpanAbs_own started (by kernel_rfl) Tryz.func9
    (ChangeSpec.witness6 (enc := enc) (C := Tryz.checked) false ⟨#[], #[.int .i64 0, .agg #[.bool false, .int .i64 0, .int .i64 0]], []⟩ 8 (by kernel_rfl) (by kernel_rfl) (by kernel_rfl) (by kernel_rfl)) ?_
  intro W base args ds gs before hval0 hW hcnd _
  have hval : ∀ (j : Nat) t v, Tryz.f9.params[j]? = some t → args[j]? = some v → Value.okWide Tryz.prog W .any base t v := hval0
  have hW' := hW
  obtain ⟨p, q, hA0, hV, rfl, hfz, hnd⟩ := hW
  have hA : DataW.TrodAll enc Tryz.prog W 0 (fun _ => true) true Tryz.f9.params.toList args.toList ds p := hA0
  rw [Tryz.params9] at hA hval
  obtain ⟨v0, vs0, d0, ds0, p0, q0, hargs, rfl, rfl, h0, r0⟩ := trodAll_cons hA
  obtain ⟨v1, vs1, d1, ds1, p1, q1, rfl, rfl, rfl, h1, r1⟩ := trodAll_cons r0
  obtain ⟨rfl, rfl, rfl⟩ := trodAll_nil r1
  obtain rfl : args = #[v0, v1] := by cases args; simp_all
  obtain ⟨rfl, rfl⟩ := trodVars_none hV
  have k0 := h0
  have lt0 : ∀ x ∈ p0, x.block < W.heap.size := by obtain ⟨m, hm⟩ := k0; exact DataW.trod_lt m _ _ _ hm
  obtain ⟨a0, rfl, -, -, wf0⟩ := open_int Tryz.underlying3 (hval 0 3 v0 rfl rfl) h0
  have wa0 := bounds_i64 wf0
  have k1 := h1
  have lt1 : ∀ x ∈ p1, x.block < W.heap.size := by obtain ⟨m, hm⟩ := k1; exact DataW.trod_lt m _ _ _ hm
  obtain ⟨s1, a1, b1, rfl, wa1, wb1⟩ := open_lspan (hval 1 23 v1 rfl rfl) h1
  clear hA0 hval0
  refine (FnExactSpanAbs_walk a0 wa0 s1 a1 b1 wa1 wb1 W ).mono fun e W' ⟨he, bel⟩ => ?_
  subst he
  exact ⟨_, rfl, _, _, _, [], _, [], hW', trodAll_mk1 (shut_bool Tryz.underlying4 _), (trodAll_cons_mk (Below.trod jf1 (by kernel_rfl) (of_decide_eq_true (by kernel_rfl)) k0 bel lt0) (trodAll_cons_mk (Below.trod jf1 (by kernel_rfl) (of_decide_eq_true (by kernel_rfl)) k1 bel lt1) trodAll_mk0)), rfl, bel.frame _, fun h => by cases h⟩

theorem FnExactSpanAbs_k0 : (Rows.fnExactSpanAbsRow.wf (OpenSpec.ofChange Rows.fnExactSpanAbsSpec)) = true := by kernel_rfl
theorem FnExactSpanAbs_k3 : (Tryz.f9.params.all (Tryz.prog.readableRec ·)) = true := by kernel_rfl
theorem FnExactSpanAbs_k4 : (namedTie Tryz.prog Rows.fnExactSpanAbsRow.named Rows.fnExactSpanAbsSpec.vars) = true := by kernel_rfl
theorem FnExactSpanAbs_k5 : ((Rows.fnExactSpanAbsRow.stops == [])) = true := by kernel_rfl
theorem FnExactSpanAbs_k7 : ((Rows.fnExactSpanAbsRow.knobs == [])) = true := by kernel_rfl
theorem FnExactSpanAbs_k9 : ((Rows.fnExactSpanAbsRow.inPlace == Tryz.prog.inPlace 9)) = true := by kernel_rfl
theorem FnExactSpanAbs_k10 : ((Rows.fnExactSpanAbsRow.unfollowed == Tryz.prog.unfollowed 9)) = true := by kernel_rfl
theorem FnExactSpanAbs_k11 : ((Rows.fnExactSpanAbsRow.recurses == Tryz.prog.recurses 9)) = true := by kernel_rfl
theorem FnExactSpanAbs_k12 : ((Rows.fnExactSpanAbsRow.named == Tryz.prog.varsNamed 9)) = true := by kernel_rfl
theorem FnExactSpanAbs_k13 : ((Rows.fnExactSpanAbsRow.maps == (Tryz.f9.params.toList ++ Rows.fnExactSpanAbsSpec.plain.varTypes Tryz.prog).any (Tryz.prog.mapsRec ·))) = true := by kernel_rfl
theorem FnExactSpanAbs_k14 : ((Rows.fnExactSpanAbsRow.ifaces == (Tryz.f9.params.toList ++ Rows.fnExactSpanAbsSpec.plain.varTypes Tryz.prog).any (Tryz.prog.ifacesRec ·))) = true := by kernel_rfl
theorem FnExactSpanAbs_k15 : ((Rows.fnExactSpanAbsRow.mapsOut == Tryz.prog.mapsAmong Tryz.f9.resultTypes.toList)) = true := by kernel_rfl
theorem FnExactSpanAbs_k16 : ((Rows.fnExactSpanAbsRow.loops == (Tryz.f9.params.toList ++ Rows.fnExactSpanAbsSpec.plain.varTypes Tryz.prog).any (Tryz.prog.loopsFrom ·))) = true := by kernel_rfl
theorem FnExactSpanAbs_k17 : ((Rows.fnExactSpanAbsRow.wideKeys == (Tryz.f9.params.toList ++ Rows.fnExactSpanAbsSpec.plain.varTypes Tryz.prog ++ Tryz.f9.resultTypes.toList).any (Tryz.prog.wideKeysFrom ·))) = true := by kernel_rfl
theorem FnExactSpanAbs_k18 : (Rows.fnExactSpanAbsSpec.vars.all (Tryz.prog.varReadable ·)) = true := by kernel_rfl
theorem FnExactSpanAbs_k19 : (Tryz.f9.resultTypes.all (fun t => Tryz.prog.readableRec t && decide (t < Tryz.prog.types.size))) = true := by kernel_rfl
theorem FnExactSpanAbs_k20 : ((Rows.fnExactSpanAbsRow.ifacesOut == Tryz.f9.resultTypes.toList.any (Tryz.prog.ifacesRec ·))) = true := by kernel_rfl
theorem FnExactSpanAbs_k21 : ((Rows.fnExactSpanAbsRow.loopsOut == Tryz.f9.resultTypes.toList.any (Tryz.prog.loopsFrom ·))) = true := by kernel_rfl
theorem FnExactSpanAbs_k23 : (Rows.fnExactSpanAbsRow.shortTexts.isNone) = true := by kernel_rfl
theorem FnExactSpanAbs_k28 : ((Rows.fnExactSpanAbsRow.kinds == (if Rows.fnExactSpanAbsRow.domain.isEmpty then [] else Tryz.f9.params.toList.map fun t => match Tryz.prog.underlying t with | some (.int k) => some k | _ => none))) = true := by kernel_rfl
theorem FnExactSpanAbs_k29 : ((Rows.fnExactSpanAbsRow.pinned == Rows.fnExactSpanAbsRow.pinnedBy)) = true := by kernel_rfl
theorem FnExactSpanAbs_k30 : ((Rows.fnExactSpanAbsRow.veiled == (Tryz.f9.params.toList ++ Rows.fnExactSpanAbsSpec.plain.varTypes Tryz.prog ++ Tryz.f9.resultTypes.toList).any (Tryz.prog.veiledRec ·))) = true := by kernel_rfl
theorem FnExactSpanAbs_k31 : (Rows.fnExactSpanAbsRow.veiledFits Tryz.prog Tryz.f9.params.toList (Tryz.f9.params.toList ++ Rows.fnExactSpanAbsSpec.plain.varTypes Tryz.prog ++ Tryz.f9.resultTypes.toList)) = true := by kernel_rfl
set_option maxRecDepth 100000 in
theorem FnExactSpanAbs_closed : joinedFacts Tryz.prog 9 Tryz.f9 Rows.fnExactSpanAbsSpec Rows.fnExactSpanAbsRow = true := (and2 (and2 (and2 (and2 (and2 (and2 (and2 (and2 (and2 (and2 (and2 (and2 (and2 (and2 (and2 (and2 (and2 (and2 (and2 (and2 (and2 (and2 (and2 (and2 (and2 (and2 (and2 (and2 (and2 (and2 (and2 FnExactSpanAbs_k0 jf1) jf2) FnExactSpanAbs_k3) FnExactSpanAbs_k4) FnExactSpanAbs_k5) jf6) FnExactSpanAbs_k7) jf8) FnExactSpanAbs_k9) FnExactSpanAbs_k10) FnExactSpanAbs_k11) FnExactSpanAbs_k12) FnExactSpanAbs_k13) FnExactSpanAbs_k14) FnExactSpanAbs_k15) FnExactSpanAbs_k16) FnExactSpanAbs_k17) FnExactSpanAbs_k18) FnExactSpanAbs_k19) FnExactSpanAbs_k20) FnExactSpanAbs_k21) jf22) FnExactSpanAbs_k23) jf24) jf25) jf26) jf27) FnExactSpanAbs_k28) FnExactSpanAbs_k29) FnExactSpanAbs_k30) FnExactSpanAbs_k31)
theorem FnExactSpanAbs_over : Rows.fnExactSpanAbsRow.holds Tryz.pinned (OpenSpec.ofChange Rows.fnExactSpanAbsSpec) :=
  OpenClaim.holds_of_wide 9 Tryz.f9 rfl rfl rfl rfl rfl rfl rfl ⟨rfl, rfl, rfl, rfl, rfl⟩ rfl rfl rfl rfl rfl (by kernel_rfl) Tryz.func9 FnExactSpanAbs_closed
    (of_decide_eq_true (by kernel_rfl)) (by unfold Func.isWrapper; first | (rw [if_pos (by decide +kernel)]; kernel_rfl) | (rw [if_neg (by decide +kernel)]; exact ⟨rfl, rfl⟩))
    (fun os started H enc _ => FnExactSpanAbs_lifted os started H enc)

theorem FnExactSpanAbs_proved : Rows.FnExactSpanAbsSaid := FnExactSpanAbs_over
end Go.Proofs.YtpjagplloljefaaGreat
