/- The program's SpanNeg answers as the specification's SpanNeg at every argument; nothing that was there is written. No condition. -/
import Derived.Test.YtpjagplloljefaaGreatRows
import Derived.WalkKit
import Derived.ProofKit
import Derived.OpenShut
import Derived.Below
import Derived.Carry
import Derived.Test.YtpjagplloljefaaGreatOS
import Derived.Test.YtpjagplloljefaaGreatS9
import Derived.Test.YtpjagplloljefaaGreatSS
import Derived.Test.YtpjagplloljefaaGreatBJ
namespace Go.Proofs.YtpjagplloljefaaGreat
open Go.ChangeShapes Go.WideShapes Go.ChangeAt Go.RowKit
set_option linter.unusedVariables false
set_option maxRecDepth 100000

theorem FnExactSpanNeg_own : ownKnob Tryz.prog.godebug = none := by kernel_rfl

set_option maxRecDepth 100000 in
set_option maxHeartbeats 4000000 in
theorem FnExactSpanNeg_walk (a0 : Int) (wa0 : -9223372036854775808 ≤ a0 ∧ a0 ≤ 9223372036854775807) (s1 : Bool) (a1 b1 : Int) (wa1 : -9223372036854775808 ≤ a1 ∧ a1 ≤ 9223372036854775807) (wb1 : -9223372036854775808 ≤ b1 ∧ b1 ≤ 9223372036854775807) (w : World) :
    Calls Tryz.prog 8 #[.int .i64 a0, .agg #[.bool s1, .int .i64 a1, .int .i64 b1]] w fun e w' => e = .returned (.bool true) ∧ Below w.heap.size w w' := by
  have S := hd (sSpanNeg a0 s1 a1 b1)
  have I := hd (iSpanNeg a0 s1 a1 b1)
  generalize (bothB a0 s1 s1 a1 b1 a1 b1 && true) = r at *
  generalize (if r = true then -b1 else 0) = x at *
  generalize (if r = true then -a1 else 0) = y at *
  have E := hd (eqSpan_same r x y)
  have T := hd (toSpan s1 a1 b1)
  have K0 := S3.made w _ rfl (.bool s1) (.int .i64 a1) (.int .i64 b1) 23
  go_enter Tryz.func8, Tryz.ntmps8
  go_wp2_with fail
  refine (T.out _).mono ?_
  rintro e w1 ⟨rfl, hb1⟩
  have K := K0.later hb1
  clear K0
  go_wp2_with fail
  refine (S.out _).mono ?_
  rintro e w2 ⟨rfl, hb2⟩
  replace K := (K.later hb2).alloc (.cells #[.bool r, .int .i64 x, .int .i64 y] 24)
  have X := S3.made w2 _ rfl (.bool r) (.int .i64 x) (.int .i64 y) 24
  obtain ⟨⟨k0, k1, k2⟩, -, -⟩ := id K
  go_wp2_with fail
  refine (T.out _).mono ?_
  rintro e w3 ⟨rfl, hb3⟩
  replace X := X.later hb3
  clear k0 k1 k2
  go_wp2_with fail
  refine (I.out _).mono ?_
  rintro e w4 ⟨rfl, hb4⟩
  replace X := X.later hb4
  obtain ⟨⟨k0, k1, k2⟩, -, kz⟩ := id X
  have kn := Nat.ne_of_lt kz
  have ko := Nat.ne_of_gt kz
  go_wp2_with fail
  refine (E.out _).mono ?_
  rintro e w5 ⟨rfl, hb5⟩
  go_wp2
  go_ret
  exact ⟨rfl, (by repeat (first | exact Below.refl _ _ | refine Below.drew ?_ | refine old_alloc ?_ _ | refine old_trans ?_ (by assumption)))⟩

set_option maxRecDepth 100000 in
theorem FnExactSpanNeg_lifted (os : Os) (started : os.Started) (H : Type) (enc : TypeId × Value → H) :
    ReturnsInHanded {} Tryz.checked os 8 .any (Rows.fnExactSpanNegSpec.pre6 enc Tryz.prog Tryz.f8 Rows.fnExactSpanNegRow.domain false) (Rows.fnExactSpanNegSpec.post enc Tryz.prog Tryz.f8 false true false false) := by
  refine returnsInHanded_of_change (C := Tryz.checked) FnExactSpanNeg_own started (by kernel_rfl) Tryz.func8
    (ChangeSpec.witness6 (enc := enc) (C := Tryz.checked) false ⟨#[], #[.int .i64 0, .agg #[.bool false, .int .i64 0, .int .i64 0]], []⟩ 8 (by kernel_rfl) (by kernel_rfl) (by kernel_rfl) (by kernel_rfl)) ?_
  intro W base args ds gs before hval0 hW hcnd _
  have hval : ∀ (j : Nat) t v, Tryz.f8.params[j]? = some t → args[j]? = some v → Value.okWide Tryz.prog W .any base t v := hval0
  have hW' := hW
  obtain ⟨p, q, hA0, hV, rfl, hfz, hnd⟩ := hW
  have hA : DataW.TrodAll enc Tryz.prog W 0 (fun _ => true) true Tryz.f8.params.toList args.toList ds p := hA0
  rw [Tryz.params8] at hA hval
  obtain ⟨v0, vs0, d0, ds0, p0, q0, hargs, rfl, rfl, h0, r0⟩ := trodAll_cons hA
  obtain ⟨v1, vs1, d1, ds1, p1, q1, rfl, rfl, rfl, h1, r1⟩ := trodAll_cons r0
  obtain ⟨rfl, rfl, rfl⟩ := trodAll_nil r1
  obtain rfl : args = #[v0, v1] := by cases args; simp_all
  obtain ⟨rfl, rfl⟩ := trodVars_none hV
  have k0 := h0
  have lt0 : ∀ x ∈ p0, x.block < W.heap.size := by obtain ⟨m, hm⟩ := k0; exact DataW.trod_lt m _ _ _ hm
  obtain ⟨a0, rfl, -, -, wf0⟩ := open_int Tryz.underlying3 (hval 0 3 v0 rfl rfl) h0
  have wa0 := bounds_i64 wf0
  have k1 := h1
  have lt1 : ∀ x ∈ p1, x.block < W.heap.size := by obtain ⟨m, hm⟩ := k1; exact DataW.trod_lt m _ _ _ hm
  obtain ⟨s1, a1, b1, rfl, wa1, wb1⟩ := open_lspan (hval 1 23 v1 rfl rfl) h1
  clear hA0 hval0
  refine (FnExactSpanNeg_walk a0 wa0 s1 a1 b1 wa1 wb1 W ).mono fun e W' ⟨he, bel⟩ => ?_
  subst he
  exact ⟨_, rfl, _, _, _, [], _, [], hW', trodAll_mk1 (shut_bool Tryz.underlying4 _), (trodAll_cons_mk (Below.trod jf1 (by kernel_rfl) (of_decide_eq_true (by kernel_rfl)) k0 bel lt0) (trodAll_cons_mk (Below.trod jf1 (by kernel_rfl) (of_decide_eq_true (by kernel_rfl)) k1 bel lt1) trodAll_mk0)), rfl, bel.frame _, fun h => by cases h⟩

theorem FnExactSpanNeg_k0 : (Rows.fnExactSpanNegRow.wf (OpenSpec.ofChange Rows.fnExactSpanNegSpec)) = true := by kernel_rfl
theorem FnExactSpanNeg_k3 : (Tryz.f8.params.all (Tryz.prog.readableRec ·)) = true := by kernel_rfl
theorem FnExactSpanNeg_k4 : (namedTie Tryz.prog Rows.fnExactSpanNegRow.named Rows.fnExactSpanNegSpec.vars) = true := by kernel_rfl
theorem FnExactSpanNeg_k5 : ((Rows.fnExactSpanNegRow.stops == [])) = true := by kernel_rfl
theorem FnExactSpanNeg_k7 : ((Rows.fnExactSpanNegRow.knobs == [])) = true := by kernel_rfl
theorem FnExactSpanNeg_k9 : ((Rows.fnExactSpanNegRow.inPlace == Tryz.prog.inPlace 8)) = true := by kernel_rfl
theorem FnExactSpanNeg_k10 : ((Rows.fnExactSpanNegRow.unfollowed == Tryz.prog.unfollowed 8)) = true := by kernel_rfl
theorem FnExactSpanNeg_k11 : ((Rows.fnExactSpanNegRow.recurses == Tryz.prog.recurses 8)) = true := by kernel_rfl
theorem FnExactSpanNeg_k12 : ((Rows.fnExactSpanNegRow.named == Tryz.prog.varsNamed 8)) = true := by kernel_rfl
theorem FnExactSpanNeg_k13 : ((Rows.fnExactSpanNegRow.maps == (Tryz.f8.params.toList ++ Rows.fnExactSpanNegSpec.plain.varTypes Tryz.prog).any (Tryz.prog.mapsRec ·))) = true := by kernel_rfl
theorem FnExactSpanNeg_k14 : ((Rows.fnExactSpanNegRow.ifaces == (Tryz.f8.params.toList ++ Rows.fnExactSpanNegSpec.plain.varTypes Tryz.prog).any (Tryz.prog.ifacesRec ·))) = true := by kernel_rfl
theorem FnExactSpanNeg_k15 : ((Rows.fnExactSpanNegRow.mapsOut == Tryz.prog.mapsAmong Tryz.f8.resultTypes.toList)) = true := by kernel_rfl
theorem FnExactSpanNeg_k16 : ((Rows.fnExactSpanNegRow.loops == (Tryz.f8.params.toList ++ Rows.fnExactSpanNegSpec.plain.varTypes Tryz.prog).any (Tryz.prog.loopsFrom ·))) = true := by kernel_rfl
theorem FnExactSpanNeg_k17 : ((Rows.fnExactSpanNegRow.wideKeys == (Tryz.f8.params.toList ++ Rows.fnExactSpanNegSpec.plain.varTypes Tryz.prog ++ Tryz.f8.resultTypes.toList).any (Tryz.prog.wideKeysFrom ·))) = true := by kernel_rfl
theorem FnExactSpanNeg_k18 : (Rows.fnExactSpanNegSpec.vars.all (Tryz.prog.varReadable ·)) = true := by kernel_rfl
theorem FnExactSpanNeg_k19 : (Tryz.f8.resultTypes.all (fun t => Tryz.prog.readableRec t && decide (t < Tryz.prog.types.size))) = true := by kernel_rfl
theorem FnExactSpanNeg_k20 : ((Rows.fnExactSpanNegRow.ifacesOut == Tryz.f8.resultTypes.toList.any (Tryz.prog.ifacesRec ·))) = true := by kernel_rfl
theorem FnExactSpanNeg_k21 : ((Rows.fnExactSpanNegRow.loopsOut == Tryz.f8.resultTypes.toList.any (Tryz.prog.loopsFrom ·))) = true := by kernel_rfl
theorem FnExactSpanNeg_k23 : (Rows.fnExactSpanNegRow.shortTexts.isNone) = true := by kernel_rfl
theorem FnExactSpanNeg_k28 : ((Rows.fnExactSpanNegRow.kinds == (if Rows.fnExactSpanNegRow.domain.isEmpty then [] else Tryz.f8.params.toList.map fun t => match Tryz.prog.underlying t with | some (.int k) => some k | _ => none))) = true := by kernel_rfl
theorem FnExactSpanNeg_k29 : ((Rows.fnExactSpanNegRow.pinned == Rows.fnExactSpanNegRow.pinnedBy)) = true := by kernel_rfl
theorem FnExactSpanNeg_k30 : ((Rows.fnExactSpanNegRow.veiled == (Tryz.f8.params.toList ++ Rows.fnExactSpanNegSpec.plain.varTypes Tryz.prog ++ Tryz.f8.resultTypes.toList).any (Tryz.prog.veiledRec ·))) = true := by kernel_rfl
theorem FnExactSpanNeg_k31 : (Rows.fnExactSpanNegRow.veiledFits Tryz.prog Tryz.f8.params.toList (Tryz.f8.params.toList ++ Rows.fnExactSpanNegSpec.plain.varTypes Tryz.prog ++ Tryz.f8.resultTypes.toList)) = true := by kernel_rfl
set_option maxRecDepth 100000 in
theorem FnExactSpanNeg_closed : joinedFacts Tryz.prog 8 Tryz.f8 Rows.fnExactSpanNegSpec Rows.fnExactSpanNegRow = true := (and2 (and2 (and2 (and2 (and2 (and2 (and2 (and2 (and2 (and2 (and2 (and2 (and2 (and2 (and2 (and2 (and2 (and2 (and2 (and2 (and2 (and2 (and2 (and2 (and2 (and2 (and2 (and2 (and2 (and2 (and2 FnExactSpanNeg_k0 jf1) jf2) FnExactSpanNeg_k3) FnExactSpanNeg_k4) FnExactSpanNeg_k5) jf6) FnExactSpanNeg_k7) jf8) FnExactSpanNeg_k9) FnExactSpanNeg_k10) FnExactSpanNeg_k11) FnExactSpanNeg_k12) FnExactSpanNeg_k13) FnExactSpanNeg_k14) FnExactSpanNeg_k15) FnExactSpanNeg_k16) FnExactSpanNeg_k17) FnExactSpanNeg_k18) FnExactSpanNeg_k19) FnExactSpanNeg_k20) FnExactSpanNeg_k21) jf22) FnExactSpanNeg_k23) jf24) jf25) jf26) jf27) FnExactSpanNeg_k28) FnExactSpanNeg_k29) FnExactSpanNeg_k30) FnExactSpanNeg_k31)
theorem FnExactSpanNeg_over : Rows.fnExactSpanNegRow.holds Tryz.pinned (OpenSpec.ofChange Rows.fnExactSpanNegSpec) :=
  OpenClaim.holds_of_wide 8 Tryz.f8 rfl rfl rfl rfl rfl rfl rfl ⟨rfl, rfl, rfl, rfl, rfl⟩ rfl rfl rfl rfl rfl (by kernel_rfl) Tryz.func8 FnExactSpanNeg_closed
    (of_decide_eq_true (by kernel_rfl)) (by unfold Func.isWrapper; first | (rw [if_pos (by decide +kernel)]; kernel_rfl) | (rw [if_neg (by decide +kernel)]; exact ⟨rfl, rfl⟩))
    (fun os started H enc _ => FnExactSpanNeg_lifted os started H enc)

theorem FnExactSpanNeg_proved : Rows.FnExactSpanNegSaid := FnExactSpanNeg_over
end Go.Proofs.YtpjagplloljefaaGreat
