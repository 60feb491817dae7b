/- The program's PairIs answers as the specification's PairIs at every argument; nothing that was there is written. No condition. -/
import Derived.Test.YteigdooniolmlaaRows
import Derived.WalkKit
import Derived.ProofKit
import Derived.OpenShut
import Derived.Below
import Derived.Carry
import Derived.Test.YteigdooniolmlaaO1
import Derived.Test.YteigdooniolmlaaR8
import Derived.Test.YteigdooniolmlaaR2
import Derived.Test.YteigdooniolmlaaJ0
import Derived.Test.YteigdooniolmlaaJ1
import Derived.Test.YteigdooniolmlaaJ4
import Derived.Test.YteigdooniolmlaaJ5
import Derived.Test.YteigdooniolmlaaJ6
namespace Go.Proofs.Yteigdooniolmlaa
open Go.ChangeShapes Go.WideShapes Go.ChangeAt Go.RowKit
set_option linter.unusedVariables false

theorem FnExactPairIs_own : ownKnob Try.prog.godebug = none := by kernel_rfl

set_option maxRecDepth 100000 in
set_option maxHeartbeats 4000000 in
theorem FnExactPairIs_walk (a0 b0 : Int) (wa0 : -9223372036854775808 ≤ a0 ∧ a0 ≤ 9223372036854775807) (wb0 : -9223372036854775808 ≤ b0 ∧ b0 ≤ 9223372036854775807) (a1 b1 : Int) (wa1 : -9223372036854775808 ≤ a1 ∧ a1 ≤ 9223372036854775807) (wb1 : -9223372036854775808 ≤ b1 ∧ b1 ≤ 9223372036854775807) (w : World) :
    Calls Try.prog 7 #[.agg #[.int .i64 a0, .int .i64 b0], .agg #[.int .i64 a1, .int .i64 b1]] w fun e w' => e = .returned (.bool true) ∧ Below w.heap.size w w' := by
  have S := hd (sPairIs a0 b0 a1 b1)
  have I := hd (iPairIs a0 b0 a1 b1)
  generalize isB a0 b0 a1 b1 = r at *
  have K : Cel2 ((w.alloc (.cells #[.int .i64 a0, .int .i64 b0] 39)).alloc (.cells #[.int .i64 a1, .int .i64 b1] 39)) w.heap.size (.int .i64 a0) (.int .i64 b0) := (Cel2.made w _ rfl _ _ _).alloc _
  have M : Cel2 ((w.alloc (.cells #[.int .i64 a0, .int .i64 b0] 39)).alloc (.cells #[.int .i64 a1, .int .i64 b1] 39)) (w.heap.size + 1) (.int .i64 a1) (.int .i64 b1) := Cel2.made _ _ (by simp) _ _ _
  go_enter Try.func7, Try.ntmps7
  go_wp2_with fail
  go_region_held3 (fun w' => w'.cell? ⟨w.heap.size, 0, none⟩ = some (.int .i64 a0) ∧ w'.cell? ⟨w.heap.size, 1, none⟩ = some (.int .i64 b0) ∧ w'.cell? ⟨w.heap.size + 1, 0, none⟩ = some (.int .i64 a1) ∧ w'.cell? ⟨w.heap.size + 1, 1, none⟩ = some (.int .i64 b1)) (go_keep) (first | (go_at_call_of 27 (Value.agg #[.int .i64 a0, .int .i64 b0]); refine (toPair a0 b0 _).mono ?_; rintro e wx ⟨rfl, hbx⟩; have K := (by first | exact K.later hbx | exact K.drew.later hbx | exact (K.alloc _).later hbx | exact (K.drew.alloc _).later hbx | exact (K.alloc _).drew.later hbx : Cel2 wx _ _ _); have K0 := K.1; have K1 := K.2.1; have Kz := K.2.2.2.2; have Kn := Nat.ne_of_lt Kz; have Ko := Nat.ne_of_gt Kz; have M := (by first | exact M.later hbx | exact M.drew.later hbx | exact (M.alloc _).later hbx | exact (M.drew.alloc _).later hbx | exact (M.alloc _).drew.later hbx : Cel2 wx _ _ _); have M0 := M.1; have M1 := M.2.1; have Mz := M.2.2.2.2; have Mn := Nat.ne_of_lt Mz; have Mo := Nat.ne_of_gt Mz) | (go_at_call_of 27 (Value.agg #[.int .i64 a1, .int .i64 b1]); refine (toPair a1 b1 _).mono ?_; rintro e wx ⟨rfl, hbx⟩; have K := (by first | exact K.later hbx | exact K.drew.later hbx | exact (K.alloc _).later hbx | exact (K.drew.alloc _).later hbx | exact (K.alloc _).drew.later hbx : Cel2 wx _ _ _); have K0 := K.1; have K1 := K.2.1; have Kz := K.2.2.2.2; have Kn := Nat.ne_of_lt Kz; have Ko := Nat.ne_of_gt Kz; have M := (by first | exact M.later hbx | exact M.drew.later hbx | exact (M.alloc _).later hbx | exact (M.drew.alloc _).later hbx | exact (M.alloc _).drew.later hbx : Cel2 wx _ _ _); have M0 := M.1; have M1 := M.2.1; have Mz := M.2.2.2.2; have Mn := Nat.ne_of_lt Mz; have Mo := Nat.ne_of_gt Mz) | (go_at_call 28; refine (S.out _).mono ?_; rintro e wx ⟨rfl, hbx⟩; have K := (by first | exact K.later hbx | exact K.drew.later hbx | exact (K.alloc _).later hbx | exact (K.drew.alloc _).later hbx | exact (K.alloc _).drew.later hbx : Cel2 wx _ _ _); have K0 := K.1; have K1 := K.2.1; have Kz := K.2.2.2.2; have Kn := Nat.ne_of_lt Kz; have Ko := Nat.ne_of_gt Kz; have M := (by first | exact M.later hbx | exact M.drew.later hbx | exact (M.alloc _).later hbx | exact (M.drew.alloc _).later hbx | exact (M.alloc _).drew.later hbx : Cel2 wx _ _ _); have M0 := M.1; have M1 := M.2.1; have Mz := M.2.2.2.2; have Mn := Nat.ne_of_lt Mz; have Mo := Nat.ne_of_gt Mz))
  go_wp2_with fail
  go_region_held3 (fun w' => w'.cell? ⟨w.heap.size, 0, none⟩ = some (.int .i64 a0) ∧ w'.cell? ⟨w.heap.size, 1, none⟩ = some (.int .i64 b0) ∧ w'.cell? ⟨w.heap.size + 1, 0, none⟩ = some (.int .i64 a1) ∧ w'.cell? ⟨w.heap.size + 1, 1, none⟩ = some (.int .i64 b1)) (go_keep) (first | (go_at_call_of 27 (Value.agg #[.int .i64 a0, .int .i64 b0]); refine (toPair a0 b0 _).mono ?_; rintro e wx ⟨rfl, hbx⟩; have K := (by first | exact K.later hbx | exact K.drew.later hbx | exact (K.alloc _).later hbx | exact (K.drew.alloc _).later hbx | exact (K.alloc _).drew.later hbx : Cel2 wx _ _ _); have K0 := K.1; have K1 := K.2.1; have Kz := K.2.2.2.2; have Kn := Nat.ne_of_lt Kz; have Ko := Nat.ne_of_gt Kz; have M := (by first | exact M.later hbx | exact M.drew.later hbx | exact (M.alloc _).later hbx | exact (M.drew.alloc _).later hbx | exact (M.alloc _).drew.later hbx : Cel2 wx _ _ _); have M0 := M.1; have M1 := M.2.1; have Mz := M.2.2.2.2; have Mn := Nat.ne_of_lt Mz; have Mo := Nat.ne_of_gt Mz) | (go_at_call_of 27 (Value.agg #[.int .i64 a1, .int .i64 b1]); refine (toPair a1 b1 _).mono ?_; rintro e wx ⟨rfl, hbx⟩; have K := (by first | exact K.later hbx | exact K.drew.later hbx | exact (K.alloc _).later hbx | exact (K.drew.alloc _).later hbx | exact (K.alloc _).drew.later hbx : Cel2 wx _ _ _); have K0 := K.1; have K1 := K.2.1; have Kz := K.2.2.2.2; have Kn := Nat.ne_of_lt Kz; have Ko := Nat.ne_of_gt Kz; have M := (by first | exact M.later hbx | exact M.drew.later hbx | exact (M.alloc _).later hbx | exact (M.drew.alloc _).later hbx | exact (M.alloc _).drew.later hbx : Cel2 wx _ _ _); have M0 := M.1; have M1 := M.2.1; have Mz := M.2.2.2.2; have Mn := Nat.ne_of_lt Mz; have Mo := Nat.ne_of_gt Mz) | (go_at_call 19; refine (I.out _).mono ?_; rintro e wx ⟨rfl, hbx⟩; have K := (by first | exact K.later hbx | exact K.drew.later hbx | exact (K.alloc _).later hbx | exact (K.drew.alloc _).later hbx | exact (K.alloc _).drew.later hbx : Cel2 wx _ _ _); have K0 := K.1; have K1 := K.2.1; have Kz := K.2.2.2.2; have Kn := Nat.ne_of_lt Kz; have Ko := Nat.ne_of_gt Kz; have M := (by first | exact M.later hbx | exact M.drew.later hbx | exact (M.alloc _).later hbx | exact (M.drew.alloc _).later hbx | exact (M.alloc _).drew.later hbx : Cel2 wx _ _ _); have M0 := M.1; have M1 := M.2.1; have Mz := M.2.2.2.2; have Mn := Nat.ne_of_lt Mz; have Mo := Nat.ne_of_gt Mz))
  go_wp2
  go_ret
  exact ⟨rfl, (by repeat (first | exact Below.refl _ _ | refine Below.drew ?_ | refine old_alloc ?_ _ | refine old_trans ?_ (by assumption)))⟩
set_option maxRecDepth 100000 in
theorem FnExactPairIs_lifted (os : Os) (started : os.Started) (H : Type) (enc : TypeId × Value → H) :
    ReturnsInHanded {} Try.checked os 7 .any (Rows.fnExactPairIsSpec.pre6 enc Try.prog Try.f7 Rows.fnExactPairIsRow.domain false) (Rows.fnExactPairIsSpec.post enc Try.prog Try.f7 false true false false) := by
  refine returnsInHanded_of_change (C := Try.checked) FnExactPairIs_own started (by kernel_rfl) Try.func7
    (ChangeSpec.witness6 (enc := enc) (C := Try.checked) false ⟨#[], #[.agg #[.int .i64 0, .int .i64 0], .agg #[.int .i64 0, .int .i64 0]], []⟩ 8 (by kernel_rfl) (by kernel_rfl) (by kernel_rfl) (by kernel_rfl)) ?_
  intro W base args ds gs before hval0 hW hcnd _
  have hval : ∀ (j : Nat) t v, Try.f7.params[j]? = some t → args[j]? = some v → Value.okWide Try.prog W .any base t v := hval0
  have hW' := hW
  obtain ⟨p, q, hA0, hV, rfl, hfz, hnd⟩ := hW
  have hA : DataW.TrodAll enc Try.prog W 0 (fun _ => true) true Try.f7.params.toList args.toList ds p := hA0
  rw [Try.params7] at hA hval
  obtain ⟨v0, vs0, d0, ds0, p0, q0, hargs, rfl, rfl, h0, r0⟩ := trodAll_cons hA
  obtain ⟨v1, vs1, d1, ds1, p1, q1, rfl, rfl, rfl, h1, r1⟩ := trodAll_cons r0
  obtain ⟨rfl, rfl, rfl⟩ := trodAll_nil r1
  obtain rfl : args = #[v0, v1] := by cases args; simp_all
  obtain ⟨rfl, rfl⟩ := trodVars_none hV
  have k0 := h0
  have lt0 : ∀ x ∈ p0, x.block < W.heap.size := by obtain ⟨m, hm⟩ := k0; exact DataW.trod_lt m _ _ _ hm
  obtain ⟨a0, b0, rfl, wa0, wb0⟩ := open_lpair (hval 0 39 v0 rfl rfl) h0
  have k1 := h1
  have lt1 : ∀ x ∈ p1, x.block < W.heap.size := by obtain ⟨m, hm⟩ := k1; exact DataW.trod_lt m _ _ _ hm
  obtain ⟨a1, b1, rfl, wa1, wb1⟩ := open_lpair (hval 1 39 v1 rfl rfl) h1
  clear hA0 hval0
  refine (FnExactPairIs_walk a0 b0 wa0 wb0 a1 b1 wa1 wb1 W ).mono fun e W' ⟨he, bel⟩ => ?_
  subst he
  exact ⟨_, rfl, _, _, _, [], _, [], hW', trodAll_mk1 (shut_bool Try.underlying4 _), (trodAll_cons_mk (Below.trod jf1 (by kernel_rfl) (of_decide_eq_true (by kernel_rfl)) k0 bel lt0) (trodAll_cons_mk (Below.trod jf1 (by kernel_rfl) (of_decide_eq_true (by kernel_rfl)) k1 bel lt1) trodAll_mk0)), rfl, bel.frame _, fun h => by cases h⟩

theorem FnExactPairIs_k0 : (Rows.fnExactPairIsRow.wf (OpenSpec.ofChange Rows.fnExactPairIsSpec)) = true := by kernel_rfl
theorem FnExactPairIs_k3 : (Try.f7.params.all (Try.prog.readableRec ·)) = true := by kernel_rfl
theorem FnExactPairIs_k4 : (namedTie Try.prog Rows.fnExactPairIsRow.named Rows.fnExactPairIsSpec.vars) = true := by kernel_rfl
theorem FnExactPairIs_k5 : ((Rows.fnExactPairIsRow.stops == [])) = true := by kernel_rfl
theorem FnExactPairIs_k7 : ((Rows.fnExactPairIsRow.knobs == [])) = true := by kernel_rfl
theorem FnExactPairIs_k9 : ((Rows.fnExactPairIsRow.inPlace == Try.prog.inPlace 7)) = true := by kernel_rfl
theorem FnExactPairIs_k10 : ((Rows.fnExactPairIsRow.unfollowed == Try.prog.unfollowed 7)) = true := by kernel_rfl
theorem FnExactPairIs_k11 : ((Rows.fnExactPairIsRow.recurses == Try.prog.recurses 7)) = true := by kernel_rfl
theorem FnExactPairIs_k12 : ((Rows.fnExactPairIsRow.named == Try.prog.varsNamed 7)) = true := by kernel_rfl
theorem FnExactPairIs_k13 : ((Rows.fnExactPairIsRow.maps == (Try.f7.params.toList ++ Rows.fnExactPairIsSpec.plain.varTypes Try.prog).any (Try.prog.mapsRec ·))) = true := by kernel_rfl
theorem FnExactPairIs_k14 : ((Rows.fnExactPairIsRow.ifaces == (Try.f7.params.toList ++ Rows.fnExactPairIsSpec.plain.varTypes Try.prog).any (Try.prog.ifacesRec ·))) = true := by kernel_rfl
theorem FnExactPairIs_k15 : ((Rows.fnExactPairIsRow.mapsOut == Try.prog.mapsAmong Try.f7.resultTypes.toList)) = true := by kernel_rfl
theorem FnExactPairIs_k16 : ((Rows.fnExactPairIsRow.loops == (Try.f7.params.toList ++ Rows.fnExactPairIsSpec.plain.varTypes Try.prog).any (Try.prog.loopsFrom ·))) = true := by kernel_rfl
theorem FnExactPairIs_k17 : ((Rows.fnExactPairIsRow.wideKeys == (Try.f7.params.toList ++ Rows.fnExactPairIsSpec.plain.varTypes Try.prog ++ Try.f7.resultTypes.toList).any (Try.prog.wideKeysFrom ·))) = true := by kernel_rfl
theorem FnExactPairIs_k18 : (Rows.fnExactPairIsSpec.vars.all (Try.prog.varReadable ·)) = true := by kernel_rfl
theorem FnExactPairIs_k19 : (Try.f7.resultTypes.all (fun t => Try.prog.readableRec t && decide (t < Try.prog.types.size))) = true := by kernel_rfl
theorem FnExactPairIs_k20 : ((Rows.fnExactPairIsRow.ifacesOut == Try.f7.resultTypes.toList.any (Try.prog.ifacesRec ·))) = true := by kernel_rfl
theorem FnExactPairIs_k21 : ((Rows.fnExactPairIsRow.loopsOut == Try.f7.resultTypes.toList.any (Try.prog.loopsFrom ·))) = true := by kernel_rfl
theorem FnExactPairIs_k23 : (Rows.fnExactPairIsRow.shortTexts.isNone) = true := by kernel_rfl
theorem FnExactPairIs_k28 : ((Rows.fnExactPairIsRow.kinds == (if Rows.fnExactPairIsRow.domain.isEmpty then [] else Try.f7.params.toList.map fun t => match Try.prog.underlying t with | some (.int k) => some k | _ => none))) = true := by kernel_rfl
theorem FnExactPairIs_k29 : ((Rows.fnExactPairIsRow.pinned == Rows.fnExactPairIsRow.pinnedBy)) = true := by kernel_rfl
theorem FnExactPairIs_k30 : ((Rows.fnExactPairIsRow.veiled == (Try.f7.params.toList ++ Rows.fnExactPairIsSpec.plain.varTypes Try.prog ++ Try.f7.resultTypes.toList).any (Try.prog.veiledRec ·))) = true := by kernel_rfl
theorem FnExactPairIs_k31 : (Rows.fnExactPairIsRow.veiledFits Try.prog Try.f7.params.toList (Try.f7.params.toList ++ Rows.fnExactPairIsSpec.plain.varTypes Try.prog ++ Try.f7.resultTypes.toList)) = true := by kernel_rfl
set_option maxRecDepth 100000 in
theorem FnExactPairIs_closed : joinedFacts Try.prog 7 Try.f7 Rows.fnExactPairIsSpec Rows.fnExactPairIsRow = true := (and2 (and2 (and2 (and2 (and2 (and2 (and2 (and2 (and2 (and2 (and2 (and2 (and2 (and2 (and2 (and2 (and2 (and2 (and2 (and2 (and2 (and2 (and2 (and2 (and2 (and2 (and2 (and2 (and2 (and2 (and2 FnExactPairIs_k0 jf1) jf2) FnExactPairIs_k3) FnExactPairIs_k4) FnExactPairIs_k5) jf6) FnExactPairIs_k7) jf8) FnExactPairIs_k9) FnExactPairIs_k10) FnExactPairIs_k11) FnExactPairIs_k12) FnExactPairIs_k13) FnExactPairIs_k14) FnExactPairIs_k15) FnExactPairIs_k16) FnExactPairIs_k17) FnExactPairIs_k18) FnExactPairIs_k19) FnExactPairIs_k20) FnExactPairIs_k21) jf22) FnExactPairIs_k23) jf24) jf25) jf26) jf27) FnExactPairIs_k28) FnExactPairIs_k29) FnExactPairIs_k30) FnExactPairIs_k31)
theorem FnExactPairIs_over : Rows.fnExactPairIsRow.holds Try.pinned (OpenSpec.ofChange Rows.fnExactPairIsSpec) :=
  OpenClaim.holds_of_wide 7 Try.f7 rfl rfl rfl rfl rfl rfl rfl ⟨rfl, rfl, rfl, rfl, rfl⟩ rfl rfl rfl rfl rfl (by kernel_rfl) Try.func7 FnExactPairIs_closed
    (of_decide_eq_true (by kernel_rfl)) (by unfold Func.isWrapper; first | (rw [if_pos (by decide +kernel)]; kernel_rfl) | (rw [if_neg (by decide +kernel)]; exact ⟨rfl, rfl⟩))
    (fun os started H enc _ => FnExactPairIs_lifted os started H enc)

theorem FnExactPairIs_proved : Rows.FnExactPairIsSaid := FnExactPairIs_over
end Go.Proofs.Yteigdooniolmlaa
