/- The program's BoxWidest answers as the specification's BoxWidest at every argument; nothing that was there is written. No condition. -/
import Derived.Test.YtmeijbiohbpgpaaRows
import Derived.WalkKit
import Derived.ProofKit
import Derived.OpenShut
import Derived.Below
import Derived.Carry
import Derived.Test.YtmeijbiohbpgpaaO1
import Derived.Test.YtmeijbiohbpgpaaB4
import Derived.Test.YtmeijbiohbpgpaaB7
import Derived.Test.YtmeijbiohbpgpaaJ0
import Derived.Test.YtmeijbiohbpgpaaJ1
import Derived.Test.YtmeijbiohbpgpaaJ4
import Derived.Test.YtmeijbiohbpgpaaJ5
import Derived.Test.YtmeijbiohbpgpaaJ6
namespace Go.Proofs.Ytmeijbiohbpgpaa
open Go.ChangeShapes Go.WideShapes Go.ChangeAt Go.RowKit
set_option linter.unusedVariables false

theorem FnExactBoxWidest_own : ownKnob Try.prog.godebug = none := by kernel_rfl

set_option maxRecDepth 100000 in
set_option maxHeartbeats 4000000 in
theorem FnExactBoxWidest_walk (a0 : Int) (wa0 : -9223372036854775808 ≤ a0 ∧ a0 ≤ 9223372036854775807) (a1 : Option Addr) (len1 cap1 : Nat) (ps1 : List (Int × Int)) (w : World) (wb1 : InRow w a1 len1 cap1 ps1):
    Calls Try.prog 7 #[.int .i64 a0, .agg #[.slice a1 len1 cap1]] w fun e w' => e = .returned (.bool true) ∧ Below w.heap.size w w' := by
  obtain rfl := wb1.1
  have hlen1 : ps1.length ≤ maxLen := Nat.le_trans wb1.2.1 wb1.2.2.1
  have SZ := hd (lSzBox a1 ps1.length cap1 1048576 hlen1 (by omega) (by omega))
  by_cases c : (ps1.length : Int) ≤ 1048576
  case neg =>
    rw [if_neg c] at SZ
    go_enter Try.func7, Try.ntmps7
    go_wp2_with (go_at_call 15; refine (SZ.out _).mono ?_; rintro e w1 ⟨rfl, hb1⟩)
    go_ret
    exact ⟨rfl, (by repeat (first | exact Below.refl _ _ | refine Below.drew ?_ | refine old_alloc ?_ _ | refine old_trans ?_ (by assumption)))⟩
  rw [if_pos c] at SZ
  have hl1 : ps1.length ≤ 1048576 := by omega
  have S := hd (fun a len cap w (h : InRow w a len cap ps1) => sBoxWidest a0 a len cap ps1 w h)
  have I := hd (fun a len cap w (h : InRow w a len cap ps1) => iBoxWidest a0 a len cap ps1 w h)
  generalize widest a0 ps1 = r at *
  have K : Cel1 (w.alloc (.cells #[.slice a1 ps1.length cap1] 24)) w.heap.size (.slice a1 ps1.length cap1) := Cel1.made w _ rfl _ _
  have R := wb1.alloc (.cells #[.slice a1 ps1.length cap1] 24)
  have c' : ¬ (1048576 - (ps1.length : Int) < 0) := by omega
  clear c
  go_enter Try.func7, Try.ntmps7
  go_wp2_with fail
  refine (SZ.out _).mono ?_
  rintro e w1 ⟨rfl, hb1⟩
  replace K := (by with_reducible first | exact K.later hb1 | exact (K.alloc _).later hb1 | exact K.drew.later hb1 : Cel1 w1 _ _)
  replace R := (by with_reducible first | exact R.old hb1 | exact (R.alloc _).old hb1 | exact R.drew.old hb1 : InRow w1 _ _ _ _)
  have K0 := K.1
  have K2 := K.2.2
  go_wp2_with fail
  refine (toBoxI a1 cap1 ps1 _ (by with_reducible first | exact R | exact R.alloc _ | exact R.drew) hl1).mono ?_
  rintro e w2 ⟨⟨bR2, rfl, -, R2⟩, hb2⟩
  clear K0 K2
  replace K := (by with_reducible first | exact K.later hb2 | exact (K.alloc _).later hb2 | exact K.drew.later hb2 : Cel1 w2 _ _)
  replace R := (by with_reducible first | exact R.old hb2 | exact (R.alloc _).old hb2 | exact R.drew.old hb2 : InRow w2 _ _ _ _)
  have K0 := K.1
  have K2 := K.2.2
  go_wp2_with fail
  refine (S.out _ _ _ _ (by with_reducible first | exact R2 | exact R2.alloc _ | exact R2.drew)).mono ?_
  rintro e w3 ⟨rfl, hb3⟩
  clear K0 K2
  replace K := (by with_reducible first | exact K.later hb3 | exact (K.alloc _).later hb3 | exact K.drew.later hb3 : Cel1 w3 _ _)
  replace R := (by with_reducible first | exact R.old hb3 | exact (R.alloc _).old hb3 | exact R.drew.old hb3 : InRow w3 _ _ _ _)
  clear R2
  have K0 := K.1
  have K2 := K.2.2
  go_wp2_with fail
  refine (toBoxI a1 cap1 ps1 _ (by with_reducible first | exact R | exact R.alloc _ | exact R.drew) hl1).mono ?_
  rintro e w4 ⟨⟨bR4, rfl, -, R4⟩, hb4⟩
  clear K0 K2
  replace K := (by with_reducible first | exact K.later hb4 | exact (K.alloc _).later hb4 | exact K.drew.later hb4 : Cel1 w4 _ _)
  replace R := (by with_reducible first | exact R.old hb4 | exact (R.alloc _).old hb4 | exact R.drew.old hb4 : InRow w4 _ _ _ _)
  have K0 := K.1
  have K2 := K.2.2
  go_wp2_with fail
  refine (I.out _ _ _ _ (by with_reducible first | exact R4 | exact R4.alloc _ | exact R4.drew)).mono ?_
  rintro e w5 ⟨rfl, hb5⟩
  clear K0 K2
  replace K := (by with_reducible first | exact K.later hb5 | exact (K.alloc _).later hb5 | exact K.drew.later hb5 : Cel1 w5 _ _)
  have X := (Cel1.made _ _ rfl (.slice (some ⟨bR4, 0, none⟩) ps1.length ps1.length) 29).later hb5
  replace R := (by with_reducible first | exact R.old hb5 | exact (R.alloc _).old hb5 | exact R.drew.old hb5 : InRow w5 _ _ _ _)
  replace R4 := (by with_reducible first | exact R4.old hb5 | exact (R4.alloc _).old hb5 | exact R4.drew.old hb5 : InRow w5 _ _ _ _)
  have K0 := K.1
  have K2 := K.2.2
  have X0 := X.1
  have X2 := X.2.2
  go_wp2_with fail
  go_region_with (first | (go_at_call 17; refine (toBoxI a1 cap1 ps1 _ (by with_reducible first | exact R | exact R.alloc _ | exact R.drew) hl1).mono ?_; rintro e wx ⟨⟨bx, rfl, -, Rx⟩, hbx⟩; have K := (by with_reducible first | exact K.later hbx | exact (K.alloc _).later hbx | exact K.drew.later hbx : Cel1 wx _ _); have K0 := K.1; have K2 := K.2.2; have X := (by with_reducible first | exact X.later hbx | exact (X.alloc _).later hbx | exact X.drew.later hbx : Cel1 wx _ _); have X0 := X.1; have X2 := X.2.2; have R4 := (by with_reducible first | exact R4.old hbx | exact (R4.alloc _).old hbx | exact R4.drew.old hbx : InRow wx _ _ _ _)) | (go_at_call 19; refine (lEqBox _ _ _ _ _ ps1 _ (by with_reducible first | exact R4 | exact R4.alloc _ | exact R4.drew) (by with_reducible first | exact Rx | exact Rx.alloc _ | exact Rx.drew)).mono ?_; rintro e wy ⟨rfl, hby⟩))
  all_goals
    go_wp2
    go_ret
    exact ⟨rfl, (by repeat (first | exact Below.refl _ _ | refine Below.drew ?_ | refine old_alloc ?_ _ | refine old_trans ?_ (by assumption)))⟩

set_option maxRecDepth 100000 in
theorem FnExactBoxWidest_lifted (os : Os) (started : os.Started) (H : Type) (enc : TypeId × Value → H) :
    ReturnsInHanded {} Try.checked os 7 .any (Rows.fnExactBoxWidestSpec.pre6 enc Try.prog Try.f7 Rows.fnExactBoxWidestRow.domain false) (Rows.fnExactBoxWidestSpec.post enc Try.prog Try.f7 false true false false) := by
  refine returnsInHanded_of_change (C := Try.checked) FnExactBoxWidest_own started (by kernel_rfl) Try.func7
    (ChangeSpec.witness6 (enc := enc) (C := Try.checked) false ⟨#[], #[.int .i64 0, .agg #[.slice none 0 0]], []⟩ 8 (by kernel_rfl) (by kernel_rfl) (by kernel_rfl) (by kernel_rfl)) ?_
  intro W base args ds gs before hval0 hW hcnd _
  have hval : ∀ (j : Nat) t v, Try.f7.params[j]? = some t → args[j]? = some v → Value.okWide Try.prog W .any base t v := hval0
  have hW' := hW
  obtain ⟨p, q, hA0, hV, rfl, hfz, hnd⟩ := hW
  have hA : DataW.TrodAll enc Try.prog W 0 (fun _ => true) true Try.f7.params.toList args.toList ds p := hA0
  rw [Try.params7] at hA hval
  obtain ⟨v0, vs0, d0, ds0, p0, q0, hargs, rfl, rfl, h0, r0⟩ := trodAll_cons hA
  obtain ⟨v1, vs1, d1, ds1, p1, q1, rfl, rfl, rfl, h1, r1⟩ := trodAll_cons r0
  obtain ⟨rfl, rfl, rfl⟩ := trodAll_nil r1
  obtain rfl : args = #[v0, v1] := by cases args; simp_all
  obtain ⟨rfl, rfl⟩ := trodVars_none hV
  have k0 := h0
  have lt0 : ∀ x ∈ p0, x.block < W.heap.size := by obtain ⟨m, hm⟩ := k0; exact DataW.trod_lt m _ _ _ hm
  obtain ⟨a0, rfl, -, -, wf0⟩ := open_int Try.underlying3 (hval 0 3 v0 rfl rfl) h0
  have wa0 := bounds_i64 wf0
  have k1 := h1
  have lt1 : ∀ x ∈ p1, x.block < W.heap.size := by obtain ⟨m, hm⟩ := k1; exact DataW.trod_lt m _ _ _ hm
  obtain ⟨a1, len1, cap1, ps1, rfl, wb1⟩ := open_lbox (hval 1 24 v1 rfl rfl) h1
  clear hA0 hval0
  refine (FnExactBoxWidest_walk a0 wa0 a1 len1 cap1 ps1 W wb1).mono fun e W' ⟨he, bel⟩ => ?_
  subst he
  exact ⟨_, rfl, _, _, _, [], _, [], hW', trodAll_mk1 (shut_bool Try.underlying4 _), (trodAll_cons_mk (Below.trod jf1 (by kernel_rfl) (of_decide_eq_true (by kernel_rfl)) k0 bel lt0) (trodAll_cons_mk (Below.trod jf1 (by kernel_rfl) (of_decide_eq_true (by kernel_rfl)) k1 bel lt1) trodAll_mk0)), rfl, bel.frame _, fun h => by cases h⟩

theorem FnExactBoxWidest_k0 : (Rows.fnExactBoxWidestRow.wf (OpenSpec.ofChange Rows.fnExactBoxWidestSpec)) = true := by kernel_rfl
theorem FnExactBoxWidest_k3 : (Try.f7.params.all (Try.prog.readableRec ·)) = true := by kernel_rfl
theorem FnExactBoxWidest_k4 : (namedTie Try.prog Rows.fnExactBoxWidestRow.named Rows.fnExactBoxWidestSpec.vars) = true := by kernel_rfl
theorem FnExactBoxWidest_k5 : ((Rows.fnExactBoxWidestRow.stops == [])) = true := by kernel_rfl
theorem FnExactBoxWidest_k7 : ((Rows.fnExactBoxWidestRow.knobs == [])) = true := by kernel_rfl
theorem FnExactBoxWidest_k9 : ((Rows.fnExactBoxWidestRow.inPlace == Try.prog.inPlace 7)) = true := by kernel_rfl
theorem FnExactBoxWidest_k10 : ((Rows.fnExactBoxWidestRow.unfollowed == Try.prog.unfollowed 7)) = true := by kernel_rfl
theorem FnExactBoxWidest_k11 : ((Rows.fnExactBoxWidestRow.recurses == Try.prog.recurses 7)) = true := by kernel_rfl
theorem FnExactBoxWidest_k12 : ((Rows.fnExactBoxWidestRow.named == Try.prog.varsNamed 7)) = true := by kernel_rfl
theorem FnExactBoxWidest_k13 : ((Rows.fnExactBoxWidestRow.maps == (Try.f7.params.toList ++ Rows.fnExactBoxWidestSpec.plain.varTypes Try.prog).any (Try.prog.mapsRec ·))) = true := by kernel_rfl
theorem FnExactBoxWidest_k14 : ((Rows.fnExactBoxWidestRow.ifaces == (Try.f7.params.toList ++ Rows.fnExactBoxWidestSpec.plain.varTypes Try.prog).any (Try.prog.ifacesRec ·))) = true := by kernel_rfl
theorem FnExactBoxWidest_k15 : ((Rows.fnExactBoxWidestRow.mapsOut == Try.prog.mapsAmong Try.f7.resultTypes.toList)) = true := by kernel_rfl
theorem FnExactBoxWidest_k16 : ((Rows.fnExactBoxWidestRow.loops == (Try.f7.params.toList ++ Rows.fnExactBoxWidestSpec.plain.varTypes Try.prog).any (Try.prog.loopsFrom ·))) = true := by kernel_rfl
theorem FnExactBoxWidest_k17 : ((Rows.fnExactBoxWidestRow.wideKeys == (Try.f7.params.toList ++ Rows.fnExactBoxWidestSpec.plain.varTypes Try.prog ++ Try.f7.resultTypes.toList).any (Try.prog.wideKeysFrom ·))) = true := by kernel_rfl
theorem FnExactBoxWidest_k18 : (Rows.fnExactBoxWidestSpec.vars.all (Try.prog.varReadable ·)) = true := by kernel_rfl
theorem FnExactBoxWidest_k19 : (Try.f7.resultTypes.all (fun t => Try.prog.readableRec t && decide (t < Try.prog.types.size))) = true := by kernel_rfl
theorem FnExactBoxWidest_k20 : ((Rows.fnExactBoxWidestRow.ifacesOut == Try.f7.resultTypes.toList.any (Try.prog.ifacesRec ·))) = true := by kernel_rfl
theorem FnExactBoxWidest_k21 : ((Rows.fnExactBoxWidestRow.loopsOut == Try.f7.resultTypes.toList.any (Try.prog.loopsFrom ·))) = true := by kernel_rfl
theorem FnExactBoxWidest_k23 : (Rows.fnExactBoxWidestRow.shortTexts.isNone) = true := by kernel_rfl
theorem FnExactBoxWidest_k28 : ((Rows.fnExactBoxWidestRow.kinds == (if Rows.fnExactBoxWidestRow.domain.isEmpty then [] else Try.f7.params.toList.map fun t => match Try.prog.underlying t with | some (.int k) => some k | _ => none))) = true := by kernel_rfl
theorem FnExactBoxWidest_k29 : ((Rows.fnExactBoxWidestRow.pinned == Rows.fnExactBoxWidestRow.pinnedBy)) = true := by kernel_rfl
theorem FnExactBoxWidest_k30 : ((Rows.fnExactBoxWidestRow.veiled == (Try.f7.params.toList ++ Rows.fnExactBoxWidestSpec.plain.varTypes Try.prog ++ Try.f7.resultTypes.toList).any (Try.prog.veiledRec ·))) = true := by kernel_rfl
theorem FnExactBoxWidest_k31 : (Rows.fnExactBoxWidestRow.veiledFits Try.prog Try.f7.params.toList (Try.f7.params.toList ++ Rows.fnExactBoxWidestSpec.plain.varTypes Try.prog ++ Try.f7.resultTypes.toList)) = true := by kernel_rfl
set_option maxRecDepth 100000 in
theorem FnExactBoxWidest_closed : joinedFacts Try.prog 7 Try.f7 Rows.fnExactBoxWidestSpec Rows.fnExactBoxWidestRow = true := (and2 (and2 (and2 (and2 (and2 (and2 (and2 (and2 (and2 (and2 (and2 (and2 (and2 (and2 (and2 (and2 (and2 (and2 (and2 (and2 (and2 (and2 (and2 (and2 (and2 (and2 (and2 (and2 (and2 (and2 (and2 FnExactBoxWidest_k0 jf1) jf2) FnExactBoxWidest_k3) FnExactBoxWidest_k4) FnExactBoxWidest_k5) jf6) FnExactBoxWidest_k7) jf8) FnExactBoxWidest_k9) FnExactBoxWidest_k10) FnExactBoxWidest_k11) FnExactBoxWidest_k12) FnExactBoxWidest_k13) FnExactBoxWidest_k14) FnExactBoxWidest_k15) FnExactBoxWidest_k16) FnExactBoxWidest_k17) FnExactBoxWidest_k18) FnExactBoxWidest_k19) FnExactBoxWidest_k20) FnExactBoxWidest_k21) jf22) FnExactBoxWidest_k23) jf24) jf25) jf26) jf27) FnExactBoxWidest_k28) FnExactBoxWidest_k29) FnExactBoxWidest_k30) FnExactBoxWidest_k31)
theorem FnExactBoxWidest_over : Rows.fnExactBoxWidestRow.holds Try.pinned (OpenSpec.ofChange Rows.fnExactBoxWidestSpec) :=
  OpenClaim.holds_of_wide 7 Try.f7 rfl rfl rfl rfl rfl rfl rfl ⟨rfl, rfl, rfl, rfl, rfl⟩ rfl rfl rfl rfl rfl (by kernel_rfl) Try.func7 FnExactBoxWidest_closed
    (of_decide_eq_true (by kernel_rfl)) (by unfold Func.isWrapper; first | (rw [if_pos (by decide +kernel)]; kernel_rfl) | (rw [if_neg (by decide +kernel)]; exact ⟨rfl, rfl⟩))
    (fun os started H enc _ => FnExactBoxWidest_lifted os started H enc)

theorem FnExactBoxWidest_proved : Rows.FnExactBoxWidestSaid := FnExactBoxWidest_over
end Go.Proofs.Ytmeijbiohbpgpaa
