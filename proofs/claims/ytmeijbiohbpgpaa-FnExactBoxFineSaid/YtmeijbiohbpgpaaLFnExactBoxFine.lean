/- The program's BoxFine answers as the specification's BoxFine at every argument; nothing that was there is written. No condition. -/
import Derived.Test.YtmeijbiohbpgpaaRows
import Derived.WalkKit
import Derived.ProofKit
import Derived.OpenShut
import Derived.Below
import Derived.Carry
import Derived.Test.YtmeijbiohbpgpaaO1
import Derived.Test.YtmeijbiohbpgpaaB4
import Derived.Test.YtmeijbiohbpgpaaB6
import Derived.Test.YtmeijbiohbpgpaaJ0
import Derived.Test.YtmeijbiohbpgpaaJ1
import Derived.Test.YtmeijbiohbpgpaaJ4
import Derived.Test.YtmeijbiohbpgpaaJ5
import Derived.Test.YtmeijbiohbpgpaaJ6
namespace Go.Proofs.Ytmeijbiohbpgpaa
open Go.ChangeShapes Go.WideShapes Go.ChangeAt Go.RowKit
set_option linter.unusedVariables false

theorem FnExactBoxFine_own : ownKnob Try.prog.godebug = none := by kernel_rfl

set_option maxRecDepth 100000 in
set_option maxHeartbeats 4000000 in
theorem FnExactBoxFine_walk (a0 : Int) (wa0 : -9223372036854775808 ≤ a0 ∧ a0 ≤ 9223372036854775807) (a1 : Option Addr) (len1 cap1 : Nat) (ps1 : List (Int × Int)) (a2 : Int) (wa2 : -9223372036854775808 ≤ a2 ∧ a2 ≤ 9223372036854775807) (w : World) (wb1 : InRow w a1 len1 cap1 ps1):
    Calls Try.prog 6 #[.int .i64 a0, .agg #[.slice a1 len1 cap1], .int .i64 a2] w fun e w' => e = .returned (.bool true) ∧ Below w.heap.size w w' := by
  obtain rfl := wb1.1
  have hlen1 : ps1.length ≤ maxLen := Nat.le_trans wb1.2.1 wb1.2.2.1
  have SZ := hd (lSzBox a1 ps1.length cap1 1048576 hlen1 (by omega) (by omega))
  by_cases c : (ps1.length : Int) ≤ 1048576
  case neg =>
    rw [if_neg c] at SZ
    go_enter Try.func6, Try.ntmps6
    go_wp2_with (go_at_call 15; refine (SZ.out _).mono ?_; rintro e w1 ⟨rfl, hb1⟩)
    go_ret
    exact ⟨rfl, (by repeat (first | exact Below.refl _ _ | refine Below.drew ?_ | refine old_alloc ?_ _ | refine old_trans ?_ (by assumption)))⟩
  rw [if_pos c] at SZ
  have hl1 : ps1.length ≤ 1048576 := by omega
  have S := hd (fun a len cap w (h : InRow w a len cap ps1) => sBoxFine a0 a2 wa2 a len cap ps1 w h)
  have I := hd (fun a len cap w (h : InRow w a len cap ps1) => iBoxFine a0 a2 wa2 a len cap ps1 w h)
  generalize fineRow a0 ps1 a2 = r at *
  have K : Cel1 (w.alloc (.cells #[.slice a1 ps1.length cap1] 24)) w.heap.size (.slice a1 ps1.length cap1) := Cel1.made w _ rfl _ _
  have R := wb1.alloc (.cells #[.slice a1 ps1.length cap1] 24)
  have c' : ¬ (1048576 - (ps1.length : Int) < 0) := by omega
  clear c
  go_enter Try.func6, Try.ntmps6
  go_wp2_with fail
  refine (SZ.out _).mono ?_
  rintro e w1 ⟨rfl, hb1⟩
  replace K := (by with_reducible first | exact K.later hb1 | exact (K.alloc _).later hb1 | exact K.drew.later hb1 : Cel1 w1 _ _)
  replace R := (by with_reducible first | exact R.old hb1 | exact (R.alloc _).old hb1 | exact R.drew.old hb1 : InRow w1 _ _ _ _)
  have K0 := K.1
  have K2 := K.2.2
  go_wp2_with fail
  refine (toBoxI a1 cap1 ps1 _ (by with_reducible first | exact R | exact R.alloc _ | exact R.drew) hl1).mono ?_
  rintro e w2 ⟨⟨bR2, rfl, -, R2⟩, hb2⟩
  clear K0 K2
  replace K := (by with_reducible first | exact K.later hb2 | exact (K.alloc _).later hb2 | exact K.drew.later hb2 : Cel1 w2 _ _)
  replace R := (by with_reducible first | exact R.old hb2 | exact (R.alloc _).old hb2 | exact R.drew.old hb2 : InRow w2 _ _ _ _)
  have K0 := K.1
  have K2 := K.2.2
  go_wp2_with fail
  refine (S.out _ _ _ _ (by with_reducible first | exact R2 | exact R2.alloc _ | exact R2.drew)).mono ?_
  rintro e w3 ⟨rfl, hb3⟩
  clear K0 K2
  replace K := (by with_reducible first | exact K.later hb3 | exact (K.alloc _).later hb3 | exact K.drew.later hb3 : Cel1 w3 _ _)
  replace R := (by with_reducible first | exact R.old hb3 | exact (R.alloc _).old hb3 | exact R.drew.old hb3 : InRow w3 _ _ _ _)
  clear R2
  have K0 := K.1
  have K2 := K.2.2
  go_wp2_with fail
  refine (toBoxI a1 cap1 ps1 _ (by with_reducible first | exact R | exact R.alloc _ | exact R.drew) hl1).mono ?_
  rintro e w4 ⟨⟨bR4, rfl, -, R4⟩, hb4⟩
  clear K0 K2
  replace K := (by with_reducible first | exact K.later hb4 | exact (K.alloc _).later hb4 | exact K.drew.later hb4 : Cel1 w4 _ _)
  replace R := (by with_reducible first | exact R.old hb4 | exact (R.alloc _).old hb4 | exact R.drew.old hb4 : InRow w4 _ _ _ _)
  have K0 := K.1
  have K2 := K.2.2
  go_wp2_with fail
  refine (I.out _ _ _ _ (by with_reducible first | exact R4 | exact R4.alloc _ | exact R4.drew)).mono ?_
  rintro e w5 ⟨rfl, hb5⟩
  clear K0 K2
  replace K := (by with_reducible first | exact K.later hb5 | exact (K.alloc _).later hb5 | exact K.drew.later hb5 : Cel1 w5 _ _)
  have X := (Cel1.made _ _ rfl (.slice (some ⟨bR4, 0, none⟩) ps1.length ps1.length) 29).later hb5
  replace R := (by with_reducible first | exact R.old hb5 | exact (R.alloc _).old hb5 | exact R.drew.old hb5 : InRow w5 _ _ _ _)
  replace R4 := (by with_reducible first | exact R4.old hb5 | exact (R4.alloc _).old hb5 | exact R4.drew.old hb5 : InRow w5 _ _ _ _)
  have K0 := K.1
  have K2 := K.2.2
  have X0 := X.1
  have X2 := X.2.2
  go_wp2_with fail
  go_region_with (first | (go_at_call 17; refine (toBoxI a1 cap1 ps1 _ (by with_reducible first | exact R | exact R.alloc _ | exact R.drew) hl1).mono ?_; rintro e wx ⟨⟨bx, rfl, -, Rx⟩, hbx⟩; have K := (by with_reducible first | exact K.later hbx | exact (K.alloc _).later hbx | exact K.drew.later hbx : Cel1 wx _ _); have K0 := K.1; have K2 := K.2.2; have X := (by with_reducible first | exact X.later hbx | exact (X.alloc _).later hbx | exact X.drew.later hbx : Cel1 wx _ _); have X0 := X.1; have X2 := X.2.2; have R4 := (by with_reducible first | exact R4.old hbx | exact (R4.alloc _).old hbx | exact R4.drew.old hbx : InRow wx _ _ _ _)) | (go_at_call 19; refine (lEqBox _ _ _ _ _ ps1 _ (by with_reducible first | exact R4 | exact R4.alloc _ | exact R4.drew) (by with_reducible first | exact Rx | exact Rx.alloc _ | exact Rx.drew)).mono ?_; rintro e wy ⟨rfl, hby⟩))
  all_goals
    go_wp2
    go_ret
    exact ⟨rfl, (by repeat (first | exact Below.refl _ _ | refine Below.drew ?_ | refine old_alloc ?_ _ | refine old_trans ?_ (by assumption)))⟩

set_option maxRecDepth 100000 in
theorem FnExactBoxFine_lifted (os : Os) (started : os.Started) (H : Type) (enc : TypeId × Value → H) :
    ReturnsInHanded {} Try.checked os 6 .any (Rows.fnExactBoxFineSpec.pre6 enc Try.prog Try.f6 Rows.fnExactBoxFineRow.domain false) (Rows.fnExactBoxFineSpec.post enc Try.prog Try.f6 false true false false) := by
  refine returnsInHanded_of_change (C := Try.checked) FnExactBoxFine_own started (by kernel_rfl) Try.func6
    (ChangeSpec.witness6 (enc := enc) (C := Try.checked) false ⟨#[], #[.int .i64 0, .agg #[.slice none 0 0], .int .i64 0], []⟩ 8 (by kernel_rfl) (by kernel_rfl) (by kernel_rfl) (by kernel_rfl)) ?_
  intro W base args ds gs before hval0 hW hcnd _
  have hval : ∀ (j : Nat) t v, Try.f6.params[j]? = some t → args[j]? = some v → Value.okWide Try.prog W .any base t v := hval0
  have hW' := hW
  obtain ⟨p, q, hA0, hV, rfl, hfz, hnd⟩ := hW
  have hA : DataW.TrodAll enc Try.prog W 0 (fun _ => true) true Try.f6.params.toList args.toList ds p := hA0
  rw [Try.params6] at hA hval
  obtain ⟨v0, vs0, d0, ds0, p0, q0, hargs, rfl, rfl, h0, r0⟩ := trodAll_cons hA
  obtain ⟨v1, vs1, d1, ds1, p1, q1, rfl, rfl, rfl, h1, r1⟩ := trodAll_cons r0
  obtain ⟨v2, vs2, d2, ds2, p2, q2, rfl, rfl, rfl, h2, r2⟩ := trodAll_cons r1
  obtain ⟨rfl, rfl, rfl⟩ := trodAll_nil r2
  obtain rfl : args = #[v0, v1, v2] := by cases args; simp_all
  obtain ⟨rfl, rfl⟩ := trodVars_none hV
  have k0 := h0
  have lt0 : ∀ x ∈ p0, x.block < W.heap.size := by obtain ⟨m, hm⟩ := k0; exact DataW.trod_lt m _ _ _ hm
  obtain ⟨a0, rfl, -, -, wf0⟩ := open_int Try.underlying3 (hval 0 3 v0 rfl rfl) h0
  have wa0 := bounds_i64 wf0
  have k1 := h1
  have lt1 : ∀ x ∈ p1, x.block < W.heap.size := by obtain ⟨m, hm⟩ := k1; exact DataW.trod_lt m _ _ _ hm
  obtain ⟨a1, len1, cap1, ps1, rfl, wb1⟩ := open_lbox (hval 1 24 v1 rfl rfl) h1
  have k2 := h2
  have lt2 : ∀ x ∈ p2, x.block < W.heap.size := by obtain ⟨m, hm⟩ := k2; exact DataW.trod_lt m _ _ _ hm
  obtain ⟨a2, rfl, -, -, wf2⟩ := open_int Try.underlying3 (hval 2 3 v2 rfl rfl) h2
  have wa2 := bounds_i64 wf2
  clear hA0 hval0
  refine (FnExactBoxFine_walk a0 wa0 a1 len1 cap1 ps1 a2 wa2 W wb1).mono fun e W' ⟨he, bel⟩ => ?_
  subst he
  exact ⟨_, rfl, _, _, _, [], _, [], hW', trodAll_mk1 (shut_bool Try.underlying4 _), (trodAll_cons_mk (Below.trod jf1 (by kernel_rfl) (of_decide_eq_true (by kernel_rfl)) k0 bel lt0) (trodAll_cons_mk (Below.trod jf1 (by kernel_rfl) (of_decide_eq_true (by kernel_rfl)) k1 bel lt1) (trodAll_cons_mk (Below.trod jf1 (by kernel_rfl) (of_decide_eq_true (by kernel_rfl)) k2 bel lt2) trodAll_mk0))), rfl, bel.frame _, fun h => by cases h⟩

theorem FnExactBoxFine_k0 : (Rows.fnExactBoxFineRow.wf (OpenSpec.ofChange Rows.fnExactBoxFineSpec)) = true := by kernel_rfl
theorem FnExactBoxFine_k3 : (Try.f6.params.all (Try.prog.readableRec ·)) = true := by kernel_rfl
theorem FnExactBoxFine_k4 : (namedTie Try.prog Rows.fnExactBoxFineRow.named Rows.fnExactBoxFineSpec.vars) = true := by kernel_rfl
theorem FnExactBoxFine_k5 : ((Rows.fnExactBoxFineRow.stops == [])) = true := by kernel_rfl
theorem FnExactBoxFine_k7 : ((Rows.fnExactBoxFineRow.knobs == [])) = true := by kernel_rfl
theorem FnExactBoxFine_k9 : ((Rows.fnExactBoxFineRow.inPlace == Try.prog.inPlace 6)) = true := by kernel_rfl
theorem FnExactBoxFine_k10 : ((Rows.fnExactBoxFineRow.unfollowed == Try.prog.unfollowed 6)) = true := by kernel_rfl
theorem FnExactBoxFine_k11 : ((Rows.fnExactBoxFineRow.recurses == Try.prog.recurses 6)) = true := by kernel_rfl
theorem FnExactBoxFine_k12 : ((Rows.fnExactBoxFineRow.named == Try.prog.varsNamed 6)) = true := by kernel_rfl
theorem FnExactBoxFine_k13 : ((Rows.fnExactBoxFineRow.maps == (Try.f6.params.toList ++ Rows.fnExactBoxFineSpec.plain.varTypes Try.prog).any (Try.prog.mapsRec ·))) = true := by kernel_rfl
theorem FnExactBoxFine_k14 : ((Rows.fnExactBoxFineRow.ifaces == (Try.f6.params.toList ++ Rows.fnExactBoxFineSpec.plain.varTypes Try.prog).any (Try.prog.ifacesRec ·))) = true := by kernel_rfl
theorem FnExactBoxFine_k15 : ((Rows.fnExactBoxFineRow.mapsOut == Try.prog.mapsAmong Try.f6.resultTypes.toList)) = true := by kernel_rfl
theorem FnExactBoxFine_k16 : ((Rows.fnExactBoxFineRow.loops == (Try.f6.params.toList ++ Rows.fnExactBoxFineSpec.plain.varTypes Try.prog).any (Try.prog.loopsFrom ·))) = true := by kernel_rfl
theorem FnExactBoxFine_k17 : ((Rows.fnExactBoxFineRow.wideKeys == (Try.f6.params.toList ++ Rows.fnExactBoxFineSpec.plain.varTypes Try.prog ++ Try.f6.resultTypes.toList).any (Try.prog.wideKeysFrom ·))) = true := by kernel_rfl
theorem FnExactBoxFine_k18 : (Rows.fnExactBoxFineSpec.vars.all (Try.prog.varReadable ·)) = true := by kernel_rfl
theorem FnExactBoxFine_k19 : (Try.f6.resultTypes.all (fun t => Try.prog.readableRec t && decide (t < Try.prog.types.size))) = true := by kernel_rfl
theorem FnExactBoxFine_k20 : ((Rows.fnExactBoxFineRow.ifacesOut == Try.f6.resultTypes.toList.any (Try.prog.ifacesRec ·))) = true := by kernel_rfl
theorem FnExactBoxFine_k21 : ((Rows.fnExactBoxFineRow.loopsOut == Try.f6.resultTypes.toList.any (Try.prog.loopsFrom ·))) = true := by kernel_rfl
theorem FnExactBoxFine_k23 : (Rows.fnExactBoxFineRow.shortTexts.isNone) = true := by kernel_rfl
theorem FnExactBoxFine_k28 : ((Rows.fnExactBoxFineRow.kinds == (if Rows.fnExactBoxFineRow.domain.isEmpty then [] else Try.f6.params.toList.map fun t => match Try.prog.underlying t with | some (.int k) => some k | _ => none))) = true := by kernel_rfl
theorem FnExactBoxFine_k29 : ((Rows.fnExactBoxFineRow.pinned == Rows.fnExactBoxFineRow.pinnedBy)) = true := by kernel_rfl
theorem FnExactBoxFine_k30 : ((Rows.fnExactBoxFineRow.veiled == (Try.f6.params.toList ++ Rows.fnExactBoxFineSpec.plain.varTypes Try.prog ++ Try.f6.resultTypes.toList).any (Try.prog.veiledRec ·))) = true := by kernel_rfl
theorem FnExactBoxFine_k31 : (Rows.fnExactBoxFineRow.veiledFits Try.prog Try.f6.params.toList (Try.f6.params.toList ++ Rows.fnExactBoxFineSpec.plain.varTypes Try.prog ++ Try.f6.resultTypes.toList)) = true := by kernel_rfl
set_option maxRecDepth 100000 in
theorem FnExactBoxFine_closed : joinedFacts Try.prog 6 Try.f6 Rows.fnExactBoxFineSpec Rows.fnExactBoxFineRow = true := (and2 (and2 (and2 (and2 (and2 (and2 (and2 (and2 (and2 (and2 (and2 (and2 (and2 (and2 (and2 (and2 (and2 (and2 (and2 (and2 (and2 (and2 (and2 (and2 (and2 (and2 (and2 (and2 (and2 (and2 (and2 FnExactBoxFine_k0 jf1) jf2) FnExactBoxFine_k3) FnExactBoxFine_k4) FnExactBoxFine_k5) jf6) FnExactBoxFine_k7) jf8) FnExactBoxFine_k9) FnExactBoxFine_k10) FnExactBoxFine_k11) FnExactBoxFine_k12) FnExactBoxFine_k13) FnExactBoxFine_k14) FnExactBoxFine_k15) FnExactBoxFine_k16) FnExactBoxFine_k17) FnExactBoxFine_k18) FnExactBoxFine_k19) FnExactBoxFine_k20) FnExactBoxFine_k21) jf22) FnExactBoxFine_k23) jf24) jf25) jf26) jf27) FnExactBoxFine_k28) FnExactBoxFine_k29) FnExactBoxFine_k30) FnExactBoxFine_k31)
theorem FnExactBoxFine_over : Rows.fnExactBoxFineRow.holds Try.pinned (OpenSpec.ofChange Rows.fnExactBoxFineSpec) :=
  OpenClaim.holds_of_wide 6 Try.f6 rfl rfl rfl rfl rfl rfl rfl ⟨rfl, rfl, rfl, rfl, rfl⟩ rfl rfl rfl rfl rfl (by kernel_rfl) Try.func6 FnExactBoxFine_closed
    (of_decide_eq_true (by kernel_rfl)) (by unfold Func.isWrapper; first | (rw [if_pos (by decide +kernel)]; kernel_rfl) | (rw [if_neg (by decide +kernel)]; exact ⟨rfl, rfl⟩))
    (fun os started H enc _ => FnExactBoxFine_lifted os started H enc)

theorem FnExactBoxFine_proved : Rows.FnExactBoxFineSaid := FnExactBoxFine_over
end Go.Proofs.Ytmeijbiohbpgpaa
