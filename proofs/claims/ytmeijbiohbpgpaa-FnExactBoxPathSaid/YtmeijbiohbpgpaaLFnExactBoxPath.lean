/- The program's BoxPath answers as the specification's BoxPath at every argument; nothing that was there is written. No condition. -/
import Derived.Test.YtmeijbiohbpgpaaRows
import Derived.WalkKit
import Derived.ProofKit
import Derived.OpenShut
import Derived.Below
import Derived.Carry
import Derived.Test.YtmeijbiohbpgpaaO1
import Derived.Test.YtmeijbiohbpgpaaB4
import Derived.Test.YtmeijbiohbpgpaaB9
import Derived.Test.YtmeijbiohbpgpaaJ0
import Derived.Test.YtmeijbiohbpgpaaJ1
import Derived.Test.YtmeijbiohbpgpaaJ4
import Derived.Test.YtmeijbiohbpgpaaJ5
import Derived.Test.YtmeijbiohbpgpaaJ6
namespace Go.Proofs.Ytmeijbiohbpgpaa
open Go.ChangeShapes Go.WideShapes Go.ChangeAt Go.RowKit
set_option linter.unusedVariables false

theorem FnExactBoxPath_own : ownKnob Try.prog.godebug = none := by kernel_rfl

set_option maxRecDepth 100000 in
set_option maxHeartbeats 4000000 in
theorem FnExactBoxPath_walk (a0 : Int) (wa0 : -9223372036854775808 ≤ a0 ∧ a0 ≤ 9223372036854775807) (a1 : Option Addr) (len1 cap1 : Nat) (ps1 : List (Int × Int)) (w : World) (wb1 : InRow w a1 len1 cap1 ps1):
    Calls Try.prog 12 #[.int .i64 a0, .agg #[.slice a1 len1 cap1]] w fun e w' => e = .returned (.bool true) ∧ Below w.heap.size w w' := by
  obtain rfl := wb1.1
  have hlen1 : ps1.length ≤ maxLen := Nat.le_trans wb1.2.1 wb1.2.2.1
  have SZ := hd (lSzBox a1 ps1.length cap1 1048576 hlen1 (by omega) (by omega))
  by_cases c : (ps1.length : Int) ≤ 1048576
  case neg =>
    rw [if_neg c] at SZ
    go_enter Try.func12, Try.ntmps12
    go_wp2_with (go_at_call 15; refine (SZ.out _).mono ?_; rintro e w1 ⟨rfl, hb1⟩)
    go_ret
    exact ⟨rfl, (by repeat (first | exact Below.refl _ _ | refine Below.drew ?_ | refine old_alloc ?_ _ | refine old_trans ?_ (by assumption)))⟩
  rw [if_pos c] at SZ
  have hl1 : ps1.length ≤ 1048576 := by omega
  have S := hd (fun a len cap w (h : InRow w a len cap ps1) => sBoxPath a0 a len cap ps1 w h)
  have I := hd (fun a len cap w (h : InRow w a len cap ps1) => iBoxPath a0 a len cap ps1 w h)
  generalize pathRow a0 ps1 = r at *
  have K : Cel1 (w.alloc (.cells #[.slice a1 ps1.length cap1] 24)) w.heap.size (.slice a1 ps1.length cap1) := Cel1.made w _ rfl _ _
  have R := wb1.alloc (.cells #[.slice a1 ps1.length cap1] 24)
  have c' : ¬ (1048576 - (ps1.length : Int) < 0) := by omega
  clear c
  go_enter Try.func12, Try.ntmps12
  go_wp2_with fail
  refine (SZ.out _).mono ?_
  rintro e w1 ⟨rfl, hb1⟩
  replace K := (by with_reducible first | exact K.later hb1 | exact (K.alloc _).later hb1 | exact K.drew.later hb1 : Cel1 w1 _ _)
  replace R := (by with_reducible first | exact R.old hb1 | exact (R.alloc _).old hb1 | exact R.drew.old hb1 : InRow w1 _ _ _ _)
  have K0 := K.1
  have K2 := K.2.2
  go_wp2_with fail
  refine (toBoxI a1 cap1 ps1 _ (by with_reducible first | exact R | exact R.alloc _ | exact R.drew) hl1).mono ?_
  rintro e w2 ⟨⟨bR2, rfl, -, R2⟩, hb2⟩
  clear K0 K2
  replace K := (by with_reducible first | exact K.later hb2 | exact (K.alloc _).later hb2 | exact K.drew.later hb2 : Cel1 w2 _ _)
  replace R := (by with_reducible first | exact R.old hb2 | exact (R.alloc _).old hb2 | exact R.drew.old hb2 : InRow w2 _ _ _ _)
  have K0 := K.1
  have K2 := K.2.2
  go_wp2_with fail
  refine (S.out _ _ _ _ (by with_reducible first | exact R2 | exact R2.alloc _ | exact R2.drew)).mono ?_
  rintro e w3 ⟨rfl, hb3⟩
  clear K0 K2
  replace K := (by with_reducible first | exact K.later hb3 | exact (K.alloc _).later hb3 | exact K.drew.later hb3 : Cel1 w3 _ _)
  replace R := (by with_reducible first | exact R.old hb3 | exact (R.alloc _).old hb3 | exact R.drew.old hb3 : InRow w3 _ _ _ _)
  clear R2
  have K0 := K.1
  have K2 := K.2.2
  go_wp2_with fail
  refine (toBoxI a1 cap1 ps1 _ (by with_reducible first | exact R | exact R.alloc _ | exact R.drew) hl1).mono ?_
  rintro e w4 ⟨⟨bR4, rfl, -, R4⟩, hb4⟩
  clear K0 K2
  replace K := (by with_reducible first | exact K.later hb4 | exact (K.alloc _).later hb4 | exact K.drew.later hb4 : Cel1 w4 _ _)
  replace R := (by with_reducible first | exact R.old hb4 | exact (R.alloc _).old hb4 | exact R.drew.old hb4 : InRow w4 _ _ _ _)
  have K0 := K.1
  have K2 := K.2.2
  go_wp2_with fail
  refine (I.out _ _ _ _ (by with_reducible first | exact R4 | exact R4.alloc _ | exact R4.drew)).mono ?_
  rintro e w5 ⟨rfl, hb5⟩
  clear K0 K2
  replace K := (by with_reducible first | exact K.later hb5 | exact (K.alloc _).later hb5 | exact K.drew.later hb5 : Cel1 w5 _ _)
  have X := (Cel1.made _ _ rfl (.slice (some ⟨bR4, 0, none⟩) ps1.length ps1.length) 29).later hb5
  replace R := (by with_reducible first | exact R.old hb5 | exact (R.alloc _).old hb5 | exact R.drew.old hb5 : InRow w5 _ _ _ _)
  replace R4 := (by with_reducible first | exact R4.old hb5 | exact (R4.alloc _).old hb5 | exact R4.drew.old hb5 : InRow w5 _ _ _ _)
  have K0 := K.1
  have K2 := K.2.2
  have X0 := X.1
  have X2 := X.2.2
  go_wp2_with fail
  go_region_with (first | (go_at_call 17; refine (toBoxI a1 cap1 ps1 _ (by with_reducible first | exact R | exact R.alloc _ | exact R.drew) hl1).mono ?_; rintro e wx ⟨⟨bx, rfl, -, Rx⟩, hbx⟩; have K := (by with_reducible first | exact K.later hbx | exact (K.alloc _).later hbx | exact K.drew.later hbx : Cel1 wx _ _); have K0 := K.1; have K2 := K.2.2; have X := (by with_reducible first | exact X.later hbx | exact (X.alloc _).later hbx | exact X.drew.later hbx : Cel1 wx _ _); have X0 := X.1; have X2 := X.2.2; have R4 := (by with_reducible first | exact R4.old hbx | exact (R4.alloc _).old hbx | exact R4.drew.old hbx : InRow wx _ _ _ _)) | (go_at_call 19; refine (lEqBox _ _ _ _ _ ps1 _ (by with_reducible first | exact R4 | exact R4.alloc _ | exact R4.drew) (by with_reducible first | exact Rx | exact Rx.alloc _ | exact Rx.drew)).mono ?_; rintro e wy ⟨rfl, hby⟩))
  all_goals
    go_wp2
    go_ret
    exact ⟨rfl, (by repeat (first | exact Below.refl _ _ | refine Below.drew ?_ | refine old_alloc ?_ _ | refine old_trans ?_ (by assumption)))⟩

set_option maxRecDepth 100000 in
theorem FnExactBoxPath_lifted (os : Os) (started : os.Started) (H : Type) (enc : TypeId × Value → H) :
    ReturnsInHanded {} Try.checked os 12 .any (Rows.fnExactBoxPathSpec.pre6 enc Try.prog Try.f12 Rows.fnExactBoxPathRow.domain false) (Rows.fnExactBoxPathSpec.post enc Try.prog Try.f12 false true false false) := by
  refine returnsInHanded_of_change (C := Try.checked) FnExactBoxPath_own started (by kernel_rfl) Try.func12
    (ChangeSpec.witness6 (enc := enc) (C := Try.checked) false ⟨#[], #[.int .i64 0, .agg #[.slice none 0 0]], []⟩ 8 (by kernel_rfl) (by kernel_rfl) (by kernel_rfl) (by kernel_rfl)) ?_
  intro W base args ds gs before hval0 hW hcnd _
  have hval : ∀ (j : Nat) t v, Try.f12.params[j]? = some t → args[j]? = some v → Value.okWide Try.prog W .any base t v := hval0
  have hW' := hW
  obtain ⟨p, q, hA0, hV, rfl, hfz, hnd⟩ := hW
  have hA : DataW.TrodAll enc Try.prog W 0 (fun _ => true) true Try.f12.params.toList args.toList ds p := hA0
  rw [Try.params12] at hA hval
  obtain ⟨v0, vs0, d0, ds0, p0, q0, hargs, rfl, rfl, h0, r0⟩ := trodAll_cons hA
  obtain ⟨v1, vs1, d1, ds1, p1, q1, rfl, rfl, rfl, h1, r1⟩ := trodAll_cons r0
  obtain ⟨rfl, rfl, rfl⟩ := trodAll_nil r1
  obtain rfl : args = #[v0, v1] := by cases args; simp_all
  obtain ⟨rfl, rfl⟩ := trodVars_none hV
  have k0 := h0
  have lt0 : ∀ x ∈ p0, x.block < W.heap.size := by obtain ⟨m, hm⟩ := k0; exact DataW.trod_lt m _ _ _ hm
  obtain ⟨a0, rfl, -, -, wf0⟩ := open_int Try.underlying3 (hval 0 3 v0 rfl rfl) h0
  have wa0 := bounds_i64 wf0
  have k1 := h1
  have lt1 : ∀ x ∈ p1, x.block < W.heap.size := by obtain ⟨m, hm⟩ := k1; exact DataW.trod_lt m _ _ _ hm
  obtain ⟨a1, len1, cap1, ps1, rfl, wb1⟩ := open_lbox (hval 1 24 v1 rfl rfl) h1
  clear hA0 hval0
  refine (FnExactBoxPath_walk a0 wa0 a1 len1 cap1 ps1 W wb1).mono fun e W' ⟨he, bel⟩ => ?_
  subst he
  exact ⟨_, rfl, _, _, _, [], _, [], hW', trodAll_mk1 (shut_bool Try.underlying4 _), (trodAll_cons_mk (Below.trod jf1 (by kernel_rfl) (of_decide_eq_true (by kernel_rfl)) k0 bel lt0) (trodAll_cons_mk (Below.trod jf1 (by kernel_rfl) (of_decide_eq_true (by kernel_rfl)) k1 bel lt1) trodAll_mk0)), rfl, bel.frame _, fun h => by cases h⟩

theorem FnExactBoxPath_k0 : (Rows.fnExactBoxPathRow.wf (OpenSpec.ofChange Rows.fnExactBoxPathSpec)) = true := by kernel_rfl
theorem FnExactBoxPath_k3 : (Try.f12.params.all (Try.prog.readableRec ·)) = true := by kernel_rfl
theorem FnExactBoxPath_k4 : (namedTie Try.prog Rows.fnExactBoxPathRow.named Rows.fnExactBoxPathSpec.vars) = true := by kernel_rfl
theorem FnExactBoxPath_k5 : ((Rows.fnExactBoxPathRow.stops == [])) = true := by kernel_rfl
theorem FnExactBoxPath_k7 : ((Rows.fnExactBoxPathRow.knobs == [])) = true := by kernel_rfl
theorem FnExactBoxPath_k9 : ((Rows.fnExactBoxPathRow.inPlace == Try.prog.inPlace 12)) = true := by kernel_rfl
theorem FnExactBoxPath_k10 : ((Rows.fnExactBoxPathRow.unfollowed == Try.prog.unfollowed 12)) = true := by kernel_rfl
theorem FnExactBoxPath_k11 : ((Rows.fnExactBoxPathRow.recurses == Try.prog.recurses 12)) = true := by kernel_rfl
theorem FnExactBoxPath_k12 : ((Rows.fnExactBoxPathRow.named == Try.prog.varsNamed 12)) = true := by kernel_rfl
theorem FnExactBoxPath_k13 : ((Rows.fnExactBoxPathRow.maps == (Try.f12.params.toList ++ Rows.fnExactBoxPathSpec.plain.varTypes Try.prog).any (Try.prog.mapsRec ·))) = true := by kernel_rfl
theorem FnExactBoxPath_k14 : ((Rows.fnExactBoxPathRow.ifaces == (Try.f12.params.toList ++ Rows.fnExactBoxPathSpec.plain.varTypes Try.prog).any (Try.prog.ifacesRec ·))) = true := by kernel_rfl
theorem FnExactBoxPath_k15 : ((Rows.fnExactBoxPathRow.mapsOut == Try.prog.mapsAmong Try.f12.resultTypes.toList)) = true := by kernel_rfl
theorem FnExactBoxPath_k16 : ((Rows.fnExactBoxPathRow.loops == (Try.f12.params.toList ++ Rows.fnExactBoxPathSpec.plain.varTypes Try.prog).any (Try.prog.loopsFrom ·))) = true := by kernel_rfl
theorem FnExactBoxPath_k17 : ((Rows.fnExactBoxPathRow.wideKeys == (Try.f12.params.toList ++ Rows.fnExactBoxPathSpec.plain.varTypes Try.prog ++ Try.f12.resultTypes.toList).any (Try.prog.wideKeysFrom ·))) = true := by kernel_rfl
theorem FnExactBoxPath_k18 : (Rows.fnExactBoxPathSpec.vars.all (Try.prog.varReadable ·)) = true := by kernel_rfl
theorem FnExactBoxPath_k19 : (Try.f12.resultTypes.all (fun t => Try.prog.readableRec t && decide (t < Try.prog.types.size))) = true := by kernel_rfl
theorem FnExactBoxPath_k20 : ((Rows.fnExactBoxPathRow.ifacesOut == Try.f12.resultTypes.toList.any (Try.prog.ifacesRec ·))) = true := by kernel_rfl
theorem FnExactBoxPath_k21 : ((Rows.fnExactBoxPathRow.loopsOut == Try.f12.resultTypes.toList.any (Try.prog.loopsFrom ·))) = true := by kernel_rfl
theorem FnExactBoxPath_k23 : (Rows.fnExactBoxPathRow.shortTexts.isNone) = true := by kernel_rfl
theorem FnExactBoxPath_k28 : ((Rows.fnExactBoxPathRow.kinds == (if Rows.fnExactBoxPathRow.domain.isEmpty then [] else Try.f12.params.toList.map fun t => match Try.prog.underlying t with | some (.int k) => some k | _ => none))) = true := by kernel_rfl
theorem FnExactBoxPath_k29 : ((Rows.fnExactBoxPathRow.pinned == Rows.fnExactBoxPathRow.pinnedBy)) = true := by kernel_rfl
theorem FnExactBoxPath_k30 : ((Rows.fnExactBoxPathRow.veiled == (Try.f12.params.toList ++ Rows.fnExactBoxPathSpec.plain.varTypes Try.prog ++ Try.f12.resultTypes.toList).any (Try.prog.veiledRec ·))) = true := by kernel_rfl
theorem FnExactBoxPath_k31 : (Rows.fnExactBoxPathRow.veiledFits Try.prog Try.f12.params.toList (Try.f12.params.toList ++ Rows.fnExactBoxPathSpec.plain.varTypes Try.prog ++ Try.f12.resultTypes.toList)) = true := by kernel_rfl
set_option maxRecDepth 100000 in
theorem FnExactBoxPath_closed : joinedFacts Try.prog 12 Try.f12 Rows.fnExactBoxPathSpec Rows.fnExactBoxPathRow = true := (and2 (and2 (and2 (and2 (and2 (and2 (and2 (and2 (and2 (and2 (and2 (and2 (and2 (and2 (and2 (and2 (and2 (and2 (and2 (and2 (and2 (and2 (and2 (and2 (and2 (and2 (and2 (and2 (and2 (and2 (and2 FnExactBoxPath_k0 jf1) jf2) FnExactBoxPath_k3) FnExactBoxPath_k4) FnExactBoxPath_k5) jf6) FnExactBoxPath_k7) jf8) FnExactBoxPath_k9) FnExactBoxPath_k10) FnExactBoxPath_k11) FnExactBoxPath_k12) FnExactBoxPath_k13) FnExactBoxPath_k14) FnExactBoxPath_k15) FnExactBoxPath_k16) FnExactBoxPath_k17) FnExactBoxPath_k18) FnExactBoxPath_k19) FnExactBoxPath_k20) FnExactBoxPath_k21) jf22) FnExactBoxPath_k23) jf24) jf25) jf26) jf27) FnExactBoxPath_k28) FnExactBoxPath_k29) FnExactBoxPath_k30) FnExactBoxPath_k31)
theorem FnExactBoxPath_over : Rows.fnExactBoxPathRow.holds Try.pinned (OpenSpec.ofChange Rows.fnExactBoxPathSpec) :=
  OpenClaim.holds_of_wide 12 Try.f12 rfl rfl rfl rfl rfl rfl rfl ⟨rfl, rfl, rfl, rfl, rfl⟩ rfl rfl rfl rfl rfl (by kernel_rfl) Try.func12 FnExactBoxPath_closed
    (of_decide_eq_true (by kernel_rfl)) (by unfold Func.isWrapper; first | (rw [if_pos (by decide +kernel)]; kernel_rfl) | (rw [if_neg (by decide +kernel)]; exact ⟨rfl, rfl⟩))
    (fun os started H enc _ => FnExactBoxPath_lifted os started H enc)

theorem FnExactBoxPath_proved : Rows.FnExactBoxPathSaid := FnExactBoxPath_over
end Go.Proofs.Ytmeijbiohbpgpaa
