/- The program's TermDepth answers as the specification's TermDepth at every term; it writes into no argument. No condition. -/
import Derived.Test.YtcoamadpigohjaaRows
import Derived.WalkKit
import Derived.ProofKit
import Derived.OpenShut
import Derived.Below
import Derived.Carry
import Derived.Test.YtcoamadpigohjaaN0
import Derived.Test.YtcoamadpigohjaaZV
import Derived.Test.YtcoamadpigohjaaYD
import Derived.Test.YtcoamadpigohjaaYI
import Derived.Test.YtcoamadpigohjaaBJ
namespace Go.Proofs.Ytcoamadpigohjaa
open Go.ChangeShapes Go.WideShapes Go.ChangeAt Go.RowKit
set_option linter.unusedVariables false

theorem FnExactTermDepth_own : ownKnob Try.prog.godebug = none := by kernel_rfl

set_option maxRecDepth 100000 in
set_option maxHeartbeats 4000000 in
theorem FnExactTermDepth_walk (a0 : Option Addr) (len0 cap0 : Nat) (xs0 : List Tn) (w : World) (wb0 : InN w a0 len0 cap0 xs0):
    Calls Try.prog 3 #[.agg #[.slice a0 len0 cap0]] w fun e w' => e = .returned (.bool true) ∧ Below w.heap.size w w' := by
  obtain rfl := wb0.1
  have K : CS (w.alloc (.cells #[.slice a0 xs0.length cap0] 24)) w.heap.size [.slice a0 xs0.length cap0] := CS.made w _ rfl #[_] _
  have R := wb0.al (.cells #[.slice a0 xs0.length cap0] 24)
  have SZ := hd (lSzTerm a0 _ cap0 xs0 _ R)
  have S := hd (fun a len cap w (h : InN w a len cap xs0) => sTermDepth a len cap xs0 w h)
  have I := hd (fun a len cap w (h : InN w a len cap xs0) => iTermDepth a len cap xs0 w h)
  generalize depT xs0 = r at *
  go_enter Try.func3, Try.ntmps3
  go_wp2_with fail
  refine SZ.out.mono ?_
  rintro e w1 ⟨⟨l, rfl, hl⟩, hb1⟩
  clear SZ
  rcases hl with rfl | ⟨hl0, hl2, hl1⟩
  · go_wp2
    go_ret
    exact ⟨rfl, (by repeat (first | exact Below.refl _ _ | refine Below.drew ?_ | refine old_alloc ?_ _ | refine old_trans ?_ (by assumption)))⟩
  have hl0' : ¬ l < 0 := by omega
  clear hl0 hl2
  replace K := (by with_reducible first | exact K.later hb1 | exact (K.alloc _).later hb1 | exact K.drew.later hb1 : CS w1 _ [.slice a0 xs0.length cap0])
  replace R := (by with_reducible first | exact R.old hb1 | exact (R.al _).old hb1 | exact R.dr.old hb1 : InN w1 _ _ _ _)
  have K0 := K.cell 0 _ rfl
  have K2 := K.lt
  go_wp2_with fail
  refine (toTermI a0 cap0 xs0 _ (by with_reducible first | exact R | exact R.al _ | exact R.dr) hl1).mono ?_
  rintro e w2 ⟨⟨bR2, rfl, -, R2⟩, hb2⟩
  clear K0 K2
  replace K := (by with_reducible first | exact K.later hb2 | exact (K.alloc _).later hb2 | exact K.drew.later hb2 : CS w2 _ [.slice a0 xs0.length cap0])
  replace R := (by with_reducible first | exact R.old hb2 | exact (R.al _).old hb2 | exact R.dr.old hb2 : InN w2 _ _ _ _)
  have K0 := K.cell 0 _ rfl
  have K2 := K.lt
  go_wp2_with fail
  refine (S.out _ _ _ _ (by with_reducible first | exact R2 | exact R2.al _ | exact R2.dr)).mono ?_
  rintro e w3 ⟨rfl, hb3⟩
  clear K0 K2
  replace K := (by with_reducible first | exact K.later hb3 | exact (K.alloc _).later hb3 | exact K.drew.later hb3 : CS w3 _ [.slice a0 xs0.length cap0])
  replace R := (by with_reducible first | exact R.old hb3 | exact (R.al _).old hb3 | exact R.dr.old hb3 : InN w3 _ _ _ _)
  clear R2
  have K0 := K.cell 0 _ rfl
  have K2 := K.lt
  go_wp2_with fail
  refine (toTermI a0 cap0 xs0 _ (by with_reducible first | exact R | exact R.al _ | exact R.dr) hl1).mono ?_
  rintro e w4 ⟨⟨bR4, rfl, -, R4⟩, hb4⟩
  clear K0 K2
  replace K := (by with_reducible first | exact K.later hb4 | exact (K.alloc _).later hb4 | exact K.drew.later hb4 : CS w4 _ [.slice a0 xs0.length cap0])
  replace R := (by with_reducible first | exact R.old hb4 | exact (R.al _).old hb4 | exact R.dr.old hb4 : InN w4 _ _ _ _)
  have K0 := K.cell 0 _ rfl
  have K2 := K.lt
  go_wp2_with fail
  refine (I.out _ _ _ _ (by with_reducible first | exact R4 | exact R4.al _ | exact R4.dr)).mono ?_
  rintro e w5 ⟨rfl, hb5⟩
  have X : CS _ _ [_] := (CS.made _ _ rfl #[.slice (some ⟨bR4, 0, none⟩) xs0.length xs0.length] 29).later hb5
  replace R4 := (by with_reducible first | exact R4.old hb5 | exact (R4.al _).old hb5 | exact R4.dr.old hb5 : InN w5 _ _ _ _)
  clear K0 K2
  replace K := (by with_reducible first | exact K.later hb5 | exact (K.alloc _).later hb5 | exact K.drew.later hb5 : CS w5 _ [.slice a0 xs0.length cap0])
  replace R := (by with_reducible first | exact R.old hb5 | exact (R.al _).old hb5 | exact R.dr.old hb5 : InN w5 _ _ _ _)
  have K0 := K.cell 0 _ rfl
  have K2 := K.lt
  have X0 := X.cell 0 _ rfl
  have X2 := X.lt
  go_wp2_with fail
  go_region_with (first | (go_at_call 6; refine (toTermI a0 cap0 xs0 _ (by with_reducible first | exact R | exact R.al _ | exact R.dr) hl1).mono ?_; rintro e wx ⟨⟨bx, rfl, -, Rx⟩, hbx⟩; have K := (by with_reducible first | exact K.later hbx | exact (K.alloc _).later hbx | exact K.drew.later hbx : CS wx _ [.slice a0 xs0.length cap0]); have K0 := K.cell 0 _ rfl; have K2 := K.lt; have X := (by with_reducible first | exact X.later hbx | exact (X.alloc _).later hbx | exact X.drew.later hbx : CS wx _ [_]); have X0 := X.cell 0 _ rfl; have X2 := X.lt; have R4 := (by with_reducible first | exact R4.old hbx | exact (R4.al _).old hbx | exact R4.dr.old hbx : InN wx _ _ _ _)) | (go_at_call 8; refine (lEqTerm _ _ _ _ _ xs0 _ (by with_reducible first | exact R4 | exact R4.al _ | exact R4.dr) (by with_reducible first | exact Rx | exact Rx.al _ | exact Rx.dr)).mono ?_; rintro e wy ⟨rfl, hby⟩))
  all_goals
    go_wp2
    go_ret
    exact ⟨rfl, (by repeat (first | exact Below.refl _ _ | refine Below.drew ?_ | refine old_alloc ?_ _ | refine old_trans ?_ (by assumption)))⟩
set_option maxRecDepth 100000 in
theorem FnExactTermDepth_lifted (os : Os) (started : os.Started) (H : Type) (enc : TypeId × Value → H) :
    ReturnsInHanded {} Try.checked os 3 .any (Rows.fnExactTermDepthSpec.pre6 enc Try.prog Try.f3 Rows.fnExactTermDepthRow.domain false) (Rows.fnExactTermDepthSpec.post enc Try.prog Try.f3 false true false false) := by
  refine returnsInHanded_of_change (C := Try.checked) FnExactTermDepth_own started (by kernel_rfl) Try.func3
    (ChangeSpec.witness6 (enc := enc) (C := Try.checked) false ⟨#[], #[.agg #[.slice none 0 0]], []⟩ 8 (by kernel_rfl) (by kernel_rfl) (by kernel_rfl) (by kernel_rfl)) ?_
  intro W base args ds gs before hval0 hW hcnd _
  have hval : ∀ (j : Nat) t v, Try.f3.params[j]? = some t → args[j]? = some v → Value.okWide Try.prog W .any base t v := hval0
  have hW' := hW
  obtain ⟨p, q, hA0, hV, rfl, hfz, hnd⟩ := hW
  have hA : DataW.TrodAll enc Try.prog W 0 (fun _ => true) true Try.f3.params.toList args.toList ds p := hA0
  rw [Try.params3] at hA hval
  obtain ⟨v0, vs0, d0, ds0, p0, q0, hargs, rfl, rfl, h0, r0⟩ := trodAll_cons hA
  obtain ⟨rfl, rfl, rfl⟩ := trodAll_nil r0
  obtain rfl : args = #[v0] := by cases args; simp_all
  obtain ⟨rfl, rfl⟩ := trodVars_none hV
  have k0 := h0
  have lt0 : ∀ x ∈ p0, x.block < W.heap.size := by obtain ⟨m, hm⟩ := k0; exact DataW.trod_lt m _ _ _ hm
  obtain ⟨a0, len0, cap0, xs0, rfl, wb0⟩ := open_lterm (hval 0 24 v0 rfl rfl) h0
  clear hA0 hval0
  refine (FnExactTermDepth_walk a0 len0 cap0 xs0 W wb0).mono fun e W' ⟨he, bel⟩ => ?_
  subst he
  exact ⟨_, rfl, _, _, _, [], _, [], hW', trodAll_mk1 (shut_bool Try.underlying4 _), (trodAll_cons_mk (Below.trod jf1 (by kernel_rfl) (of_decide_eq_true (by kernel_rfl)) k0 bel lt0) trodAll_mk0), rfl, bel.frame _, fun h => by cases h⟩

theorem FnExactTermDepth_k0 : (Rows.fnExactTermDepthRow.wf (OpenSpec.ofChange Rows.fnExactTermDepthSpec)) = true := by kernel_rfl
theorem FnExactTermDepth_k3 : (Try.f3.params.all (Try.prog.readableRec ·)) = true := by kernel_rfl
theorem FnExactTermDepth_k4 : (namedTie Try.prog Rows.fnExactTermDepthRow.named Rows.fnExactTermDepthSpec.vars) = true := by kernel_rfl
theorem FnExactTermDepth_k5 : ((Rows.fnExactTermDepthRow.stops == [])) = true := by kernel_rfl
theorem FnExactTermDepth_k7 : ((Rows.fnExactTermDepthRow.knobs == [])) = true := by kernel_rfl
theorem FnExactTermDepth_k9 : ((Rows.fnExactTermDepthRow.inPlace == Try.prog.inPlace 3)) = true := by kernel_rfl
theorem FnExactTermDepth_k10 : ((Rows.fnExactTermDepthRow.unfollowed == Try.prog.unfollowed 3)) = true := by kernel_rfl
theorem FnExactTermDepth_k11 : ((Rows.fnExactTermDepthRow.recurses == Try.prog.recurses 3)) = true := by kernel_rfl
theorem FnExactTermDepth_k12 : ((Rows.fnExactTermDepthRow.named == Try.prog.varsNamed 3)) = true := by kernel_rfl
theorem FnExactTermDepth_k13 : ((Rows.fnExactTermDepthRow.maps == (Try.f3.params.toList ++ Rows.fnExactTermDepthSpec.plain.varTypes Try.prog).any (Try.prog.mapsRec ·))) = true := by kernel_rfl
theorem FnExactTermDepth_k14 : ((Rows.fnExactTermDepthRow.ifaces == (Try.f3.params.toList ++ Rows.fnExactTermDepthSpec.plain.varTypes Try.prog).any (Try.prog.ifacesRec ·))) = true := by kernel_rfl
theorem FnExactTermDepth_k15 : ((Rows.fnExactTermDepthRow.mapsOut == Try.prog.mapsAmong Try.f3.resultTypes.toList)) = true := by kernel_rfl
theorem FnExactTermDepth_k16 : ((Rows.fnExactTermDepthRow.loops == (Try.f3.params.toList ++ Rows.fnExactTermDepthSpec.plain.varTypes Try.prog).any (Try.prog.loopsFrom ·))) = true := by kernel_rfl
theorem FnExactTermDepth_k17 : ((Rows.fnExactTermDepthRow.wideKeys == (Try.f3.params.toList ++ Rows.fnExactTermDepthSpec.plain.varTypes Try.prog ++ Try.f3.resultTypes.toList).any (Try.prog.wideKeysFrom ·))) = true := by kernel_rfl
theorem FnExactTermDepth_k18 : (Rows.fnExactTermDepthSpec.vars.all (Try.prog.varReadable ·)) = true := by kernel_rfl
theorem FnExactTermDepth_k19 : (Try.f3.resultTypes.all (fun t => Try.prog.readableRec t && decide (t < Try.prog.types.size))) = true := by kernel_rfl
theorem FnExactTermDepth_k20 : ((Rows.fnExactTermDepthRow.ifacesOut == Try.f3.resultTypes.toList.any (Try.prog.ifacesRec ·))) = true := by kernel_rfl
theorem FnExactTermDepth_k21 : ((Rows.fnExactTermDepthRow.loopsOut == Try.f3.resultTypes.toList.any (Try.prog.loopsFrom ·))) = true := by kernel_rfl
theorem FnExactTermDepth_k23 : (Rows.fnExactTermDepthRow.shortTexts.isNone) = true := by kernel_rfl
theorem FnExactTermDepth_k28 : ((Rows.fnExactTermDepthRow.kinds == (if Rows.fnExactTermDepthRow.domain.isEmpty then [] else Try.f3.params.toList.map fun t => match Try.prog.underlying t with | some (.int k) => some k | _ => none))) = true := by kernel_rfl
theorem FnExactTermDepth_k29 : ((Rows.fnExactTermDepthRow.pinned == Rows.fnExactTermDepthRow.pinnedBy)) = true := by kernel_rfl
theorem FnExactTermDepth_k30 : ((Rows.fnExactTermDepthRow.veiled == (Try.f3.params.toList ++ Rows.fnExactTermDepthSpec.plain.varTypes Try.prog ++ Try.f3.resultTypes.toList).any (Try.prog.veiledRec ·))) = true := by kernel_rfl
theorem FnExactTermDepth_k31 : (Rows.fnExactTermDepthRow.veiledFits Try.prog Try.f3.params.toList (Try.f3.params.toList ++ Rows.fnExactTermDepthSpec.plain.varTypes Try.prog ++ Try.f3.resultTypes.toList)) = true := by kernel_rfl
set_option maxRecDepth 100000 in
theorem FnExactTermDepth_closed : joinedFacts Try.prog 3 Try.f3 Rows.fnExactTermDepthSpec Rows.fnExactTermDepthRow = true := (and2 (and2 (and2 (and2 (and2 (and2 (and2 (and2 (and2 (and2 (and2 (and2 (and2 (and2 (and2 (and2 (and2 (and2 (and2 (and2 (and2 (and2 (and2 (and2 (and2 (and2 (and2 (and2 (and2 (and2 (and2 FnExactTermDepth_k0 jf1) jf2) FnExactTermDepth_k3) FnExactTermDepth_k4) FnExactTermDepth_k5) jf6) FnExactTermDepth_k7) jf8) FnExactTermDepth_k9) FnExactTermDepth_k10) FnExactTermDepth_k11) FnExactTermDepth_k12) FnExactTermDepth_k13) FnExactTermDepth_k14) FnExactTermDepth_k15) FnExactTermDepth_k16) FnExactTermDepth_k17) FnExactTermDepth_k18) FnExactTermDepth_k19) FnExactTermDepth_k20) FnExactTermDepth_k21) jf22) FnExactTermDepth_k23) jf24) jf25) jf26) jf27) FnExactTermDepth_k28) FnExactTermDepth_k29) FnExactTermDepth_k30) FnExactTermDepth_k31)
theorem FnExactTermDepth_over : Rows.fnExactTermDepthRow.holds Try.pinned (OpenSpec.ofChange Rows.fnExactTermDepthSpec) :=
  OpenClaim.holds_of_wide 3 Try.f3 rfl rfl rfl rfl rfl rfl rfl ⟨rfl, rfl, rfl, rfl, rfl⟩ rfl rfl rfl rfl rfl (by kernel_rfl) Try.func3 FnExactTermDepth_closed
    (of_decide_eq_true (by kernel_rfl)) (by unfold Func.isWrapper; first | (rw [if_pos (by decide +kernel)]; kernel_rfl) | (rw [if_neg (by decide +kernel)]; exact ⟨rfl, rfl⟩))
    (fun os started H enc _ => FnExactTermDepth_lifted os started H enc)

theorem FnExactTermDepth_proved : Rows.FnExactTermDepthSaid := FnExactTermDepth_over
end Go.Proofs.Ytcoamadpigohjaa
