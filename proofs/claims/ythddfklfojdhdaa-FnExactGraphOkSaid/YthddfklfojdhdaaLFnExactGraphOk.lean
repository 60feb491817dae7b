/- The program's GraphOk answers as the specification's GraphOk at every graph; it writes into no argument. No condition. -/
import Derived.Test.YthddfklfojdhdaaRows
import Derived.WalkKit
import Derived.ProofKit
import Derived.OpenShut
import Derived.Below
import Derived.Carry
import Derived.Test.YthddfklfojdhdaaPK01
import Derived.Test.YthddfklfojdhdaaPK17
import Derived.Test.YthddfklfojdhdaaPK18
namespace Go.Proofs.Ythddfklfojdhdaa
open Go.ChangeShapes Go.WideShapes Go.ChangeAt Go.RowKit
set_option linter.unusedVariables false
set_option maxRecDepth 100000

theorem FnExactGraphOk_own : ownKnob Try.prog.godebug = none := by kernel_rfl

set_option maxRecDepth 100000 in
set_option maxHeartbeats 4000000 in
theorem FnExactGraphOk_walk (vs0 : Int) (a0 : Option Addr) (len0 cap0 : Nat) (xs0 : List Gn) (a0' : Option Addr) (len0' cap0' : Nat) (ys0 : List Gr) (w : World) (wb0 : InGn w a0 len0 cap0 xs0) (wb0' : InGr w a0' len0' cap0' ys0):
    Calls Try.prog 3 #[.agg #[.int .i64 vs0, .slice a0 len0 cap0, .slice a0' len0' cap0']] w fun e w' => e = .returned (.bool true) ∧ Below w.heap.size w w' := by
  obtain rfl := wb0.1
  obtain rfl := wb0'.1
  have hf := hd wb0.2.2.2.1
  have hf' := hd wb0'.2.2.2.1
  have hm := hd (Nat.le_trans wb0.2.1 wb0.2.2.1)
  have hm' := hd (Nat.le_trans wb0'.2.1 wb0'.2.2.1)
  have K : CS (w.alloc (.cells #[.int .i64 vs0, .slice a0 xs0.length cap0, .slice a0' ys0.length cap0'] 25)) w.heap.size [.int .i64 vs0, .slice a0 xs0.length cap0, .slice a0' ys0.length cap0'] := CS.made w _ rfl #[_, _, _] _
  have R := wb0.al (.cells #[.int .i64 vs0, .slice a0 xs0.length cap0, .slice a0' ys0.length cap0'] 25)
  have R' := wb0'.al (.cells #[.int .i64 vs0, .slice a0 xs0.length cap0, .slice a0' ys0.length cap0'] 25)
  have SZ := hd (lSzGraph vs0 a0 _ cap0 xs0 a0' _ cap0' ys0 _ R R')
  have S := hd (fun a cap a' cap' w (h : InGn w a xs0.length cap xs0) (h' : InGr w a' ys0.length cap' ys0) (l1 : xs0.length ≤ 1048576) (l2 : ys0.length ≤ 1048576) => sGraphOk vs0 a _ cap xs0 a' _ cap' ys0 w h h' l1 l2)
  have I := hd (fun a cap a' cap' w (h : InGn w a xs0.length cap xs0) (h' : InGr w a' ys0.length cap' ys0) (l1 : xs0.length ≤ 1048576) (l2 : ys0.length ≤ 1048576) => iGraphOk vs0 a _ cap xs0 a' _ cap' ys0 w h h' l1 l2)
  clear wb0 wb0'
  go_enter Try.func3, Try.ntmps3
  go_wp2_with fail
  refine SZ.out.mono ?_
  rintro e w1 ⟨⟨l, rfl, hl⟩, hb1⟩
  clear SZ
  rcases hl with rfl | ⟨hl0, hl3, hl1, hl2⟩
  · go_wp2
    go_ret
    exact ⟨rfl, (by repeat (first | exact Below.refl _ _ | refine Below.drew ?_ | refine old_alloc ?_ _ | refine old_trans ?_ (by assumption)))⟩
  have hl0' : ¬ l < 0 := by omega
  clear hl0 hl3
  replace hl1 := hd hl1
  replace hl2 := hd hl2
  have K0 := K.cell 0 _ rfl
  have K1 := K.cell 1 _ rfl
  have K2 := K.cell 2 _ rfl
  have KL := K.lt
  clear K0 K1 K2 KL
  replace K := (by with_reducible first | exact K.later hb1 | exact (K.alloc _).later hb1 | exact K.drew.later hb1 : CS w1 _ [.int .i64 vs0, .slice a0 xs0.length cap0, .slice a0' ys0.length cap0'])
  replace R := (by with_reducible first | exact R.old hb1 | exact (R.al _).old hb1 | exact R.dr.old hb1 : InGn w1 _ _ _ _)
  replace R' := (by with_reducible first | exact R'.old hb1 | exact (R'.al _).old hb1 | exact R'.dr.old hb1 : InGr w1 _ _ _ _)
  have K0 := K.cell 0 _ rfl
  have K1 := K.cell 1 _ rfl
  have K2 := K.cell 2 _ rfl
  have KL := K.lt
  go_wp2_with fail
  refine (lToGraph vs0 a0 _ cap0 xs0 a0' _ cap0' ys0 _ (by with_reducible first | exact R | exact R.al _ | exact R.dr) (by with_reducible first | exact R' | exact R'.al _ | exact R'.dr) hl1.out hl2.out).mono ?_
  rintro e w2 ⟨⟨bn2, br2, rfl, -, -, rn2, rr2⟩, hb2⟩
  have N2 := rn2.inGn hf.out (Nat.le_refl _) hm.out
  have M2 := rr2.inGr hf'.out (Nat.le_refl _) hm'.out
  clear rn2 rr2
  clear K0 K1 K2 KL
  replace K := (by with_reducible first | exact K.later hb2 | exact (K.alloc _).later hb2 | exact K.drew.later hb2 : CS w2 _ [.int .i64 vs0, .slice a0 xs0.length cap0, .slice a0' ys0.length cap0'])
  replace R := (by with_reducible first | exact R.old hb2 | exact (R.al _).old hb2 | exact R.dr.old hb2 : InGn w2 _ _ _ _)
  replace R' := (by with_reducible first | exact R'.old hb2 | exact (R'.al _).old hb2 | exact R'.dr.old hb2 : InGr w2 _ _ _ _)
  have K0 := K.cell 0 _ rfl
  have K1 := K.cell 1 _ rfl
  have K2 := K.cell 2 _ rfl
  have KL := K.lt
  go_wp2_with fail
  refine (S.out _ _ _ _ _ (by with_reducible first | exact N2 | exact N2.al _ | exact N2.dr) (by with_reducible first | exact M2 | exact M2.al _ | exact M2.dr) hl1.out hl2.out).mono ?_
  rintro e w3 ⟨⟨r1, rfl, hr1⟩, hb3⟩
  replace hr1 := hd hr1
  clear N2 M2
  clear K0 K1 K2 KL
  replace K := (by with_reducible first | exact K.later hb3 | exact (K.alloc _).later hb3 | exact K.drew.later hb3 : CS w3 _ [.int .i64 vs0, .slice a0 xs0.length cap0, .slice a0' ys0.length cap0'])
  replace R := (by with_reducible first | exact R.old hb3 | exact (R.al _).old hb3 | exact R.dr.old hb3 : InGn w3 _ _ _ _)
  replace R' := (by with_reducible first | exact R'.old hb3 | exact (R'.al _).old hb3 | exact R'.dr.old hb3 : InGr w3 _ _ _ _)
  have K0 := K.cell 0 _ rfl
  have K1 := K.cell 1 _ rfl
  have K2 := K.cell 2 _ rfl
  have KL := K.lt
  go_wp2_with fail
  refine (lToGraph vs0 a0 _ cap0 xs0 a0' _ cap0' ys0 _ (by with_reducible first | exact R | exact R.al _ | exact R.dr) (by with_reducible first | exact R' | exact R'.al _ | exact R'.dr) hl1.out hl2.out).mono ?_
  rintro e w4 ⟨⟨bn4, br4, rfl, -, -, rn4, rr4⟩, hb4⟩
  have N4 := rn4.inGn hf.out (Nat.le_refl _) hm.out
  have M4 := rr4.inGr hf'.out (Nat.le_refl _) hm'.out
  clear rn4 rr4
  clear K0 K1 K2 KL
  replace K := (by with_reducible first | exact K.later hb4 | exact (K.alloc _).later hb4 | exact K.drew.later hb4 : CS w4 _ [.int .i64 vs0, .slice a0 xs0.length cap0, .slice a0' ys0.length cap0'])
  replace R := (by with_reducible first | exact R.old hb4 | exact (R.al _).old hb4 | exact R.dr.old hb4 : InGn w4 _ _ _ _)
  replace R' := (by with_reducible first | exact R'.old hb4 | exact (R'.al _).old hb4 | exact R'.dr.old hb4 : InGr w4 _ _ _ _)
  have K0 := K.cell 0 _ rfl
  have K1 := K.cell 1 _ rfl
  have K2 := K.cell 2 _ rfl
  have KL := K.lt
  go_wp2_with fail
  refine (I.out _ _ _ _ _ (by with_reducible first | exact N4 | exact N4.al _ | exact N4.dr) (by with_reducible first | exact M4 | exact M4.al _ | exact M4.dr) hl1.out hl2.out).mono ?_
  rintro e w5 ⟨⟨r2, rfl, hr2⟩, hb5⟩
  obtain rfl : r2 = r1 := Bool.eq_iff_iff.2 (hr2.trans hr1.out.symm)
  clear hr2 hr1
  have X : CS _ _ [_, _, _] := (CS.made _ _ rfl #[.int .i64 vs0, .slice (some ⟨bn4, 0, none⟩) xs0.length xs0.length, .slice (some ⟨br4, 0, none⟩) ys0.length ys0.length] 31).later hb5
  replace N4 := (by with_reducible first | exact N4.old hb5 | exact (N4.al _).old hb5 | exact N4.dr.old hb5 : InGn w5 _ _ _ _)
  replace M4 := (by with_reducible first | exact M4.old hb5 | exact (M4.al _).old hb5 | exact M4.dr.old hb5 : InGr w5 _ _ _ _)
  clear K0 K1 K2 KL
  replace K := (by with_reducible first | exact K.later hb5 | exact (K.alloc _).later hb5 | exact K.drew.later hb5 : CS w5 _ [.int .i64 vs0, .slice a0 xs0.length cap0, .slice a0' ys0.length cap0'])
  replace R := (by with_reducible first | exact R.old hb5 | exact (R.al _).old hb5 | exact R.dr.old hb5 : InGn w5 _ _ _ _)
  replace R' := (by with_reducible first | exact R'.old hb5 | exact (R'.al _).old hb5 | exact R'.dr.old hb5 : InGr w5 _ _ _ _)
  have K0 := K.cell 0 _ rfl
  have K1 := K.cell 1 _ rfl
  have K2 := K.cell 2 _ rfl
  have KL := K.lt
  have X0 := X.cell 0 _ rfl
  have X1 := X.cell 1 _ rfl
  have X2 := X.cell 2 _ rfl
  have XL := X.lt
  go_wp2_with fail
  go_region_with (first | (go_at_call 6; refine (lToGraph vs0 a0 _ cap0 xs0 a0' _ cap0' ys0 _ (by with_reducible first | exact R | exact R.al _ | exact R.dr) (by with_reducible first | exact R' | exact R'.al _ | exact R'.dr) hl1.out hl2.out).mono ?_; rintro e wx ⟨⟨bnx, brx, rfl, -, -, rnx, rrx⟩, hbx⟩; have Nx := rnx.inGn hf.out (Nat.le_refl _) hm.out; have Mx := rrx.inGr hf'.out (Nat.le_refl _) hm'.out; have K := (by with_reducible first | exact K.later hbx | exact (K.alloc _).later hbx | exact K.drew.later hbx : CS wx _ [.int .i64 vs0, .slice a0 xs0.length cap0, .slice a0' ys0.length cap0']); have K0 := K.cell 0 _ rfl; have K1 := K.cell 1 _ rfl; have K2 := K.cell 2 _ rfl; have KL := K.lt; have X := (by with_reducible first | exact X.later hbx | exact (X.alloc _).later hbx | exact X.drew.later hbx : CS wx _ [_, _, _]); have X0 := X.cell 0 _ rfl; have X1 := X.cell 1 _ rfl; have X2 := X.cell 2 _ rfl; have XL := X.lt; have N4 := (by with_reducible first | exact N4.old hbx | exact (N4.al _).old hbx | exact N4.dr.old hbx : InGn wx _ _ _ _); have M4 := (by with_reducible first | exact M4.old hbx | exact (M4.al _).old hbx | exact M4.dr.old hbx : InGr wx _ _ _ _)) | (go_at_call 8; refine (lEqGraph vs0 _ _ _ xs0 _ _ _ ys0 _ _ _ _ _ (by with_reducible first | exact N4 | exact N4.al _ | exact N4.dr) (by with_reducible first | exact M4 | exact M4.al _ | exact M4.dr) (by with_reducible first | exact Nx | exact Nx.al _ | exact Nx.dr) (by with_reducible first | exact Mx | exact Mx.al _ | exact Mx.dr)).mono ?_; rintro e wy ⟨rfl, hby⟩))
  all_goals
    go_wp2
    go_ret
    exact ⟨rfl, (by repeat (first | exact Below.refl _ _ | refine Below.drew ?_ | refine old_alloc ?_ _ | refine old_trans ?_ (by assumption)))⟩
set_option maxRecDepth 100000 in
theorem FnExactGraphOk_lifted (os : Os) (started : os.Started) (H : Type) (enc : TypeId × Value → H) :
    ReturnsInHanded {} Try.checked os 3 .any (Rows.fnExactGraphOkSpec.pre6 enc Try.prog Try.f3 Rows.fnExactGraphOkRow.domain false) (Rows.fnExactGraphOkSpec.post enc Try.prog Try.f3 false true false false) := by
  refine returnsInHanded_of_change (C := Try.checked) FnExactGraphOk_own started (by kernel_rfl) Try.func3
    (ChangeSpec.witness6 (enc := enc) (C := Try.checked) false ⟨#[], #[.agg #[.int .i64 0, .slice none 0 0, .slice none 0 0]], []⟩ 8 (by kernel_rfl) (by kernel_rfl) (by kernel_rfl) (by kernel_rfl)) ?_
  intro W base args ds gs before hval0 hW hcnd _
  have hval : ∀ (j : Nat) t v, Try.f3.params[j]? = some t → args[j]? = some v → Value.okWide Try.prog W .any base t v := hval0
  have hW' := hW
  obtain ⟨p, q, hA0, hV, rfl, hfz, hnd⟩ := hW
  have hA : DataW.TrodAll enc Try.prog W 0 (fun _ => true) true Try.f3.params.toList args.toList ds p := hA0
  rw [Try.params3] at hA hval
  obtain ⟨v0, vs0, d0, ds0, p0, q0, hargs, rfl, rfl, h0, r0⟩ := trodAll_cons hA
  obtain ⟨rfl, rfl, rfl⟩ := trodAll_nil r0
  obtain rfl : args = #[v0] := by cases args; simp_all
  obtain ⟨rfl, rfl⟩ := trodVars_none hV
  have k0 := h0
  have lt0 : ∀ x ∈ p0, x.block < W.heap.size := by obtain ⟨m, hm⟩ := k0; exact DataW.trod_lt m _ _ _ hm
  obtain ⟨vs0, a0, len0, cap0, xs0, a0', len0', cap0', ys0, rfl, -, wb0, wb0'⟩ := open_lgraph (hval 0 25 v0 rfl rfl) h0
  clear hA0 hval0
  refine (FnExactGraphOk_walk vs0 a0 len0 cap0 xs0 a0' len0' cap0' ys0 W wb0 wb0').mono fun e W' ⟨he, bel⟩ => ?_
  subst he
  exact ⟨_, rfl, _, _, _, [], _, [], hW', trodAll_mk1 (shut_bool Try.underlying4 _), (trodAll_cons_mk (Below.trod jf1 (by kernel_rfl) (of_decide_eq_true (by kernel_rfl)) k0 bel lt0) trodAll_mk0), rfl, bel.frame _, fun h => by cases h⟩

theorem FnExactGraphOk_k0 : (Rows.fnExactGraphOkRow.wf (OpenSpec.ofChange Rows.fnExactGraphOkSpec)) = true := by kernel_rfl
theorem FnExactGraphOk_k3 : (Try.f3.params.all (Try.prog.readableRec ·)) = true := by kernel_rfl
theorem FnExactGraphOk_k4 : (namedTie Try.prog Rows.fnExactGraphOkRow.named Rows.fnExactGraphOkSpec.vars) = true := by kernel_rfl
theorem FnExactGraphOk_k5 : ((Rows.fnExactGraphOkRow.stops == [])) = true := by kernel_rfl
theorem FnExactGraphOk_k7 : ((Rows.fnExactGraphOkRow.knobs == [])) = true := by kernel_rfl
theorem FnExactGraphOk_k9 : ((Rows.fnExactGraphOkRow.inPlace == Try.prog.inPlace 3)) = true := by kernel_rfl
theorem FnExactGraphOk_k10 : ((Rows.fnExactGraphOkRow.unfollowed == Try.prog.unfollowed 3)) = true := by kernel_rfl
theorem FnExactGraphOk_k11 : ((Rows.fnExactGraphOkRow.recurses == Try.prog.recurses 3)) = true := by kernel_rfl
theorem FnExactGraphOk_k12 : ((Rows.fnExactGraphOkRow.named == Try.prog.varsNamed 3)) = true := by kernel_rfl
theorem FnExactGraphOk_k13 : ((Rows.fnExactGraphOkRow.maps == (Try.f3.params.toList ++ Rows.fnExactGraphOkSpec.plain.varTypes Try.prog).any (Try.prog.mapsRec ·))) = true := by kernel_rfl
theorem FnExactGraphOk_k14 : ((Rows.fnExactGraphOkRow.ifaces == (Try.f3.params.toList ++ Rows.fnExactGraphOkSpec.plain.varTypes Try.prog).any (Try.prog.ifacesRec ·))) = true := by kernel_rfl
theorem FnExactGraphOk_k15 : ((Rows.fnExactGraphOkRow.mapsOut == Try.prog.mapsAmong Try.f3.resultTypes.toList)) = true := by kernel_rfl
theorem FnExactGraphOk_k16 : ((Rows.fnExactGraphOkRow.loops == (Try.f3.params.toList ++ Rows.fnExactGraphOkSpec.plain.varTypes Try.prog).any (Try.prog.loopsFrom ·))) = true := by kernel_rfl
theorem FnExactGraphOk_k17 : ((Rows.fnExactGraphOkRow.wideKeys == (Try.f3.params.toList ++ Rows.fnExactGraphOkSpec.plain.varTypes Try.prog ++ Try.f3.resultTypes.toList).any (Try.prog.wideKeysFrom ·))) = true := by kernel_rfl
theorem FnExactGraphOk_k18 : (Rows.fnExactGraphOkSpec.vars.all (Try.prog.varReadable ·)) = true := by kernel_rfl
theorem FnExactGraphOk_k19 : (Try.f3.resultTypes.all (fun t => Try.prog.readableRec t && decide (t < Try.prog.types.size))) = true := by kernel_rfl
theorem FnExactGraphOk_k20 : ((Rows.fnExactGraphOkRow.ifacesOut == Try.f3.resultTypes.toList.any (Try.prog.ifacesRec ·))) = true := by kernel_rfl
theorem FnExactGraphOk_k21 : ((Rows.fnExactGraphOkRow.loopsOut == Try.f3.resultTypes.toList.any (Try.prog.loopsFrom ·))) = true := by kernel_rfl
theorem FnExactGraphOk_k23 : (Rows.fnExactGraphOkRow.shortTexts.isNone) = true := by kernel_rfl
theorem FnExactGraphOk_k28 : ((Rows.fnExactGraphOkRow.kinds == (if Rows.fnExactGraphOkRow.domain.isEmpty then [] else Try.f3.params.toList.map fun t => match Try.prog.underlying t with | some (.int k) => some k | _ => none))) = true := by kernel_rfl
theorem FnExactGraphOk_k29 : ((Rows.fnExactGraphOkRow.pinned == Rows.fnExactGraphOkRow.pinnedBy)) = true := by kernel_rfl
theorem FnExactGraphOk_k30 : ((Rows.fnExactGraphOkRow.veiled == (Try.f3.params.toList ++ Rows.fnExactGraphOkSpec.plain.varTypes Try.prog ++ Try.f3.resultTypes.toList).any (Try.prog.veiledRec ·))) = true := by kernel_rfl
theorem FnExactGraphOk_k31 : (Rows.fnExactGraphOkRow.veiledFits Try.prog Try.f3.params.toList (Try.f3.params.toList ++ Rows.fnExactGraphOkSpec.plain.varTypes Try.prog ++ Try.f3.resultTypes.toList)) = true := by kernel_rfl
set_option maxRecDepth 100000 in
theorem FnExactGraphOk_closed : joinedFacts Try.prog 3 Try.f3 Rows.fnExactGraphOkSpec Rows.fnExactGraphOkRow = true := (and2 (and2 (and2 (and2 (and2 (and2 (and2 (and2 (and2 (and2 (and2 (and2 (and2 (and2 (and2 (and2 (and2 (and2 (and2 (and2 (and2 (and2 (and2 (and2 (and2 (and2 (and2 (and2 (and2 (and2 (and2 FnExactGraphOk_k0 jf1) jf2) FnExactGraphOk_k3) FnExactGraphOk_k4) FnExactGraphOk_k5) jf6) FnExactGraphOk_k7) jf8) FnExactGraphOk_k9) FnExactGraphOk_k10) FnExactGraphOk_k11) FnExactGraphOk_k12) FnExactGraphOk_k13) FnExactGraphOk_k14) FnExactGraphOk_k15) FnExactGraphOk_k16) FnExactGraphOk_k17) FnExactGraphOk_k18) FnExactGraphOk_k19) FnExactGraphOk_k20) FnExactGraphOk_k21) jf22) FnExactGraphOk_k23) jf24) jf25) jf26) jf27) FnExactGraphOk_k28) FnExactGraphOk_k29) FnExactGraphOk_k30) FnExactGraphOk_k31)
theorem FnExactGraphOk_over : Rows.fnExactGraphOkRow.holds Try.pinned (OpenSpec.ofChange Rows.fnExactGraphOkSpec) :=
  OpenClaim.holds_of_wide 3 Try.f3 rfl rfl rfl rfl rfl rfl rfl ⟨rfl, rfl, rfl, rfl, rfl⟩ rfl rfl rfl rfl rfl (by kernel_rfl) Try.func3 FnExactGraphOk_closed
    (of_decide_eq_true (by kernel_rfl)) (by unfold Func.isWrapper; first | (rw [if_pos (by decide +kernel)]; kernel_rfl) | (rw [if_neg (by decide +kernel)]; exact ⟨rfl, rfl⟩))
    (fun os started H enc _ => FnExactGraphOk_lifted os started H enc)

theorem FnExactGraphOk_proved : Rows.FnExactGraphOkSaid := FnExactGraphOk_over
end Go.Proofs.Ythddfklfojdhdaa
