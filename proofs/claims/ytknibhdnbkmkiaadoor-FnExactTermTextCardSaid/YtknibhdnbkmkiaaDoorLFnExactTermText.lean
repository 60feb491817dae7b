/- The program's TermText answers as the specification's TermText at every term; it writes into no argument. Condition: the library's variables hold what their texts lay (the card ties them); the proof reads none of them. -/
import Derived.Test.YtknibhdnbkmkiaaDoorRows
import Derived.Test.YtknibhdnbkmkiaaDoorTie
import Derived.Test.YtknibhdnbkmkiaaDoorCards
import Derived.WalkKit
import Derived.ProofKit
import Derived.OpenShut
import Derived.Below
import Derived.Carry
import Derived.Test.YtknibhdnbkmkiaaDoorPK01
import Derived.Test.YtknibhdnbkmkiaaDoorPK03
import Derived.Test.YtknibhdnbkmkiaaDoorPK11
import Derived.Test.YtknibhdnbkmkiaaDoorPK14
import Derived.Test.YtknibhdnbkmkiaaDoorPK21
import Derived.Test.YtknibhdnbkmkiaaDoorPK22
namespace Go.Proofs.YtknibhdnbkmkiaaDoor
open Go.ChangeShapes Go.WideShapes Go.ChangeAt Go.RowKit
set_option linter.unusedVariables false
set_option maxRecDepth 100000

set_option maxRecDepth 100000 in
set_option maxHeartbeats 4000000 in
theorem FnExactTermText_walk (a0 : Option Addr) (len0 cap0 : Nat) (xs0 : List Tn) (w : World) (wb0 : InN w a0 len0 cap0 xs0)  :
    Calls Tryd.prog 3 #[.agg #[.slice a0 len0 cap0]] w fun e w' => e = .returned (.bool true) ∧ Below w.heap.size w w' := by
  obtain rfl := wb0.1
  have K : CS (w.alloc (.cells #[.slice a0 xs0.length cap0] 24)) w.heap.size [.slice a0 xs0.length cap0] := CS.made w _ rfl #[_] _
  have R := wb0.al (.cells #[.slice a0 xs0.length cap0] 24)
  have SZ := hd (lSzTerm a0 _ cap0 xs0 _ R)
  have S := hd (fun a len cap w (h : InN w a len cap xs0) => sTermText a len cap xs0 w h)
  have I := hd (fun a len cap w (h : InN w a len cap xs0) => iTermText a len cap xs0 w h)
  generalize txT xs0 = r at *
  go_enter Tryd.func3, Tryd.ntmps3
  go_wp2_with fail
  refine SZ.out.mono ?_
  rintro e w1 ⟨⟨l, rfl, hl⟩, hb1⟩
  clear SZ
  rcases hl with rfl | ⟨hl0, hl2, hl1⟩
  · go_wp2
    go_ret
    exact ⟨rfl, (by repeat (first | exact Below.refl _ _ | refine Below.drew ?_ | refine old_alloc ?_ _ | refine old_trans ?_ (by assumption)))⟩
  have hl0' : ¬ l < 0 := by omega
  clear hl0 hl2
  replace K := (by with_reducible first | exact K.later hb1 | exact (K.alloc _).later hb1 | exact K.drew.later hb1 : CS w1 _ [.slice a0 xs0.length cap0])
  replace R := (by with_reducible first | exact R.old hb1 | exact (R.al _).old hb1 | exact R.dr.old hb1 : InN w1 _ _ _ _)
  have K0 := K.cell 0 _ rfl
  have K2 := K.lt
  go_wp2_with fail
  refine (toTermI a0 cap0 xs0 _ (by with_reducible first | exact R | exact R.al _ | exact R.dr) hl1).mono ?_
  rintro e w2 ⟨⟨bR2, rfl, -, R2⟩, hb2⟩
  clear K0 K2
  replace K := (by with_reducible first | exact K.later hb2 | exact (K.alloc _).later hb2 | exact K.drew.later hb2 : CS w2 _ [.slice a0 xs0.length cap0])
  replace R := (by with_reducible first | exact R.old hb2 | exact (R.al _).old hb2 | exact R.dr.old hb2 : InN w2 _ _ _ _)
  have K0 := K.cell 0 _ rfl
  have K2 := K.lt
  go_wp2_with fail
  refine (S.out _ _ _ _ (by with_reducible first | exact R2 | exact R2.al _ | exact R2.dr)).mono ?_
  rintro e w3 ⟨rfl, hb3⟩
  clear K0 K2
  replace K := (by with_reducible first | exact K.later hb3 | exact (K.alloc _).later hb3 | exact K.drew.later hb3 : CS w3 _ [.slice a0 xs0.length cap0])
  replace R := (by with_reducible first | exact R.old hb3 | exact (R.al _).old hb3 | exact R.dr.old hb3 : InN w3 _ _ _ _)
  clear R2
  have K0 := K.cell 0 _ rfl
  have K2 := K.lt
  go_wp2_with fail
  refine (toTermI a0 cap0 xs0 _ (by with_reducible first | exact R | exact R.al _ | exact R.dr) hl1).mono ?_
  rintro e w4 ⟨⟨bR4, rfl, -, R4⟩, hb4⟩
  clear K0 K2
  replace K := (by with_reducible first | exact K.later hb4 | exact (K.alloc _).later hb4 | exact K.drew.later hb4 : CS w4 _ [.slice a0 xs0.length cap0])
  replace R := (by with_reducible first | exact R.old hb4 | exact (R.al _).old hb4 | exact R.dr.old hb4 : InN w4 _ _ _ _)
  have K0 := K.cell 0 _ rfl
  have K2 := K.lt
  go_wp2_with fail
  refine (I.out _ _ _ _ (by with_reducible first | exact R4 | exact R4.al _ | exact R4.dr)).mono ?_
  rintro e w5 ⟨rfl, hb5⟩
  have X : CS _ _ [_] := (CS.made _ _ rfl #[.slice (some ⟨bR4, 0, none⟩) xs0.length xs0.length] 29).later hb5
  replace R4 := (by with_reducible first | exact R4.old hb5 | exact (R4.al _).old hb5 | exact R4.dr.old hb5 : InN w5 _ _ _ _)
  clear K0 K2
  replace K := (by with_reducible first | exact K.later hb5 | exact (K.alloc _).later hb5 | exact K.drew.later hb5 : CS w5 _ [.slice a0 xs0.length cap0])
  replace R := (by with_reducible first | exact R.old hb5 | exact (R.al _).old hb5 | exact R.dr.old hb5 : InN w5 _ _ _ _)
  have K0 := K.cell 0 _ rfl
  have K2 := K.lt
  have X0 := X.cell 0 _ rfl
  have X2 := X.lt
  go_wp2_with fail
  go_region_with (first | (go_at_call 6; refine (toTermI a0 cap0 xs0 _ (by with_reducible first | exact R | exact R.al _ | exact R.dr) hl1).mono ?_; rintro e wx ⟨⟨bx, rfl, -, Rx⟩, hbx⟩; have K := (by with_reducible first | exact K.later hbx | exact (K.alloc _).later hbx | exact K.drew.later hbx : CS wx _ [.slice a0 xs0.length cap0]); have K0 := K.cell 0 _ rfl; have K2 := K.lt; have X := (by with_reducible first | exact X.later hbx | exact (X.alloc _).later hbx | exact X.drew.later hbx : CS wx _ [_]); have X0 := X.cell 0 _ rfl; have X2 := X.lt; have R4 := (by with_reducible first | exact R4.old hbx | exact (R4.al _).old hbx | exact R4.dr.old hbx : InN wx _ _ _ _)) | (go_at_call 8; refine (lEqTerm _ _ _ _ _ xs0 _ (by with_reducible first | exact R4 | exact R4.al _ | exact R4.dr) (by with_reducible first | exact Rx | exact Rx.al _ | exact Rx.dr)).mono ?_; rintro e wy ⟨rfl, hby⟩))
  all_goals
    go_wp2
    go_ret
    exact ⟨rfl, (by repeat (first | exact Below.refl _ _ | refine Below.drew ?_ | refine old_alloc ?_ _ | refine old_trans ?_ (by assumption)))⟩
set_option maxRecDepth 100000 in
theorem FnExactTermText_lifted (os : Os) (started : os.Started) (H : Type) (enc : TypeId × Value → H) :
    ReturnsInHanded {} Tryd.checked os 3 .any (fun w args => (Rows.fnExactTermTextSpec.pre enc Tryd.prog Tryd.f3 [] false w args ∧ laidMetH Tryd.prog LPXL w) ∧ sizedMet enc Tryd.prog Tryd.f3 (OpenSpec.ofChange Rows.fnExactTermTextSpec) false w args)
      (Rows.fnExactTermTextSpec.post enc Tryd.prog Tryd.f3 false true false false) := by
  refine returnsInHanded_of_change_and (C := Tryd.checked) (X := fun w _ => laidMetH Tryd.prog LPXL w) (fun _ _ _ hh h => h.of_heap hh) LPX_own started (by kernel_rfl) Tryd.func3
    (ChangeSpec.witness_shaped (enc := enc) (C := Tryd.checked) (os := os) (X := fun w _ => laidMetH Tryd.prog LPXL w) false (World.doorLaid Tryd.prog LPX_fuel os) #[.agg #[.slice none 0 0]] 8 rfl (LPX_shaped os _) (by kernel_rfl) (by kernel_rfl) (by kernel_rfl) (LPX_met os _)) ?_
  intro W base args ds gs before hval0 hW _ _ hL _
  have hval : ∀ (j : Nat) t v, Tryd.f3.params[j]? = some t → args[j]? = some v → Value.okWide Tryd.prog W .any base t v := hval0
  have hW' := hW
  obtain ⟨p, q, hA0, hV, rfl, hfz, hnd⟩ := hW
  have hA : DataW.TrodAll enc Tryd.prog W 0 (fun _ => true) true Tryd.f3.params.toList args.toList ds p := hA0
  rw [Tryd.params3] at hA hval
  obtain ⟨v0, vs0, d0, ds0, p0, q0, hargs, rfl, rfl, h0, r0⟩ := trodAll_cons hA
  obtain ⟨rfl, rfl, rfl⟩ := trodAll_nil r0
  obtain rfl : args = #[v0] := by cases args; simp_all
  obtain ⟨rfl, rfl⟩ := trodVars_none hV
  have k0 := h0
  have lt0 : ∀ x ∈ p0, x.block < W.heap.size := by obtain ⟨m, hm⟩ := k0; exact DataW.trod_lt m _ _ _ hm
  obtain ⟨a0, len0, cap0, xs0, rfl, wb0⟩ := open_lterm (hval 0 24 v0 rfl rfl) h0
  clear hA0 hval0
  refine (FnExactTermText_walk a0 len0 cap0 xs0 W wb0 ).mono fun e W' ⟨he, bel⟩ => ?_
  subst he
  exact ⟨_, rfl, _, _, _, [], _, [], hW', trodAll_mk1 (shut_bool Tryd.underlying4 _), (trodAll_cons_mk (Below.trod jf1 (by kernel_rfl) (of_decide_eq_true (by kernel_rfl)) k0 bel lt0) trodAll_mk0), rfl, bel.frame _, fun h => by cases h⟩

theorem FnExactTermText_k0 : (Rows.fnExactTermTextRow.wf (OpenSpec.ofChange Rows.fnExactTermTextSpec)) = true := by kernel_rfl
theorem FnExactTermText_k3 : (Tryd.f3.params.all (Tryd.prog.readableRec ·)) = true := by kernel_rfl
theorem FnExactTermText_k4 : (namedTie Tryd.prog Rows.fnExactTermTextRow.named Rows.fnExactTermTextSpec.vars) = true := by kernel_rfl
theorem FnExactTermText_k5 : ((Rows.fnExactTermTextRow.stops == [])) = true := by kernel_rfl
theorem FnExactTermText_k7 : ((Rows.fnExactTermTextRow.knobs == [])) = true := by kernel_rfl
theorem FnExactTermText_k9 : ((Rows.fnExactTermTextRow.inPlace == Tryd.prog.inPlace 3)) = true := by kernel_rfl
theorem FnExactTermText_k10 : ((Rows.fnExactTermTextRow.unfollowed == Tryd.prog.unfollowed 3)) = true := by kernel_rfl
theorem FnExactTermText_k11 : ((Rows.fnExactTermTextRow.recurses == Tryd.prog.recurses 3)) = true := by kernel_rfl
theorem FnExactTermText_k12 : ((Rows.fnExactTermTextRow.named == Tryd.prog.varsNamed 3)) = true := by kernel_rfl
theorem FnExactTermText_k13 : ((Rows.fnExactTermTextRow.maps == (Tryd.f3.params.toList ++ Rows.fnExactTermTextSpec.plain.varTypes Tryd.prog).any (Tryd.prog.mapsRec ·))) = true := by kernel_rfl
theorem FnExactTermText_k14 : ((Rows.fnExactTermTextRow.ifaces == (Tryd.f3.params.toList ++ Rows.fnExactTermTextSpec.plain.varTypes Tryd.prog).any (Tryd.prog.ifacesRec ·))) = true := by kernel_rfl
theorem FnExactTermText_k15 : ((Rows.fnExactTermTextRow.mapsOut == Tryd.prog.mapsAmong Tryd.f3.resultTypes.toList)) = true := by kernel_rfl
theorem FnExactTermText_k16 : ((Rows.fnExactTermTextRow.loops == (Tryd.f3.params.toList ++ Rows.fnExactTermTextSpec.plain.varTypes Tryd.prog).any (Tryd.prog.loopsFrom ·))) = true := by kernel_rfl
theorem FnExactTermText_k17 : ((Rows.fnExactTermTextRow.wideKeys == (Tryd.f3.params.toList ++ Rows.fnExactTermTextSpec.plain.varTypes Tryd.prog ++ Tryd.f3.resultTypes.toList).any (Tryd.prog.wideKeysFrom ·))) = true := by kernel_rfl
theorem FnExactTermText_k18 : (Rows.fnExactTermTextSpec.vars.all (Tryd.prog.varReadable ·)) = true := by kernel_rfl
theorem FnExactTermText_k19 : (Tryd.f3.resultTypes.all (fun t => Tryd.prog.readableRec t && decide (t < Tryd.prog.types.size))) = true := by kernel_rfl
theorem FnExactTermText_k20 : ((Rows.fnExactTermTextRow.ifacesOut == Tryd.f3.resultTypes.toList.any (Tryd.prog.ifacesRec ·))) = true := by kernel_rfl
theorem FnExactTermText_k21 : ((Rows.fnExactTermTextRow.loopsOut == Tryd.f3.resultTypes.toList.any (Tryd.prog.loopsFrom ·))) = true := by kernel_rfl
theorem FnExactTermText_k23 : (Rows.fnExactTermTextRow.shortTexts.isNone) = true := by kernel_rfl
theorem FnExactTermText_k28 : ((Rows.fnExactTermTextRow.kinds == (if Rows.fnExactTermTextRow.domain.isEmpty then [] else Tryd.f3.params.toList.map fun t => match Tryd.prog.underlying t with | some (.int k) => some k | _ => none))) = true := by kernel_rfl
theorem FnExactTermText_k29 : ((Rows.fnExactTermTextRow.pinned == Rows.fnExactTermTextRow.pinnedBy)) = true := by kernel_rfl
theorem FnExactTermText_k30 : ((Rows.fnExactTermTextRow.veiled == (Tryd.f3.params.toList ++ Rows.fnExactTermTextSpec.plain.varTypes Tryd.prog ++ Tryd.f3.resultTypes.toList).any (Tryd.prog.veiledRec ·))) = true := by kernel_rfl
theorem FnExactTermText_k31 : (Rows.fnExactTermTextRow.veiledFits Tryd.prog Tryd.f3.params.toList (Tryd.f3.params.toList ++ Rows.fnExactTermTextSpec.plain.varTypes Tryd.prog ++ Tryd.f3.resultTypes.toList)) = true := by kernel_rfl
set_option maxRecDepth 100000 in
theorem FnExactTermText_closed : joinedFacts Tryd.prog 3 Tryd.f3 Rows.fnExactTermTextSpec Rows.fnExactTermTextRow = true := (and2 (and2 (and2 (and2 (and2 (and2 (and2 (and2 (and2 (and2 (and2 (and2 (and2 (and2 (and2 (and2 (and2 (and2 (and2 (and2 (and2 (and2 (and2 (and2 (and2 (and2 (and2 (and2 (and2 (and2 (and2 FnExactTermText_k0 jf1) jf2) FnExactTermText_k3) FnExactTermText_k4) FnExactTermText_k5) jf6) FnExactTermText_k7) jf8) FnExactTermText_k9) FnExactTermText_k10) FnExactTermText_k11) FnExactTermText_k12) FnExactTermText_k13) FnExactTermText_k14) FnExactTermText_k15) FnExactTermText_k16) FnExactTermText_k17) FnExactTermText_k18) FnExactTermText_k19) FnExactTermText_k20) FnExactTermText_k21) jf22) FnExactTermText_k23) jf24) jf25) jf26) jf27) FnExactTermText_k28) FnExactTermText_k29) FnExactTermText_k30) FnExactTermText_k31)
theorem FnExactTermText_row : Rows.FnExactTermTextSaid :=
  OpenClaim.holds_of_wide 3 Tryd.f3 rfl rfl rfl rfl rfl rfl rfl ⟨rfl, rfl, rfl, rfl, rfl⟩ rfl rfl rfl rfl rfl (by kernel_rfl) Tryd.func3 FnExactTermText_closed
    (of_decide_eq_true (by kernel_rfl)) (by unfold Func.isWrapper; first | (rw [if_pos (by decide +kernel)]; kernel_rfl) | (rw [if_neg (by decide +kernel)]; exact ⟨rfl, rfl⟩))
    (fun os started H enc _ => FnExactTermText_lifted os started H enc)

theorem FnExactTermText_proved : Rows.FnExactTermTextCardSaid :=
  Claim7.holds_tied_plain_at .later [] [.data, .data, .data] true (true, "f99c833890630fe10a8756cb874fee36280eea0a08577dc5c4d23fec527fea14") true
    FnExactTermText_row (fun _ h => by cases h) (by kernel_rfl) (fun _ h => by cases h) fnExactTermText_row_tie rfl ⟨rfl, rfl⟩ (by kernel_rfl) rfl
    (fun f fn hf hfn => by
      obtain rfl : f = 3 := Option.some.inj ((show Tryd.prog.funcNamed "loop.example/pinfold/laws.FnExactTermText" = some 3 by kernel_rfl).symm.trans hf) |>.symm
      obtain rfl : fn = Tryd.f3 := (Option.some.inj (Tryd.func3.symm.trans hfn)).symm
      exact ⟨by kernel_rfl, fun j t ht => by
        rw [Tryd.params3] at ht
        have hm : t ∈ [24] := by simpa using Array.mem_of_getElem? ht
        have hall : ([24].all fun u => !Tryd.prog.wantsStandIn u) = true := by kernel_rfl
        exact (show Tryd.prog.wantsStandIn t = false by simpa using List.all_eq_true.1 hall t hm)⟩)
    (by kernel_rfl)
end Go.Proofs.YtknibhdnbkmkiaaDoor
