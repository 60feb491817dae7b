/- The program's FracSign answers as the specification's FracSign at every argument; it writes into no argument, and what it answers is its own. Condition: the library's tables and its handle of errors hold what their texts lay (the card ties them). -/
import Derived.Test.YtpamnpdigoikoaaDoorRows
import Derived.Test.YtpamnpdigoikoaaDoorTie
import Derived.Test.YtpamnpdigoikoaaDoorCards
import Derived.WalkKit
import Derived.ProofKit
import Derived.OpenShut
import Derived.Below
import Derived.Carry
import Derived.Test.YtpamnpdigoikoaaDoorN0
import Derived.Test.YtpamnpdigoikoaaDoorLH
import Derived.Test.YtpamnpdigoikoaaDoorFL
import Derived.Test.YtpamnpdigoikoaaDoorBJ
namespace Go.Proofs.YtpamnpdigoikoaaDoor
open Go.ChangeShapes Go.WideShapes Go.ChangeAt Go.RowKit
set_option linter.unusedVariables false
set_option maxRecDepth 100000

set_option maxRecDepth 100000 in
set_option maxHeartbeats 4000000 in
theorem FnExactFracSign_walk (b0 : Bool) (a0 : Option Addr) (len0 cap0 : Nat) (xs0 : List Int) (a0' : Option Addr) (len0' cap0' : Nat) (ys0 : List Int) (w : World) (wb0 : InI w a0 len0 cap0 xs0) (wb0' : InI w a0' len0' cap0' ys0) (hT : Tab w ∧ ET w) :
    Calls Tryd.prog 8 #[.agg #[.bool b0, .slice a0 len0 cap0, .slice a0' len0' cap0']] w fun e w' => e = .returned (.bool true) ∧ Below w.heap.size w w' := by
  obtain rfl := wb0.1
  obtain rfl := wb0'.1
  have hlen0 : xs0.length ≤ maxLen := Nat.le_trans wb0.2.1 wb0.2.2.1
  have hlen0' : ys0.length ≤ maxLen := Nat.le_trans wb0'.2.1 wb0'.2.2.1
  have SZ := hd (fun w' => lSzFrac b0 a0 a0' xs0.length ys0.length cap0 cap0' 1048576 w' hlen0 hlen0' (by omega) (by omega))
  unfold szF at SZ
  by_cases c : (xs0.length : Int) + ys0.length ≤ 1048576
  case neg =>
    rw [if_neg c] at SZ
    go_enter Tryd.func8, Tryd.ntmps8
    go_wp2_with fail
    refine (SZ.out _).mono ?_
    rintro e w1 ⟨rfl, hb1⟩
    go_wp2
    go_ret
    exact ⟨rfl, old_trans (old_alloc (Below.refl _ _) _) hb1⟩
  rw [if_pos c] at SZ
  have hl0 : xs0.length ≤ 1048576 := by omega
  have hl0' : ys0.length ≤ 1048576 := by omega
  have c' : ¬ (1048576 - (xs0.length : Int) - (ys0.length : Int) < 0) := by omega
  have TF := hd (fun w' (h : Below w.heap.size w w') => toFracO b0 a0 a0' cap0 cap0' xs0 ys0 w' (wb0.old h) (wb0'.old h) hl0 hl0')
  have S := hd (fun a b la lb ca cb w (h : InI w a la ca xs0) (h' : InI w b lb cb ys0) => sFracSign b0 a b la lb ca cb xs0 ys0 w h h')
  have I := hd (fun a b la lb ca cb w (h : InI w a la ca xs0) (h' : InI w b lb cb ys0) (hT : Tab w) (hE : ET w) => iFracSign b0 a b la lb ca cb xs0 ys0 w h h' hT hE)
  have hTT := hd hT
  generalize signI (fracOk b0 xs0 ys0) b0 xs0.length = r at *
  have K := Cel3.new w (.bool b0) (.slice a0 xs0.length cap0) (.slice a0' ys0.length cap0') 35
  have hB : Below w.heap.size w (w.alloc (.cells #[.bool b0, .slice a0 xs0.length cap0, .slice a0' ys0.length cap0'] 35)) := old_alloc (Below.refl _ _) _
  clear c wb0 wb0' hT hlen0 hlen0'
  go_enter Tryd.func8, Tryd.ntmps8
  go_wp2_with fail
  refine (SZ.out _).mono ?_
  rintro e w1 ⟨rfl, hb1⟩
  replace K := K.old hb1
  replace hB := old_trans hB hb1
  clear hb1 SZ
  obtain ⟨k1, ⟨k2, k3, k4⟩, -⟩ := id K
  go_wp2_with fail
  refine (TF.out _ hB).mono ?_
  rintro e w2 ⟨⟨avP, cvP, avP', cvP', rfl, P, P', -⟩, hb2⟩
  replace K := K.old hb2
  replace hB := old_trans hB hb2
  clear hb2 k1 k2 k3 k4
  go_wp2_with fail
  refine (S.out _ _ _ _ _ _ _ P.inI P'.inI).mono ?_
  rintro e w3 ⟨rfl, hb3⟩
  replace K := K.old hb3
  replace hB := old_trans hB hb3
  clear hb3 P P'
  obtain ⟨k1, ⟨k2, k3, k4⟩, -⟩ := id K
  go_wp2_with fail
  refine (TF.out _ hB).mono ?_
  rintro e w4 ⟨⟨avX, cvX, avX', cvX', rfl, X, X', -⟩, hb4⟩
  replace K := K.old hb4
  replace hB := old_trans hB hb4
  clear hb4 k1 k2 k3 k4
  have N := Cel3.new w4 (.bool b0) (.slice avX xs0.length cvX) (.slice avX' ys0.length cvX') 38
  have hal : Below w4.heap.size w4 (w4.alloc (.cells #[.bool b0, .slice avX xs0.length cvX, .slice avX' ys0.length cvX'] 38)) := old_alloc (Below.refl _ _) _
  have hB4 := old_trans hB hal
  have K4 := K.old hal
  have X4 := X.later hal
  have X4' := X'.later hal
  go_wp2_with fail
  refine (I.out _ _ _ _ _ _ _ X4.inI X4'.inI (hTT.out.1.old hB4) (hTT.out.2.old hB4)).mono ?_
  rintro e w5 ⟨rfl, hb5⟩
  replace N := N.old hb5
  replace K4 := K4.old hb5
  replace X4 := X4.later hb5
  replace X4' := X4'.later hb5
  replace hB4 := old_trans hB4 hb5
  clear hb5 hal hB K X X' S I
  generalize w4.heap.size = NB at *
  obtain ⟨k1, ⟨k2, k3, k4⟩, -⟩ := id K4
  obtain ⟨n1, ⟨n2, n3, n4⟩, -⟩ := id N
  have TG := hd (fun w' (hS : w'.cell? ⟨w.heap.size, 0, none⟩ = some (.bool b0) ∧ w'.cell? ⟨w.heap.size, 1, none⟩ = some (.slice a0 xs0.length cap0) ∧ w'.cell? ⟨w.heap.size, 2, none⟩ = some (.slice a0' ys0.length cap0') ∧ w'.cell? ⟨NB, 0, none⟩ = some (.bool b0) ∧ w'.cell? ⟨NB, 1, none⟩ = some (.slice avX xs0.length cvX) ∧ w'.cell? ⟨NB, 2, none⟩ = some (.slice avX' ys0.length cvX')) (h : Below w5.heap.size w5 w') => (TF.out w' (old_trans hB4 h)).mono (fun e w'' (k : _ ∧ _) => (⟨k, six_old hS k.2⟩ : (_ ∧ _) ∧ (w''.cell? ⟨w.heap.size, 0, none⟩ = some (.bool b0) ∧ w''.cell? ⟨w.heap.size, 1, none⟩ = some (.slice a0 xs0.length cap0) ∧ w''.cell? ⟨w.heap.size, 2, none⟩ = some (.slice a0' ys0.length cap0') ∧ w''.cell? ⟨NB, 0, none⟩ = some (.bool b0) ∧ w''.cell? ⟨NB, 1, none⟩ = some (.slice avX xs0.length cvX) ∧ w''.cell? ⟨NB, 2, none⟩ = some (.slice avX' ys0.length cvX')))))
  have EQ := hd (fun a b ca cb n n' w' (hS : w'.cell? ⟨w.heap.size, 0, none⟩ = some (.bool b0) ∧ w'.cell? ⟨w.heap.size, 1, none⟩ = some (.slice a0 xs0.length cap0) ∧ w'.cell? ⟨w.heap.size, 2, none⟩ = some (.slice a0' ys0.length cap0') ∧ w'.cell? ⟨NB, 0, none⟩ = some (.bool b0) ∧ w'.cell? ⟨NB, 1, none⟩ = some (.slice avX xs0.length cvX) ∧ w'.cell? ⟨NB, 2, none⟩ = some (.slice avX' ys0.length cvX')) (h : Below w5.heap.size w5 w') (hA : OI w' n a ca xs0) (hA' : OI w' n' b cb ys0) => (lEqF b0 avX avX' a b cvX cvX' ca cb _ _ n n' xs0 ys0 w' (X4.later h) (X4'.later h) hA hA').mono (fun e w'' (k : _ ∧ _) => (⟨k, six_old hS k.2⟩ : (_ ∧ _) ∧ (w''.cell? ⟨w.heap.size, 0, none⟩ = some (.bool b0) ∧ w''.cell? ⟨w.heap.size, 1, none⟩ = some (.slice a0 xs0.length cap0) ∧ w''.cell? ⟨w.heap.size, 2, none⟩ = some (.slice a0' ys0.length cap0') ∧ w''.cell? ⟨NB, 0, none⟩ = some (.bool b0) ∧ w''.cell? ⟨NB, 1, none⟩ = some (.slice avX xs0.length cvX) ∧ w''.cell? ⟨NB, 2, none⟩ = some (.slice avX' ys0.length cvX')))))
  go_wp2_with fail
  go_region_held3 (fun w' => w'.cell? ⟨w.heap.size, 0, none⟩ = some (.bool b0) ∧ w'.cell? ⟨w.heap.size, 1, none⟩ = some (.slice a0 xs0.length cap0) ∧ w'.cell? ⟨w.heap.size, 2, none⟩ = some (.slice a0' ys0.length cap0') ∧ w'.cell? ⟨NB, 0, none⟩ = some (.bool b0) ∧ w'.cell? ⟨NB, 1, none⟩ = some (.slice avX xs0.length cvX) ∧ w'.cell? ⟨NB, 2, none⟩ = some (.slice avX' ys0.length cvX')) (go_keep) (first | (go_at_call 23; refine (TG.out _ (by assumption) (by repeat (first | exact Below.refl _ _ | refine Below.drew ?_ | refine old_trans ?_ (by assumption)))).mono ?_; rintro e w6 ⟨⟨⟨avZ, cvZ, avZ', cvZ', rfl, Z, Z', -⟩, hb6⟩, hc6⟩) | (go_at_call 25; refine (EQ.out _ _ _ _ _ _ _ (by assumption) (by repeat (first | exact Below.refl _ _ | refine Below.drew ?_ | refine old_trans ?_ (by assumption))) Z Z').mono ?_; rintro e w7 ⟨⟨rfl, hb7⟩, hc7⟩))
  all_goals
    go_wp2
    go_ret
    exact ⟨rfl, (by repeat (first | exact hB4 | refine Below.drew ?_ | refine old_trans ?_ (by assumption)))⟩

set_option maxRecDepth 100000 in
theorem FnExactFracSign_lifted (os : Os) (started : os.Started) (H : Type) (enc : TypeId × Value → H) :
    ReturnsInHanded {} Tryd.checked os 8 .any (fun w args => (Rows.fnExactFracSignSpec.pre enc Tryd.prog Tryd.f8 [] false w args ∧ laidMetH Tryd.prog LHL w) ∧ sizedMet enc Tryd.prog Tryd.f8 (OpenSpec.ofChange Rows.fnExactFracSignSpec) false w args)
      (Rows.fnExactFracSignSpec.post enc Tryd.prog Tryd.f8 false true false false) := by
  refine returnsInHanded_of_change_and (C := Tryd.checked) (X := fun w _ => laidMetH Tryd.prog LHL w) (fun _ _ _ hh h => h.of_heap hh) LH_own started (by kernel_rfl) Tryd.func8
    (ChangeSpec.witness_shaped (enc := enc) (C := Tryd.checked) (os := os) (X := fun w _ => laidMetH Tryd.prog LHL w) false (World.doorLaid Tryd.prog LH_fuel os) #[.agg #[.bool false, .slice none 0 0, .slice none 0 0]] 8 rfl (LH_shaped os _) (by kernel_rfl) (by kernel_rfl) (by kernel_rfl) (LH_met os _)) ?_
  intro W base args ds gs before hval0 hW _ _ hL _
  have hval : ∀ (j : Nat) t v, Tryd.f8.params[j]? = some t → args[j]? = some v → Value.okWide Tryd.prog W .any base t v := hval0
  have hW' := hW
  obtain ⟨p, q, hA0, hV, rfl, hfz, hnd⟩ := hW
  have hA : DataW.TrodAll enc Tryd.prog W 0 (fun _ => true) true Tryd.f8.params.toList args.toList ds p := hA0
  rw [Tryd.params8] at hA hval
  obtain ⟨v0, vs0, d0, ds0, p0, q0, hargs, rfl, rfl, h0, r0⟩ := trodAll_cons hA
  obtain ⟨rfl, rfl, rfl⟩ := trodAll_nil r0
  obtain rfl : args = #[v0] := by cases args; simp_all
  obtain ⟨rfl, rfl⟩ := trodVars_none hV
  have k0 := h0
  have lt0 : ∀ x ∈ p0, x.block < W.heap.size := by obtain ⟨m, hm⟩ := k0; exact DataW.trod_lt m _ _ _ hm
  obtain ⟨b0, a0, len0, cap0, xs0, a0', len0', cap0', ys0, rfl, wb0, wb0'⟩ := open_lfrac (hval 0 35 v0 rfl rfl) h0
  clear hA0 hval0
  refine (FnExactFracSign_walk b0 a0 len0 cap0 xs0 a0' len0' cap0' ys0 W wb0 wb0' (both_of hL)).mono fun e W' ⟨he, bel⟩ => ?_
  subst he
  exact ⟨_, rfl, _, _, _, [], _, [], hW', trodAll_mk1 (shut_bool Tryd.underlying4 _), (trodAll_cons_mk (Below.trod jf1 (by kernel_rfl) (of_decide_eq_true (by kernel_rfl)) k0 bel lt0) trodAll_mk0), rfl, bel.frame _, fun h => by cases h⟩

theorem FnExactFracSign_k0 : (Rows.fnExactFracSignRow.wf (OpenSpec.ofChange Rows.fnExactFracSignSpec)) = true := by kernel_rfl
theorem FnExactFracSign_k3 : (Tryd.f8.params.all (Tryd.prog.readableRec ·)) = true := by kernel_rfl
theorem FnExactFracSign_k4 : (namedTie Tryd.prog Rows.fnExactFracSignRow.named Rows.fnExactFracSignSpec.vars) = true := by kernel_rfl
theorem FnExactFracSign_k5 : ((Rows.fnExactFracSignRow.stops == [])) = true := by kernel_rfl
theorem FnExactFracSign_k7 : ((Rows.fnExactFracSignRow.knobs == [])) = true := by kernel_rfl
theorem FnExactFracSign_k9 : ((Rows.fnExactFracSignRow.inPlace == Tryd.prog.inPlace 8)) = true := by kernel_rfl
theorem FnExactFracSign_k10 : ((Rows.fnExactFracSignRow.unfollowed == Tryd.prog.unfollowed 8)) = true := by kernel_rfl
theorem FnExactFracSign_k11 : ((Rows.fnExactFracSignRow.recurses == Tryd.prog.recurses 8)) = true := by kernel_rfl
theorem FnExactFracSign_k12 : ((Rows.fnExactFracSignRow.named == Tryd.prog.varsNamed 8)) = true := by kernel_rfl
theorem FnExactFracSign_k13 : ((Rows.fnExactFracSignRow.maps == (Tryd.f8.params.toList ++ Rows.fnExactFracSignSpec.plain.varTypes Tryd.prog).any (Tryd.prog.mapsRec ·))) = true := by kernel_rfl
theorem FnExactFracSign_k14 : ((Rows.fnExactFracSignRow.ifaces == (Tryd.f8.params.toList ++ Rows.fnExactFracSignSpec.plain.varTypes Tryd.prog).any (Tryd.prog.ifacesRec ·))) = true := by kernel_rfl
theorem FnExactFracSign_k15 : ((Rows.fnExactFracSignRow.mapsOut == Tryd.prog.mapsAmong Tryd.f8.resultTypes.toList)) = true := by kernel_rfl
theorem FnExactFracSign_k16 : ((Rows.fnExactFracSignRow.loops == (Tryd.f8.params.toList ++ Rows.fnExactFracSignSpec.plain.varTypes Tryd.prog).any (Tryd.prog.loopsFrom ·))) = true := by kernel_rfl
theorem FnExactFracSign_k17 : ((Rows.fnExactFracSignRow.wideKeys == (Tryd.f8.params.toList ++ Rows.fnExactFracSignSpec.plain.varTypes Tryd.prog ++ Tryd.f8.resultTypes.toList).any (Tryd.prog.wideKeysFrom ·))) = true := by kernel_rfl
theorem FnExactFracSign_k18 : (Rows.fnExactFracSignSpec.vars.all (Tryd.prog.varReadable ·)) = true := by kernel_rfl
theorem FnExactFracSign_k19 : (Tryd.f8.resultTypes.all (fun t => Tryd.prog.readableRec t && decide (t < Tryd.prog.types.size))) = true := by kernel_rfl
theorem FnExactFracSign_k20 : ((Rows.fnExactFracSignRow.ifacesOut == Tryd.f8.resultTypes.toList.any (Tryd.prog.ifacesRec ·))) = true := by kernel_rfl
theorem FnExactFracSign_k21 : ((Rows.fnExactFracSignRow.loopsOut == Tryd.f8.resultTypes.toList.any (Tryd.prog.loopsFrom ·))) = true := by kernel_rfl
theorem FnExactFracSign_k23 : (Rows.fnExactFracSignRow.shortTexts.isNone) = true := by kernel_rfl
theorem FnExactFracSign_k28 : ((Rows.fnExactFracSignRow.kinds == (if Rows.fnExactFracSignRow.domain.isEmpty then [] else Tryd.f8.params.toList.map fun t => match Tryd.prog.underlying t with | some (.int k) => some k | _ => none))) = true := by kernel_rfl
theorem FnExactFracSign_k29 : ((Rows.fnExactFracSignRow.pinned == Rows.fnExactFracSignRow.pinnedBy)) = true := by kernel_rfl
theorem FnExactFracSign_k30 : ((Rows.fnExactFracSignRow.veiled == (Tryd.f8.params.toList ++ Rows.fnExactFracSignSpec.plain.varTypes Tryd.prog ++ Tryd.f8.resultTypes.toList).any (Tryd.prog.veiledRec ·))) = true := by kernel_rfl
theorem FnExactFracSign_k31 : (Rows.fnExactFracSignRow.veiledFits Tryd.prog Tryd.f8.params.toList (Tryd.f8.params.toList ++ Rows.fnExactFracSignSpec.plain.varTypes Tryd.prog ++ Tryd.f8.resultTypes.toList)) = true := by kernel_rfl
set_option maxRecDepth 100000 in
theorem FnExactFracSign_closed : joinedFacts Tryd.prog 8 Tryd.f8 Rows.fnExactFracSignSpec Rows.fnExactFracSignRow = true := (and2 (and2 (and2 (and2 (and2 (and2 (and2 (and2 (and2 (and2 (and2 (and2 (and2 (and2 (and2 (and2 (and2 (and2 (and2 (and2 (and2 (and2 (and2 (and2 (and2 (and2 (and2 (and2 (and2 (and2 (and2 FnExactFracSign_k0 jf1) jf2) FnExactFracSign_k3) FnExactFracSign_k4) FnExactFracSign_k5) jf6) FnExactFracSign_k7) jf8) FnExactFracSign_k9) FnExactFracSign_k10) FnExactFracSign_k11) FnExactFracSign_k12) FnExactFracSign_k13) FnExactFracSign_k14) FnExactFracSign_k15) FnExactFracSign_k16) FnExactFracSign_k17) FnExactFracSign_k18) FnExactFracSign_k19) FnExactFracSign_k20) FnExactFracSign_k21) jf22) FnExactFracSign_k23) jf24) jf25) jf26) jf27) FnExactFracSign_k28) FnExactFracSign_k29) FnExactFracSign_k30) FnExactFracSign_k31)
theorem FnExactFracSign_row : Rows.FnExactFracSignSaid :=
  OpenClaim.holds_of_wide 8 Tryd.f8 rfl rfl rfl rfl rfl rfl rfl ⟨rfl, rfl, rfl, rfl, rfl⟩ rfl rfl rfl rfl rfl (by kernel_rfl) Tryd.func8 FnExactFracSign_closed
    (of_decide_eq_true (by kernel_rfl)) (by unfold Func.isWrapper; first | (rw [if_pos (by decide +kernel)]; kernel_rfl) | (rw [if_neg (by decide +kernel)]; exact ⟨rfl, rfl⟩))
    (fun os started H enc _ => FnExactFracSign_lifted os started H enc)

theorem FnExactFracSign_proved : Rows.FnExactFracSignCardSaid :=
  Claim7.holds_tied_plain_at .later [] [.data, .data, .handle] true (true, "6f21039d4a4c9ff674e44c4929c0c3c93ca81af254afb800033856e427f768f3") true
    FnExactFracSign_row (fun _ h => by cases h) (by kernel_rfl) (fun _ h => by cases h) fnExactFracSign_row_tie rfl ⟨rfl, rfl⟩ (by kernel_rfl) rfl
    (fun f fn hf hfn => by
      obtain rfl : f = 8 := Option.some.inj ((show Tryd.prog.funcNamed "loop.example/pinfold/laws.FnExactFracSign" = some 8 by kernel_rfl).symm.trans hf) |>.symm
      obtain rfl : fn = Tryd.f8 := (Option.some.inj (Tryd.func8.symm.trans hfn)).symm
      exact ⟨by kernel_rfl, fun j t ht => by
        rw [Tryd.params8] at ht
        have hm : t ∈ [35] := by simpa using Array.mem_of_getElem? ht
        have hall : ([35].all fun u => !Tryd.prog.wantsStandIn u) = true := by kernel_rfl
        exact (show Tryd.prog.wantsStandIn t = false by simpa using List.all_eq_true.1 hall t hm)⟩)
    (by kernel_rfl)
end Go.Proofs.YtpamnpdigoikoaaDoor
