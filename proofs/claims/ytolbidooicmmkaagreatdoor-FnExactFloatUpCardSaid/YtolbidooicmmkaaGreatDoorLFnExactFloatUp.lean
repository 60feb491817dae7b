/- The program's FloatUp answers as the specification's FloatUp at every argument; it writes into no argument, and what it answers is its own. Condition: the library's tables and its handle of errors hold what their texts lay (the card ties them). -/
import Derived.Test.YtolbidooicmmkaaGreatDoorRows
import Derived.Test.YtolbidooicmmkaaGreatDoorTie
import Derived.Test.YtolbidooicmmkaaGreatDoorCards
import Derived.WalkKit
import Derived.ProofKit
import Derived.OpenShut
import Derived.Below
import Derived.Carry
import Derived.Test.YtolbidooicmmkaaGreatDoorN0
import Derived.Test.YtolbidooicmmkaaGreatDoorBJ
import Derived.Test.YtolbidooicmmkaaGreatDoorFL
import Derived.Test.YtolbidooicmmkaaGreatDoorBU
namespace Go.Proofs.YtolbidooicmmkaaGreatDoor
open Go.ChangeShapes Go.WideShapes Go.ChangeAt Go.RowKit
set_option linter.unusedVariables false
set_option maxRecDepth 100000

set_option maxRecDepth 100000 in
set_option maxHeartbeats 4000000 in
theorem FnExactFloatUp_walk (wd : Int) (b0 : Bool) (a0 : Option Addr) (len0 cap0 : Nat) (xs0 : List Int) (a0' : Option Addr) (len0' cap0' : Nat) (ys0 : List Int) (w : World) (wb0 : InI w a0 len0 cap0 xs0) (wb0' : InI w a0' len0' cap0' ys0) (hT : Tab w ∧ ET w) :
    Calls Tryz.prog 5 #[.int .i64 wd, .agg #[.bool b0, .slice a0 len0 cap0, .slice a0' len0' cap0']] w fun e w' => e = .returned (.bool true) ∧ Below w.heap.size w w' := by
  obtain rfl := wb0.1
  obtain rfl := wb0'.1
  have hlen0 : xs0.length ≤ maxLen := Nat.le_trans wb0.2.1 wb0.2.2.1
  have hlen0' : ys0.length ≤ maxLen := Nat.le_trans wb0'.2.1 wb0'.2.2.1
  have SZ := hd (fun w' => lSzFrac b0 a0 a0' xs0.length ys0.length cap0 cap0' 1048576 w' hlen0 hlen0' (by omega) (by omega))
  unfold szF at SZ
  by_cases c : (xs0.length : Int) + ys0.length ≤ 1048576
  case neg =>
    rw [if_neg c] at SZ
    go_enter Tryz.func5, Tryz.ntmps5
    go_wp2_with fail
    refine (SZ.out _).mono ?_
    rintro e w1 ⟨rfl, hb1⟩
    go_wp2
    go_ret
    exact ⟨rfl, old_trans (old_alloc (Below.refl _ _) _) hb1⟩
  rw [if_pos c] at SZ
  have hl0 : xs0.length ≤ 1048576 := by omega
  have hl0' : ys0.length ≤ 1048576 := by omega
  have c' : ¬ (1048576 - (xs0.length : Int) - (ys0.length : Int) < 0) := by omega
  have TF := hd (fun w' (h : Below w.heap.size w w') => toFracO b0 a0 a0' cap0 cap0' xs0 ys0 w' (wb0.old h) (wb0'.old h) hl0 hl0')
  have S := hd (fun a b la lb ca cb w (h : InI w a la ca xs0) (h' : InI w b lb cb ys0) => sFloatUpA wd b0 a b la lb ca cb xs0 ys0 w h h')
  have I := hd (fun a b la lb ca cb w (h : InI w a la ca xs0) (h' : InI w b lb cb ys0) (hT : Tab w) (hE : ET w) => iFloatUp wd b0 a b la lb ca cb xs0 ys0 w h h' hT hE)
  have hTT := hd hT
  generalize pfH wd b0 xs0 ys0 = r at *
  generalize pfOk wd b0 xs0 ys0 = ok at *
  have K := Cel3.new w (.bool b0) (.slice a0 xs0.length cap0) (.slice a0' ys0.length cap0') 30
  have hB : Below w.heap.size w (w.alloc (.cells #[.bool b0, .slice a0 xs0.length cap0, .slice a0' ys0.length cap0'] 30)) := old_alloc (Below.refl _ _) _
  clear c wb0 wb0' hT hlen0 hlen0'
  go_enter Tryz.func5, Tryz.ntmps5
  go_wp2_with fail
  refine (SZ.out _).mono ?_
  rintro e w1 ⟨rfl, hb1⟩
  replace K := K.old hb1
  replace hB := old_trans hB hb1
  clear hb1 SZ
  obtain ⟨k1, ⟨k2, k3, k4⟩, -⟩ := id K
  go_wp2_with fail
  refine (TF.out _ hB).mono ?_
  rintro e w2 ⟨⟨avP, cvP, avP', cvP', rfl, P, P', -⟩, hb2⟩
  replace K := K.old hb2
  replace hB := old_trans hB hb2
  clear hb2 k1 k2 k3 k4
  go_wp2_with fail
  refine (S.out _ _ _ _ _ _ _ P.inI P'.inI).mono ?_
  rintro e w3 ⟨rfl, hb3⟩
  replace K := K.old hb3
  replace hB := old_trans hB hb3
  clear hb3 P P'
  obtain ⟨k1, ⟨k2, k3, k4⟩, -⟩ := id K
  go_wp2_with fail
  refine (TF.out _ hB).mono ?_
  rintro e w4 ⟨⟨avX, cvX, avX', cvX', rfl, X, X', -⟩, hb4⟩
  replace K := K.old hb4
  replace hB := old_trans hB hb4
  clear hb4 k1 k2 k3 k4
  have N := Cel3.new w4 (.bool b0) (.slice avX xs0.length cvX) (.slice avX' ys0.length cvX') 24
  have hal : Below w4.heap.size w4 (w4.alloc (.cells #[.bool b0, .slice avX xs0.length cvX, .slice avX' ys0.length cvX'] 24)) := old_alloc (Below.refl _ _) _
  have hB4 := old_trans hB hal
  have K4 := K.old hal
  have X4 := X.later hal
  have X4' := X'.later hal
  go_wp2_with fail
  refine (I.out _ _ _ _ _ _ _ X4.inI X4'.inI (hTT.out.1.old hB4) (hTT.out.2.old hB4)).mono ?_
  rintro e w5 ⟨rfl, hb5⟩
  replace N := N.old hb5
  replace K4 := K4.old hb5
  replace X4 := X4.later hb5
  replace X4' := X4'.later hb5
  replace hB4 := old_trans hB4 hb5
  clear hb5 hal hB K X X' S I
  generalize w4.heap.size = NB at *
  obtain ⟨k1, ⟨k2, k3, k4⟩, -⟩ := id K4
  obtain ⟨n1, ⟨n2, n3, n4⟩, -⟩ := id N
  have TG := hd (fun w' (hS : w'.cell? ⟨w.heap.size, 0, none⟩ = some (.bool b0) ∧ w'.cell? ⟨w.heap.size, 1, none⟩ = some (.slice a0 xs0.length cap0) ∧ w'.cell? ⟨w.heap.size, 2, none⟩ = some (.slice a0' ys0.length cap0') ∧ w'.cell? ⟨NB, 0, none⟩ = some (.bool b0) ∧ w'.cell? ⟨NB, 1, none⟩ = some (.slice avX xs0.length cvX) ∧ w'.cell? ⟨NB, 2, none⟩ = some (.slice avX' ys0.length cvX')) (h : Below w5.heap.size w5 w') => (TF.out w' (old_trans hB4 h)).mono (fun e w'' (k : _ ∧ _) => (⟨k, six_old hS k.2⟩ : (_ ∧ _) ∧ (w''.cell? ⟨w.heap.size, 0, none⟩ = some (.bool b0) ∧ w''.cell? ⟨w.heap.size, 1, none⟩ = some (.slice a0 xs0.length cap0) ∧ w''.cell? ⟨w.heap.size, 2, none⟩ = some (.slice a0' ys0.length cap0') ∧ w''.cell? ⟨NB, 0, none⟩ = some (.bool b0) ∧ w''.cell? ⟨NB, 1, none⟩ = some (.slice avX xs0.length cvX) ∧ w''.cell? ⟨NB, 2, none⟩ = some (.slice avX' ys0.length cvX')))))
  have EQ := hd (fun a b ca cb n n' w' (hS : w'.cell? ⟨w.heap.size, 0, none⟩ = some (.bool b0) ∧ w'.cell? ⟨w.heap.size, 1, none⟩ = some (.slice a0 xs0.length cap0) ∧ w'.cell? ⟨w.heap.size, 2, none⟩ = some (.slice a0' ys0.length cap0') ∧ w'.cell? ⟨NB, 0, none⟩ = some (.bool b0) ∧ w'.cell? ⟨NB, 1, none⟩ = some (.slice avX xs0.length cvX) ∧ w'.cell? ⟨NB, 2, none⟩ = some (.slice avX' ys0.length cvX')) (h : Below w5.heap.size w5 w') (hA : OI w' n a ca xs0) (hA' : OI w' n' b cb ys0) => (lEqF b0 avX avX' a b cvX cvX' ca cb _ _ n n' xs0 ys0 w' (X4.later h) (X4'.later h) hA hA').mono (fun e w'' (k : _ ∧ _) => (⟨k, six_old hS k.2⟩ : (_ ∧ _) ∧ (w''.cell? ⟨w.heap.size, 0, none⟩ = some (.bool b0) ∧ w''.cell? ⟨w.heap.size, 1, none⟩ = some (.slice a0 xs0.length cap0) ∧ w''.cell? ⟨w.heap.size, 2, none⟩ = some (.slice a0' ys0.length cap0') ∧ w''.cell? ⟨NB, 0, none⟩ = some (.bool b0) ∧ w''.cell? ⟨NB, 1, none⟩ = some (.slice avX xs0.length cvX) ∧ w''.cell? ⟨NB, 2, none⟩ = some (.slice avX' ys0.length cvX')))))
  go_wp2_with fail
  go_region_held3 (fun w' => w'.cell? ⟨w.heap.size, 0, none⟩ = some (.bool b0) ∧ w'.cell? ⟨w.heap.size, 1, none⟩ = some (.slice a0 xs0.length cap0) ∧ w'.cell? ⟨w.heap.size, 2, none⟩ = some (.slice a0' ys0.length cap0') ∧ w'.cell? ⟨NB, 0, none⟩ = some (.bool b0) ∧ w'.cell? ⟨NB, 1, none⟩ = some (.slice avX xs0.length cvX) ∧ w'.cell? ⟨NB, 2, none⟩ = some (.slice avX' ys0.length cvX')) (go_keep) (first | (go_at_call 19; refine (TG.out _ (by assumption) (by repeat (first | exact Below.refl _ _ | refine Below.drew ?_ | refine old_trans ?_ (by assumption)))).mono ?_; rintro e w6 ⟨⟨⟨avZ, cvZ, avZ', cvZ', rfl, Z, Z', -⟩, hb6⟩, hc6⟩) | (go_at_call 14; refine (EQ.out _ _ _ _ _ _ _ (by assumption) (by repeat (first | exact Below.refl _ _ | refine Below.drew ?_ | refine old_trans ?_ (by assumption))) Z Z').mono ?_; rintro e w7 ⟨⟨rfl, hb7⟩, hc7⟩))
  all_goals
    go_wp2
    go_ret
    exact ⟨rfl, (by repeat (first | exact hB4 | refine Below.drew ?_ | refine old_trans ?_ (by assumption)))⟩

set_option maxRecDepth 100000 in
theorem FnExactFloatUp_lifted (os : Os) (started : os.Started) (H : Type) (enc : TypeId × Value → H) :
    ReturnsInHanded {} Tryz.checked os 5 .any (fun w args => (Rows.fnExactFloatUpSpec.pre enc Tryz.prog Tryz.f5 [] false w args ∧ laidMetH Tryz.prog LHL w) ∧ sizedMet enc Tryz.prog Tryz.f5 (OpenSpec.ofChange Rows.fnExactFloatUpSpec) false w args)
      (Rows.fnExactFloatUpSpec.post enc Tryz.prog Tryz.f5 false true false false) := by
  refine returnsInHanded_of_change_and (C := Tryz.checked) (X := fun w _ => laidMetH Tryz.prog LHL w) (fun _ _ _ hh h => h.of_heap hh) LH_own started (by kernel_rfl) Tryz.func5
    (ChangeSpec.witness_shaped (enc := enc) (C := Tryz.checked) (os := os) (X := fun w _ => laidMetH Tryz.prog LHL w) false (World.doorLaid Tryz.prog LH_fuel os) #[.int .i64 0, .agg #[.bool false, .slice none 0 0, .slice none 0 0]] 8 rfl (LH_shaped os _) (by kernel_rfl) (by kernel_rfl) (by kernel_rfl) (LH_met os _)) ?_
  intro W base args ds gs before hval0 hW _ _ hL _
  have hval : ∀ (j : Nat) t v, Tryz.f5.params[j]? = some t → args[j]? = some v → Value.okWide Tryz.prog W .any base t v := hval0
  have hW' := hW
  obtain ⟨p, q, hA0, hV, rfl, hfz, hnd⟩ := hW
  have hA : DataW.TrodAll enc Tryz.prog W 0 (fun _ => true) true Tryz.f5.params.toList args.toList ds p := hA0
  rw [Tryz.params5] at hA hval
  obtain ⟨v0, vs0, d0, ds0, p0, q0, hargs, rfl, rfl, h0, r0⟩ := trodAll_cons hA
  obtain ⟨v1, vs1, d1, ds1, p1, q1, rfl, rfl, rfl, h1, r1⟩ := trodAll_cons r0
  obtain ⟨rfl, rfl, rfl⟩ := trodAll_nil r1
  obtain rfl : args = #[v0, v1] := by cases args; simp_all
  obtain ⟨rfl, rfl⟩ := trodVars_none hV
  have k0 := h0
  have lt0 : ∀ x ∈ p0, x.block < W.heap.size := by obtain ⟨m, hm⟩ := k0; exact DataW.trod_lt m _ _ _ hm
  obtain ⟨wd, rfl, -, -, wf0⟩ := open_int Tryz.underlying3 (hval 0 3 v0 rfl rfl) h0
  have k1 := h1
  have lt1 : ∀ x ∈ p1, x.block < W.heap.size := by obtain ⟨m, hm⟩ := k1; exact DataW.trod_lt m _ _ _ hm
  obtain ⟨b0, a0, len0, cap0, xs0, a0', len0', cap0', ys0, rfl, wb0, wb0'⟩ := open_lfrac (hval 1 30 v1 rfl rfl) h1
  clear hA0 hval0
  refine (FnExactFloatUp_walk wd b0 a0 len0 cap0 xs0 a0' len0' cap0' ys0 W wb0 wb0' (both_of hL)).mono fun e W' ⟨he, bel⟩ => ?_
  subst he
  exact ⟨_, rfl, _, _, _, [], _, [], hW', trodAll_mk1 (shut_bool Tryz.underlying4 _), (trodAll_cons_mk (Below.trod jf1 (by kernel_rfl) (of_decide_eq_true (by kernel_rfl)) k0 bel lt0) (trodAll_cons_mk (Below.trod jf1 (by kernel_rfl) (of_decide_eq_true (by kernel_rfl)) k1 bel lt1) trodAll_mk0)), rfl, bel.frame _, fun h => by cases h⟩

theorem FnExactFloatUp_k0 : (Rows.fnExactFloatUpRow.wf (OpenSpec.ofChange Rows.fnExactFloatUpSpec)) = true := by kernel_rfl
theorem FnExactFloatUp_k3 : (Tryz.f5.params.all (Tryz.prog.readableRec ·)) = true := by kernel_rfl
theorem FnExactFloatUp_k4 : (namedTie Tryz.prog Rows.fnExactFloatUpRow.named Rows.fnExactFloatUpSpec.vars) = true := by kernel_rfl
theorem FnExactFloatUp_k5 : ((Rows.fnExactFloatUpRow.stops == [])) = true := by kernel_rfl
theorem FnExactFloatUp_k7 : ((Rows.fnExactFloatUpRow.knobs == [])) = true := by kernel_rfl
theorem FnExactFloatUp_k9 : ((Rows.fnExactFloatUpRow.inPlace == Tryz.prog.inPlace 5)) = true := by kernel_rfl
theorem FnExactFloatUp_k10 : ((Rows.fnExactFloatUpRow.unfollowed == Tryz.prog.unfollowed 5)) = true := by kernel_rfl
theorem FnExactFloatUp_k11 : ((Rows.fnExactFloatUpRow.recurses == Tryz.prog.recurses 5)) = true := by kernel_rfl
theorem FnExactFloatUp_k12 : ((Rows.fnExactFloatUpRow.named == Tryz.prog.varsNamed 5)) = true := by kernel_rfl
theorem FnExactFloatUp_k13 : ((Rows.fnExactFloatUpRow.maps == (Tryz.f5.params.toList ++ Rows.fnExactFloatUpSpec.plain.varTypes Tryz.prog).any (Tryz.prog.mapsRec ·))) = true := by kernel_rfl
theorem FnExactFloatUp_k14 : ((Rows.fnExactFloatUpRow.ifaces == (Tryz.f5.params.toList ++ Rows.fnExactFloatUpSpec.plain.varTypes Tryz.prog).any (Tryz.prog.ifacesRec ·))) = true := by kernel_rfl
theorem FnExactFloatUp_k15 : ((Rows.fnExactFloatUpRow.mapsOut == Tryz.prog.mapsAmong Tryz.f5.resultTypes.toList)) = true := by kernel_rfl
theorem FnExactFloatUp_k16 : ((Rows.fnExactFloatUpRow.loops == (Tryz.f5.params.toList ++ Rows.fnExactFloatUpSpec.plain.varTypes Tryz.prog).any (Tryz.prog.loopsFrom ·))) = true := by kernel_rfl
theorem FnExactFloatUp_k17 : ((Rows.fnExactFloatUpRow.wideKeys == (Tryz.f5.params.toList ++ Rows.fnExactFloatUpSpec.plain.varTypes Tryz.prog ++ Tryz.f5.resultTypes.toList).any (Tryz.prog.wideKeysFrom ·))) = true := by kernel_rfl
theorem FnExactFloatUp_k18 : (Rows.fnExactFloatUpSpec.vars.all (Tryz.prog.varReadable ·)) = true := by kernel_rfl
theorem FnExactFloatUp_k19 : (Tryz.f5.resultTypes.all (fun t => Tryz.prog.readableRec t && decide (t < Tryz.prog.types.size))) = true := by kernel_rfl
theorem FnExactFloatUp_k20 : ((Rows.fnExactFloatUpRow.ifacesOut == Tryz.f5.resultTypes.toList.any (Tryz.prog.ifacesRec ·))) = true := by kernel_rfl
theorem FnExactFloatUp_k21 : ((Rows.fnExactFloatUpRow.loopsOut == Tryz.f5.resultTypes.toList.any (Tryz.prog.loopsFrom ·))) = true := by kernel_rfl
theorem FnExactFloatUp_k23 : (Rows.fnExactFloatUpRow.shortTexts.isNone) = true := by kernel_rfl
theorem FnExactFloatUp_k28 : ((Rows.fnExactFloatUpRow.kinds == (if Rows.fnExactFloatUpRow.domain.isEmpty then [] else Tryz.f5.params.toList.map fun t => match Tryz.prog.underlying t with | some (.int k) => some k | _ => none))) = true := by kernel_rfl
theorem FnExactFloatUp_k29 : ((Rows.fnExactFloatUpRow.pinned == Rows.fnExactFloatUpRow.pinnedBy)) = true := by kernel_rfl
theorem FnExactFloatUp_k30 : ((Rows.fnExactFloatUpRow.veiled == (Tryz.f5.params.toList ++ Rows.fnExactFloatUpSpec.plain.varTypes Tryz.prog ++ Tryz.f5.resultTypes.toList).any (Tryz.prog.veiledRec ·))) = true := by kernel_rfl
theorem FnExactFloatUp_k31 : (Rows.fnExactFloatUpRow.veiledFits Tryz.prog Tryz.f5.params.toList (Tryz.f5.params.toList ++ Rows.fnExactFloatUpSpec.plain.varTypes Tryz.prog ++ Tryz.f5.resultTypes.toList)) = true := by kernel_rfl
set_option maxRecDepth 100000 in
theorem FnExactFloatUp_closed : joinedFacts Tryz.prog 5 Tryz.f5 Rows.fnExactFloatUpSpec Rows.fnExactFloatUpRow = true := (and2 (and2 (and2 (and2 (and2 (and2 (and2 (and2 (and2 (and2 (and2 (and2 (and2 (and2 (and2 (and2 (and2 (and2 (and2 (and2 (and2 (and2 (and2 (and2 (and2 (and2 (and2 (and2 (and2 (and2 (and2 FnExactFloatUp_k0 jf1) jf2) FnExactFloatUp_k3) FnExactFloatUp_k4) FnExactFloatUp_k5) jf6) FnExactFloatUp_k7) jf8) FnExactFloatUp_k9) FnExactFloatUp_k10) FnExactFloatUp_k11) FnExactFloatUp_k12) FnExactFloatUp_k13) FnExactFloatUp_k14) FnExactFloatUp_k15) FnExactFloatUp_k16) FnExactFloatUp_k17) FnExactFloatUp_k18) FnExactFloatUp_k19) FnExactFloatUp_k20) FnExactFloatUp_k21) jf22) FnExactFloatUp_k23) jf24) jf25) jf26) jf27) FnExactFloatUp_k28) FnExactFloatUp_k29) FnExactFloatUp_k30) FnExactFloatUp_k31)
theorem FnExactFloatUp_row : Rows.FnExactFloatUpSaid :=
  OpenClaim.holds_of_wide 5 Tryz.f5 rfl rfl rfl rfl rfl rfl rfl ⟨rfl, rfl, rfl, rfl, rfl⟩ rfl rfl rfl rfl rfl (by kernel_rfl) Tryz.func5 FnExactFloatUp_closed
    (of_decide_eq_true (by kernel_rfl)) (by unfold Func.isWrapper; first | (rw [if_pos (by decide +kernel)]; kernel_rfl) | (rw [if_neg (by decide +kernel)]; exact ⟨rfl, rfl⟩))
    (fun os started H enc _ => FnExactFloatUp_lifted os started H enc)

theorem FnExactFloatUp_proved : Rows.FnExactFloatUpCardSaid :=
  Claim7.holds_tied_plain_at .later [] [.data, .data, .handle] true (true, "d48ad5c7555e276af5b1c612258beb3e89dc1ce490534c90b3196009b2b2ffd3") true
    FnExactFloatUp_row (fun _ h => by cases h) (by kernel_rfl) (fun _ h => by cases h) fnExactFloatUp_row_tie rfl ⟨rfl, rfl⟩ (by kernel_rfl) rfl
    (fun f fn hf hfn => by
      obtain rfl : f = 5 := Option.some.inj ((show Tryz.prog.funcNamed "loop.example/pinfold/laws.FnExactFloatUp" = some 5 by kernel_rfl).symm.trans hf) |>.symm
      obtain rfl : fn = Tryz.f5 := (Option.some.inj (Tryz.func5.symm.trans hfn)).symm
      exact ⟨by kernel_rfl, fun j t ht => by
        rw [Tryz.params5] at ht
        have hm : t ∈ [3, 30] := by simpa using Array.mem_of_getElem? ht
        have hall : ([3, 30].all fun u => !Tryz.prog.wantsStandIn u) = true := by kernel_rfl
        exact (show Tryz.prog.wantsStandIn t = false by simpa using List.all_eq_true.1 hall t hm)⟩)
    (by kernel_rfl)
end Go.Proofs.YtolbidooicmmkaaGreatDoor
