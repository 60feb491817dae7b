/- The program's FloatNear answers as the specification's FloatNear at every argument; it writes into no argument, and what it answers is its own. Condition: the library's tables and its handle of errors hold what their texts lay (the card ties them). -/
import Derived.Test.YtcfbdibjjhifpaaGreatDoorRows
import Derived.Test.YtcfbdibjjhifpaaGreatDoorTie
import Derived.Test.YtcfbdibjjhifpaaGreatDoorCards
import Derived.WalkKit
import Derived.ProofKit
import Derived.OpenShut
import Derived.Below
import Derived.Carry
import Derived.Test.YtcfbdibjjhifpaaGreatDoorPK01
import Derived.Test.YtcfbdibjjhifpaaGreatDoorPK04
import Derived.Test.YtcfbdibjjhifpaaGreatDoorPK17
import Derived.Test.YtcfbdibjjhifpaaGreatDoorPK30
import Derived.Test.YtcfbdibjjhifpaaGreatDoorPK35
namespace Go.Proofs.YtcfbdibjjhifpaaGreatDoor
open Go.ChangeShapes Go.WideShapes Go.ChangeAt Go.RowKit
set_option linter.unusedVariables false
set_option maxRecDepth 100000

set_option maxRecDepth 100000 in
set_option maxHeartbeats 4000000 in
theorem FnExactFloatNear_walk (wd : Int) (b0 : Bool) (a0 : Option Addr) (len0 cap0 : Nat) (xs0 : List Int) (a0' : Option Addr) (len0' cap0' : Nat) (ys0 : List Int) (w : World) (wb0 : InI w a0 len0 cap0 xs0) (wb0' : InI w a0' len0' cap0' ys0) (hT : Tab w ∧ ET w) :
    Calls Tryz.prog 3 #[.int .i64 wd, .agg #[.bool b0, .slice a0 len0 cap0, .slice a0' len0' cap0']] w fun e w' => e = .returned (.bool true) ∧ Below w.heap.size w w' := by
  obtain rfl := wb0.1
  obtain rfl := wb0'.1
  have hlen0 : xs0.length ≤ maxLen := Nat.le_trans wb0.2.1 wb0.2.2.1
  have hlen0' : ys0.length ≤ maxLen := Nat.le_trans wb0'.2.1 wb0'.2.2.1
  have SZ := hd (fun w' => lSzFrac b0 a0 a0' xs0.length ys0.length cap0 cap0' 1048576 w' hlen0 hlen0' (by omega) (by omega))
  unfold szF at SZ
  by_cases c : (xs0.length : Int) + ys0.length ≤ 1048576
  case neg =>
    rw [if_neg c] at SZ
    go_enter Tryz.func3, Tryz.ntmps3
    go_wp2_with fail
    refine (SZ.out _).mono ?_
    rintro e w1 ⟨rfl, hb1⟩
    go_wp2
    go_ret
    exact ⟨rfl, old_trans (old_alloc (Below.refl _ _) _) hb1⟩
  rw [if_pos c] at SZ
  have hl0 : xs0.length ≤ 1048576 := by omega
  have hl0' : ys0.length ≤ 1048576 := by omega
  have c' : ¬ (1048576 - (xs0.length : Int) - (ys0.length : Int) < 0) := by omega
  have TF := hd (fun w' (h : Below w.heap.size w w') => toFracO b0 a0 a0' cap0 cap0' xs0 ys0 w' (wb0.old h) (wb0'.old h) hl0 hl0')
  have S := hd (fun a b la lb ca cb w (h : InI w a la ca xs0) (h' : InI w b lb cb ys0) => sFloatNearA wd b0 a b la lb ca cb xs0 ys0 w h h')
  have I := hd (fun a b la lb ca cb w (h : InI w a la ca xs0) (h' : InI w b lb cb ys0) (hT : Tab w) (hE : ET w) => iFloatNear wd b0 a b la lb ca cb xs0 ys0 w h h' hT hE)
  have hTT := hd hT
  generalize nrF wd b0 xs0 ys0 = r at *
  generalize pfOk wd b0 xs0 ys0 = ok at *
  have K := Cel3.new w (.bool b0) (.slice a0 xs0.length cap0) (.slice a0' ys0.length cap0') 24
  have hB : Below w.heap.size w (w.alloc (.cells #[.bool b0, .slice a0 xs0.length cap0, .slice a0' ys0.length cap0'] 24)) := old_alloc (Below.refl _ _) _
  clear c wb0 wb0' hT hlen0 hlen0'
  go_enter Tryz.func3, Tryz.ntmps3
  go_wp2_with fail
  refine (SZ.out _).mono ?_
  rintro e w1 ⟨rfl, hb1⟩
  replace K := K.old hb1
  replace hB := old_trans hB hb1
  clear hb1 SZ
  obtain ⟨k1, ⟨k2, k3, k4⟩, -⟩ := id K
  go_wp2_with fail
  refine (TF.out _ hB).mono ?_
  rintro e w2 ⟨⟨avP, cvP, avP', cvP', rfl, P, P', -⟩, hb2⟩
  replace K := K.old hb2
  replace hB := old_trans hB hb2
  clear hb2 k1 k2 k3 k4
  go_wp2_with fail
  refine (S.out _ _ _ _ _ _ _ P.inI P'.inI).mono ?_
  rintro e w3 ⟨rfl, hb3⟩
  replace K := K.old hb3
  replace hB := old_trans hB hb3
  clear hb3 P P'
  obtain ⟨k1, ⟨k2, k3, k4⟩, -⟩ := id K
  go_wp2_with fail
  refine (TF.out _ hB).mono ?_
  rintro e w4 ⟨⟨avX, cvX, avX', cvX', rfl, X, X', -⟩, hb4⟩
  replace K := K.old hb4
  replace hB := old_trans hB hb4
  clear hb4 k1 k2 k3 k4
  have N := Cel3.new w4 (.bool b0) (.slice avX xs0.length cvX) (.slice avX' ys0.length cvX') 28
  have hal : Below w4.heap.size w4 (w4.alloc (.cells #[.bool b0, .slice avX xs0.length cvX, .slice avX' ys0.length cvX'] 28)) := old_alloc (Below.refl _ _) _
  have hB4 := old_trans hB hal
  have K4 := K.old hal
  have X4 := X.later hal
  have X4' := X'.later hal
  go_wp2_with fail
  refine (I.out _ _ _ _ _ _ _ X4.inI X4'.inI (hTT.out.1.old hB4) (hTT.out.2.old hB4)).mono ?_
  rintro e w5 ⟨rfl, hb5⟩
  replace N := N.old hb5
  replace K4 := K4.old hb5
  replace X4 := X4.later hb5
  replace X4' := X4'.later hb5
  replace hB4 := old_trans hB4 hb5
  clear hb5 hal hB K X X' S I
  generalize w4.heap.size = NB at *
  obtain ⟨k1, ⟨k2, k3, k4⟩, -⟩ := id K4
  obtain ⟨n1, ⟨n2, n3, n4⟩, -⟩ := id N
  have TG := hd (fun w' (hS : w'.cell? ⟨w.heap.size, 0, none⟩ = some (.bool b0) ∧ w'.cell? ⟨w.heap.size, 1, none⟩ = some (.slice a0 xs0.length cap0) ∧ w'.cell? ⟨w.heap.size, 2, none⟩ = some (.slice a0' ys0.length cap0') ∧ w'.cell? ⟨NB, 0, none⟩ = some (.bool b0) ∧ w'.cell? ⟨NB, 1, none⟩ = some (.slice avX xs0.length cvX) ∧ w'.cell? ⟨NB, 2, none⟩ = some (.slice avX' ys0.length cvX')) (h : Below w5.heap.size w5 w') => (TF.out w' (old_trans hB4 h)).mono (fun e w'' (k : _ ∧ _) => (⟨k, six_old hS k.2⟩ : (_ ∧ _) ∧ (w''.cell? ⟨w.heap.size, 0, none⟩ = some (.bool b0) ∧ w''.cell? ⟨w.heap.size, 1, none⟩ = some (.slice a0 xs0.length cap0) ∧ w''.cell? ⟨w.heap.size, 2, none⟩ = some (.slice a0' ys0.length cap0') ∧ w''.cell? ⟨NB, 0, none⟩ = some (.bool b0) ∧ w''.cell? ⟨NB, 1, none⟩ = some (.slice avX xs0.length cvX) ∧ w''.cell? ⟨NB, 2, none⟩ = some (.slice avX' ys0.length cvX')))))
  have EQ := hd (fun a b ca cb n n' w' (hS : w'.cell? ⟨w.heap.size, 0, none⟩ = some (.bool b0) ∧ w'.cell? ⟨w.heap.size, 1, none⟩ = some (.slice a0 xs0.length cap0) ∧ w'.cell? ⟨w.heap.size, 2, none⟩ = some (.slice a0' ys0.length cap0') ∧ w'.cell? ⟨NB, 0, none⟩ = some (.bool b0) ∧ w'.cell? ⟨NB, 1, none⟩ = some (.slice avX xs0.length cvX) ∧ w'.cell? ⟨NB, 2, none⟩ = some (.slice avX' ys0.length cvX')) (h : Below w5.heap.size w5 w') (hA : OI w' n a ca xs0) (hA' : OI w' n' b cb ys0) => (lEqF b0 avX avX' a b cvX cvX' ca cb _ _ n n' xs0 ys0 w' (X4.later h) (X4'.later h) hA hA').mono (fun e w'' (k : _ ∧ _) => (⟨k, six_old hS k.2⟩ : (_ ∧ _) ∧ (w''.cell? ⟨w.heap.size, 0, none⟩ = some (.bool b0) ∧ w''.cell? ⟨w.heap.size, 1, none⟩ = some (.slice a0 xs0.length cap0) ∧ w''.cell? ⟨w.heap.size, 2, none⟩ = some (.slice a0' ys0.length cap0') ∧ w''.cell? ⟨NB, 0, none⟩ = some (.bool b0) ∧ w''.cell? ⟨NB, 1, none⟩ = some (.slice avX xs0.length cvX) ∧ w''.cell? ⟨NB, 2, none⟩ = some (.slice avX' ys0.length cvX')))))
  go_wp2_with fail
  go_region_held3 (fun w' => w'.cell? ⟨w.heap.size, 0, none⟩ = some (.bool b0) ∧ w'.cell? ⟨w.heap.size, 1, none⟩ = some (.slice a0 xs0.length cap0) ∧ w'.cell? ⟨w.heap.size, 2, none⟩ = some (.slice a0' ys0.length cap0') ∧ w'.cell? ⟨NB, 0, none⟩ = some (.bool b0) ∧ w'.cell? ⟨NB, 1, none⟩ = some (.slice avX xs0.length cvX) ∧ w'.cell? ⟨NB, 2, none⟩ = some (.slice avX' ys0.length cvX')) (go_keep) (first | (go_at_call 8; refine (TG.out _ (by assumption) (by repeat (first | exact Below.refl _ _ | refine Below.drew ?_ | refine old_trans ?_ (by assumption)))).mono ?_; rintro e w6 ⟨⟨⟨avZ, cvZ, avZ', cvZ', rfl, Z, Z', -⟩, hb6⟩, hc6⟩) | (go_at_call 10; refine (EQ.out _ _ _ _ _ _ _ (by assumption) (by repeat (first | exact Below.refl _ _ | refine Below.drew ?_ | refine old_trans ?_ (by assumption))) Z Z').mono ?_; rintro e w7 ⟨⟨rfl, hb7⟩, hc7⟩))
  all_goals
    go_wp2
    go_ret
    exact ⟨rfl, (by repeat (first | exact hB4 | refine Below.drew ?_ | refine old_trans ?_ (by assumption)))⟩

set_option maxRecDepth 100000 in
theorem FnExactFloatNear_lifted (os : Os) (started : os.Started) (H : Type) (enc : TypeId × Value → H) :
    ReturnsInHanded {} Tryz.checked os 3 .any (fun w args => (Rows.fnExactFloatNearSpec.pre enc Tryz.prog Tryz.f3 [] false w args ∧ laidMetH Tryz.prog LHL w) ∧ sizedMet enc Tryz.prog Tryz.f3 (OpenSpec.ofChange Rows.fnExactFloatNearSpec) false w args)
      (Rows.fnExactFloatNearSpec.post enc Tryz.prog Tryz.f3 false true false false) := by
  refine returnsInHanded_of_change_and (C := Tryz.checked) (X := fun w _ => laidMetH Tryz.prog LHL w) (fun _ _ _ hh h => h.of_heap hh) LH_own started (by kernel_rfl) Tryz.func3
    (ChangeSpec.witness_shaped (enc := enc) (C := Tryz.checked) (os := os) (X := fun w _ => laidMetH Tryz.prog LHL w) false (World.doorLaid Tryz.prog LH_fuel os) #[.int .i64 0, .agg #[.bool false, .slice none 0 0, .slice none 0 0]] 8 rfl (LH_shaped os _) (by kernel_rfl) (by kernel_rfl) (by kernel_rfl) (LH_met os _)) ?_
  intro W base args ds gs before hval0 hW _ _ hL _
  have hval : ∀ (j : Nat) t v, Tryz.f3.params[j]? = some t → args[j]? = some v → Value.okWide Tryz.prog W .any base t v := hval0
  have hW' := hW
  obtain ⟨p, q, hA0, hV, rfl, hfz, hnd⟩ := hW
  have hA : DataW.TrodAll enc Tryz.prog W 0 (fun _ => true) true Tryz.f3.params.toList args.toList ds p := hA0
  rw [Tryz.params3] at hA hval
  obtain ⟨v0, vs0, d0, ds0, p0, q0, hargs, rfl, rfl, h0, r0⟩ := trodAll_cons hA
  obtain ⟨v1, vs1, d1, ds1, p1, q1, rfl, rfl, rfl, h1, r1⟩ := trodAll_cons r0
  obtain ⟨rfl, rfl, rfl⟩ := trodAll_nil r1
  obtain rfl : args = #[v0, v1] := by cases args; simp_all
  obtain ⟨rfl, rfl⟩ := trodVars_none hV
  have k0 := h0
  have lt0 : ∀ x ∈ p0, x.block < W.heap.size := by obtain ⟨m, hm⟩ := k0; exact DataW.trod_lt m _ _ _ hm
  obtain ⟨wd, rfl, -, -, wf0⟩ := open_int Tryz.underlying3 (hval 0 3 v0 rfl rfl) h0
  have k1 := h1
  have lt1 : ∀ x ∈ p1, x.block < W.heap.size := by obtain ⟨m, hm⟩ := k1; exact DataW.trod_lt m _ _ _ hm
  obtain ⟨b0, a0, len0, cap0, xs0, a0', len0', cap0', ys0, rfl, wb0, wb0'⟩ := open_lfrac (hval 1 24 v1 rfl rfl) h1
  clear hA0 hval0
  refine (FnExactFloatNear_walk wd b0 a0 len0 cap0 xs0 a0' len0' cap0' ys0 W wb0 wb0' (both_of hL)).mono fun e W' ⟨he, bel⟩ => ?_
  subst he
  exact ⟨_, rfl, _, _, _, [], _, [], hW', trodAll_mk1 (shut_bool Tryz.underlying4 _), (trodAll_cons_mk (Below.trod jf1 (by kernel_rfl) (of_decide_eq_true (by kernel_rfl)) k0 bel lt0) (trodAll_cons_mk (Below.trod jf1 (by kernel_rfl) (of_decide_eq_true (by kernel_rfl)) k1 bel lt1) trodAll_mk0)), rfl, bel.frame _, fun h => by cases h⟩

theorem FnExactFloatNear_k0 : (Rows.fnExactFloatNearRow.wf (OpenSpec.ofChange Rows.fnExactFloatNearSpec)) = true := by kernel_rfl
theorem FnExactFloatNear_k3 : (Tryz.f3.params.all (Tryz.prog.readableRec ·)) = true := by kernel_rfl
theorem FnExactFloatNear_k4 : (namedTie Tryz.prog Rows.fnExactFloatNearRow.named Rows.fnExactFloatNearSpec.vars) = true := by kernel_rfl
theorem FnExactFloatNear_k5 : ((Rows.fnExactFloatNearRow.stops == [])) = true := by kernel_rfl
theorem FnExactFloatNear_k7 : ((Rows.fnExactFloatNearRow.knobs == [])) = true := by kernel_rfl
theorem FnExactFloatNear_k9 : ((Rows.fnExactFloatNearRow.inPlace == Tryz.prog.inPlace 3)) = true := by kernel_rfl
theorem FnExactFloatNear_k10 : ((Rows.fnExactFloatNearRow.unfollowed == Tryz.prog.unfollowed 3)) = true := by kernel_rfl
theorem FnExactFloatNear_k11 : ((Rows.fnExactFloatNearRow.recurses == Tryz.prog.recurses 3)) = true := by kernel_rfl
theorem FnExactFloatNear_k12 : ((Rows.fnExactFloatNearRow.named == Tryz.prog.varsNamed 3)) = true := by kernel_rfl
theorem FnExactFloatNear_k13 : ((Rows.fnExactFloatNearRow.maps == (Tryz.f3.params.toList ++ Rows.fnExactFloatNearSpec.plain.varTypes Tryz.prog).any (Tryz.prog.mapsRec ·))) = true := by kernel_rfl
theorem FnExactFloatNear_k14 : ((Rows.fnExactFloatNearRow.ifaces == (Tryz.f3.params.toList ++ Rows.fnExactFloatNearSpec.plain.varTypes Tryz.prog).any (Tryz.prog.ifacesRec ·))) = true := by kernel_rfl
theorem FnExactFloatNear_k15 : ((Rows.fnExactFloatNearRow.mapsOut == Tryz.prog.mapsAmong Tryz.f3.resultTypes.toList)) = true := by kernel_rfl
theorem FnExactFloatNear_k16 : ((Rows.fnExactFloatNearRow.loops == (Tryz.f3.params.toList ++ Rows.fnExactFloatNearSpec.plain.varTypes Tryz.prog).any (Tryz.prog.loopsFrom ·))) = true := by kernel_rfl
theorem FnExactFloatNear_k17 : ((Rows.fnExactFloatNearRow.wideKeys == (Tryz.f3.params.toList ++ Rows.fnExactFloatNearSpec.plain.varTypes Tryz.prog ++ Tryz.f3.resultTypes.toList).any (Tryz.prog.wideKeysFrom ·))) = true := by kernel_rfl
theorem FnExactFloatNear_k18 : (Rows.fnExactFloatNearSpec.vars.all (Tryz.prog.varReadable ·)) = true := by kernel_rfl
theorem FnExactFloatNear_k19 : (Tryz.f3.resultTypes.all (fun t => Tryz.prog.readableRec t && decide (t < Tryz.prog.types.size))) = true := by kernel_rfl
theorem FnExactFloatNear_k20 : ((Rows.fnExactFloatNearRow.ifacesOut == Tryz.f3.resultTypes.toList.any (Tryz.prog.ifacesRec ·))) = true := by kernel_rfl
theorem FnExactFloatNear_k21 : ((Rows.fnExactFloatNearRow.loopsOut == Tryz.f3.resultTypes.toList.any (Tryz.prog.loopsFrom ·))) = true := by kernel_rfl
theorem FnExactFloatNear_k23 : (Rows.fnExactFloatNearRow.shortTexts.isNone) = true := by kernel_rfl
theorem FnExactFloatNear_k28 : ((Rows.fnExactFloatNearRow.kinds == (if Rows.fnExactFloatNearRow.domain.isEmpty then [] else Tryz.f3.params.toList.map fun t => match Tryz.prog.underlying t with | some (.int k) => some k | _ => none))) = true := by kernel_rfl
theorem FnExactFloatNear_k29 : ((Rows.fnExactFloatNearRow.pinned == Rows.fnExactFloatNearRow.pinnedBy)) = true := by kernel_rfl
theorem FnExactFloatNear_k30 : ((Rows.fnExactFloatNearRow.veiled == (Tryz.f3.params.toList ++ Rows.fnExactFloatNearSpec.plain.varTypes Tryz.prog ++ Tryz.f3.resultTypes.toList).any (Tryz.prog.veiledRec ·))) = true := by kernel_rfl
theorem FnExactFloatNear_k31 : (Rows.fnExactFloatNearRow.veiledFits Tryz.prog Tryz.f3.params.toList (Tryz.f3.params.toList ++ Rows.fnExactFloatNearSpec.plain.varTypes Tryz.prog ++ Tryz.f3.resultTypes.toList)) = true := by kernel_rfl
set_option maxRecDepth 100000 in
theorem FnExactFloatNear_closed : joinedFacts Tryz.prog 3 Tryz.f3 Rows.fnExactFloatNearSpec Rows.fnExactFloatNearRow = true := (and2 (and2 (and2 (and2 (and2 (and2 (and2 (and2 (and2 (and2 (and2 (and2 (and2 (and2 (and2 (and2 (and2 (and2 (and2 (and2 (and2 (and2 (and2 (and2 (and2 (and2 (and2 (and2 (and2 (and2 (and2 FnExactFloatNear_k0 jf1) jf2) FnExactFloatNear_k3) FnExactFloatNear_k4) FnExactFloatNear_k5) jf6) FnExactFloatNear_k7) jf8) FnExactFloatNear_k9) FnExactFloatNear_k10) FnExactFloatNear_k11) FnExactFloatNear_k12) FnExactFloatNear_k13) FnExactFloatNear_k14) FnExactFloatNear_k15) FnExactFloatNear_k16) FnExactFloatNear_k17) FnExactFloatNear_k18) FnExactFloatNear_k19) FnExactFloatNear_k20) FnExactFloatNear_k21) jf22) FnExactFloatNear_k23) jf24) jf25) jf26) jf27) FnExactFloatNear_k28) FnExactFloatNear_k29) FnExactFloatNear_k30) FnExactFloatNear_k31)
theorem FnExactFloatNear_row : Rows.FnExactFloatNearSaid :=
  OpenClaim.holds_of_wide 3 Tryz.f3 rfl rfl rfl rfl rfl rfl rfl ⟨rfl, rfl, rfl, rfl, rfl⟩ rfl rfl rfl rfl rfl (by kernel_rfl) Tryz.func3 FnExactFloatNear_closed
    (of_decide_eq_true (by kernel_rfl)) (by unfold Func.isWrapper; first | (rw [if_pos (by decide +kernel)]; kernel_rfl) | (rw [if_neg (by decide +kernel)]; exact ⟨rfl, rfl⟩))
    (fun os started H enc _ => FnExactFloatNear_lifted os started H enc)

theorem FnExactFloatNear_proved : Rows.FnExactFloatNearCardSaid :=
  Claim7.holds_tied_plain_at .later [] [.data, .data, .handle] true (true, "56ed852ba81ed10a09a067803bb75bd33e25ce2b42a59168cee76c945b43beeb") true
    FnExactFloatNear_row (fun _ h => by cases h) (by kernel_rfl) (fun _ h => by cases h) fnExactFloatNear_row_tie rfl ⟨rfl, rfl⟩ (by kernel_rfl) rfl
    (fun f fn hf hfn => by
      obtain rfl : f = 3 := Option.some.inj ((show Tryz.prog.funcNamed "loop.example/pinfold/laws.FnExactFloatNear" = some 3 by kernel_rfl).symm.trans hf) |>.symm
      obtain rfl : fn = Tryz.f3 := (Option.some.inj (Tryz.func3.symm.trans hfn)).symm
      exact ⟨by kernel_rfl, fun j t ht => by
        rw [Tryz.params3] at ht
        have hm : t ∈ [3, 24] := by simpa using Array.mem_of_getElem? ht
        have hall : ([3, 24].all fun u => !Tryz.prog.wantsStandIn u) = true := by kernel_rfl
        exact (show Tryz.prog.wantsStandIn t = false by simpa using List.all_eq_true.1 hall t hm)⟩)
    (by kernel_rfl)
end Go.Proofs.YtcfbdibjjhifpaaGreatDoor
