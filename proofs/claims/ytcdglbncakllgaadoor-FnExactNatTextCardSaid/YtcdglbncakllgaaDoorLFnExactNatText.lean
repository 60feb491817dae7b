/- The program's NatText answers as the specification's NatText at every argument; it writes into no argument. Condition: the library's variables hold what their texts lay (the card ties them). -/
import Derived.Test.YtcdglbncakllgaaDoorRows
import Derived.Test.YtcdglbncakllgaaDoorTie
import Derived.Test.YtcdglbncakllgaaDoorCards
import Derived.WalkKit
import Derived.ProofKit
import Derived.OpenShut
import Derived.Below
import Derived.Carry
import Derived.Test.YtcdglbncakllgaaDoorN0
import Derived.Test.YtcdglbncakllgaaDoorLP
import Derived.Test.YtcdglbncakllgaaDoorKE
import Derived.Test.YtcdglbncakllgaaDoorBJ
namespace Go.Proofs.YtcdglbncakllgaaDoor
open Go.ChangeShapes Go.WideShapes Go.ChangeAt Go.RowKit
set_option linter.unusedVariables false

set_option maxRecDepth 100000 in
set_option maxHeartbeats 4000000 in
theorem FnExactNatText_walk (a0 : Option Addr) (len0 cap0 : Nat) (xs0 : List Int) (w : World) (wb0 : InI w a0 len0 cap0 xs0) (hT : P10 w) :
    Calls Tryd.prog 3 #[.slice a0 len0 cap0] w fun e w' => e = .returned (.bool true) ∧ Below w.heap.size w w' := by
  obtain rfl := wb0.1
  have hlen := wb0.len
  by_cases hl : xs0.length ≤ 1048576
  case neg =>
    go_enter Tryd.func3, Tryd.ntmps3
    go_wp2
    go_ret
    exact ⟨rfl, (by repeat (first | exact Below.refl _ _ | refine Below.drew ?_ | refine old_alloc ?_ _ | refine old_trans ?_ (by assumption)))⟩
  have S := hd (fun a len cap w (h : InI w a len cap xs0) => sNatText a len cap xs0 w h)
  have I := hd (fun a len cap w (h : InI w a len cap xs0) (t : P10 w) => iNatText a len cap xs0 w h t)
  generalize ntB xs0 = r at *
  generalize hW0 : (⟨r.toArray⟩ : ByteArray) = tx at *
  clear hW0
  go_enter Tryd.func3, Tryd.ntmps3
  go_wp2_with fail
  refine (lToInts a0 _ cap0 xs0 _ wb0 hl).mono ?_
  rintro e w1 ⟨⟨rfl, R1⟩, hb1⟩
  have N1 := R1.inI wb0.2.2.2.1 (Nat.le_refl _) (Nat.le_trans wb0.2.1 wb0.2.2.1)
  go_wp2_with fail
  refine (S.out _ _ _ _ N1).mono ?_
  rintro e w2 ⟨rfl, hb2⟩
  have B2 := old_trans hb1 hb2
  have wb1 := wb0.old B2
  go_wp2_with fail
  refine (lToInts a0 _ cap0 xs0 _ wb1 hl).mono ?_
  rintro e w3 ⟨⟨rfl, R3⟩, hb3⟩
  have N3 := R3.inI wb0.2.2.2.1 (Nat.le_refl _) (Nat.le_trans wb0.2.1 wb0.2.2.1)
  have B3 := old_trans B2 hb3
  go_wp2_with fail
  refine (I.out _ _ _ _ N3 (hT.old B3)).mono ?_
  rintro e w4 ⟨rfl, hb4⟩
  have B4 := old_trans B3 hb4
  have wb2 := wb0.old B4
  go_wp2_with fail
  refine (lToInts a0 _ cap0 xs0 _ wb2 hl).mono ?_
  rintro e w5 ⟨⟨rfl, R5⟩, hb5⟩
  have N5 := R5.inI wb0.2.2.2.1 (Nat.le_refl _) (Nat.le_trans wb0.2.1 wb0.2.2.1)
  go_wp2_with fail
  refine (lEqInts _ _ _ _ _ xs0 _ ((N3.old hb4).old hb5) N5).mono ?_
  rintro e w6 ⟨rfl, hb6⟩
  go_wp2
  go_ret
  exact ⟨rfl, old_trans (old_trans B4 hb5) hb6⟩

set_option maxRecDepth 100000 in
theorem FnExactNatText_lifted (os : Os) (started : os.Started) (H : Type) (enc : TypeId × Value → H) :
    ReturnsInHanded {} Tryd.checked os 3 .any (fun w args => (Rows.fnExactNatTextSpec.pre enc Tryd.prog Tryd.f3 [] false w args ∧ laidMetH Tryd.prog LPL w) ∧ sizedMet enc Tryd.prog Tryd.f3 (OpenSpec.ofChange Rows.fnExactNatTextSpec) false w args)
      (Rows.fnExactNatTextSpec.post enc Tryd.prog Tryd.f3 false true false false) := by
  refine returnsInHanded_of_change_and (C := Tryd.checked) (X := fun w _ => laidMetH Tryd.prog LPL w) (fun _ _ _ hh h => h.of_heap hh) LP_own started (by kernel_rfl) Tryd.func3
    (ChangeSpec.witness_shaped (enc := enc) (C := Tryd.checked) (os := os) (X := fun w _ => laidMetH Tryd.prog LPL w) false (World.doorLaid Tryd.prog LP_fuel os) #[.slice none 0 0] 8 rfl (LP_shaped os _) (by kernel_rfl) (by kernel_rfl) (by kernel_rfl) (LP_met os _)) ?_
  intro W base args ds gs before hval0 hW _ _ hL _
  have hval : ∀ (j : Nat) t v, Tryd.f3.params[j]? = some t → args[j]? = some v → Value.okWide Tryd.prog W .any base t v := hval0
  have hW' := hW
  obtain ⟨p, q, hA0, hV, rfl, hfz, hnd⟩ := hW
  have hA : DataW.TrodAll enc Tryd.prog W 0 (fun _ => true) true Tryd.f3.params.toList args.toList ds p := hA0
  rw [Tryd.params3] at hA hval
  obtain ⟨v0, vs0, d0, ds0, p0, q0, hargs, rfl, rfl, h0, r0⟩ := trodAll_cons hA
  obtain ⟨rfl, rfl, rfl⟩ := trodAll_nil r0
  obtain rfl : args = #[v0] := by cases args; simp_all
  obtain ⟨rfl, rfl⟩ := trodVars_none hV
  have k0 := h0
  have lt0 : ∀ x ∈ p0, x.block < W.heap.size := by obtain ⟨m, hm⟩ := k0; exact DataW.trod_lt m _ _ _ hm
  obtain ⟨a0, len0, cap0, xs0, rfl, wb0⟩ := open_intS (hval 0 22 v0 rfl rfl) h0
  clear hA0 hval0
  refine (FnExactNatText_walk a0 len0 cap0 xs0 W wb0 (p10_of hL)).mono fun e W' ⟨he, bel⟩ => ?_
  subst he
  exact ⟨_, rfl, _, _, _, [], _, [], hW', trodAll_mk1 (shut_bool Tryd.underlying4 _), (trodAll_cons_mk (Below.trod jf1 (by kernel_rfl) (of_decide_eq_true (by kernel_rfl)) k0 bel lt0) trodAll_mk0), rfl, bel.frame _, fun h => by cases h⟩

theorem FnExactNatText_k0 : (Rows.fnExactNatTextRow.wf (OpenSpec.ofChange Rows.fnExactNatTextSpec)) = true := by kernel_rfl
theorem FnExactNatText_k3 : (Tryd.f3.params.all (Tryd.prog.readableRec ·)) = true := by kernel_rfl
theorem FnExactNatText_k4 : (namedTie Tryd.prog Rows.fnExactNatTextRow.named Rows.fnExactNatTextSpec.vars) = true := by kernel_rfl
theorem FnExactNatText_k5 : ((Rows.fnExactNatTextRow.stops == [])) = true := by kernel_rfl
theorem FnExactNatText_k7 : ((Rows.fnExactNatTextRow.knobs == [])) = true := by kernel_rfl
theorem FnExactNatText_k9 : ((Rows.fnExactNatTextRow.inPlace == Tryd.prog.inPlace 3)) = true := by kernel_rfl
theorem FnExactNatText_k10 : ((Rows.fnExactNatTextRow.unfollowed == Tryd.prog.unfollowed 3)) = true := by kernel_rfl
theorem FnExactNatText_k11 : ((Rows.fnExactNatTextRow.recurses == Tryd.prog.recurses 3)) = true := by kernel_rfl
theorem FnExactNatText_k12 : ((Rows.fnExactNatTextRow.named == Tryd.prog.varsNamed 3)) = true := by kernel_rfl
theorem FnExactNatText_k13 : ((Rows.fnExactNatTextRow.maps == (Tryd.f3.params.toList ++ Rows.fnExactNatTextSpec.plain.varTypes Tryd.prog).any (Tryd.prog.mapsRec ·))) = true := by kernel_rfl
theorem FnExactNatText_k14 : ((Rows.fnExactNatTextRow.ifaces == (Tryd.f3.params.toList ++ Rows.fnExactNatTextSpec.plain.varTypes Tryd.prog).any (Tryd.prog.ifacesRec ·))) = true := by kernel_rfl
theorem FnExactNatText_k15 : ((Rows.fnExactNatTextRow.mapsOut == Tryd.prog.mapsAmong Tryd.f3.resultTypes.toList)) = true := by kernel_rfl
theorem FnExactNatText_k16 : ((Rows.fnExactNatTextRow.loops == (Tryd.f3.params.toList ++ Rows.fnExactNatTextSpec.plain.varTypes Tryd.prog).any (Tryd.prog.loopsFrom ·))) = true := by kernel_rfl
theorem FnExactNatText_k17 : ((Rows.fnExactNatTextRow.wideKeys == (Tryd.f3.params.toList ++ Rows.fnExactNatTextSpec.plain.varTypes Tryd.prog ++ Tryd.f3.resultTypes.toList).any (Tryd.prog.wideKeysFrom ·))) = true := by kernel_rfl
theorem FnExactNatText_k18 : (Rows.fnExactNatTextSpec.vars.all (Tryd.prog.varReadable ·)) = true := by kernel_rfl
theorem FnExactNatText_k19 : (Tryd.f3.resultTypes.all (fun t => Tryd.prog.readableRec t && decide (t < Tryd.prog.types.size))) = true := by kernel_rfl
theorem FnExactNatText_k20 : ((Rows.fnExactNatTextRow.ifacesOut == Tryd.f3.resultTypes.toList.any (Tryd.prog.ifacesRec ·))) = true := by kernel_rfl
theorem FnExactNatText_k21 : ((Rows.fnExactNatTextRow.loopsOut == Tryd.f3.resultTypes.toList.any (Tryd.prog.loopsFrom ·))) = true := by kernel_rfl
theorem FnExactNatText_k23 : (Rows.fnExactNatTextRow.shortTexts.isNone) = true := by kernel_rfl
theorem FnExactNatText_k28 : ((Rows.fnExactNatTextRow.kinds == (if Rows.fnExactNatTextRow.domain.isEmpty then [] else Tryd.f3.params.toList.map fun t => match Tryd.prog.underlying t with | some (.int k) => some k | _ => none))) = true := by kernel_rfl
theorem FnExactNatText_k29 : ((Rows.fnExactNatTextRow.pinned == Rows.fnExactNatTextRow.pinnedBy)) = true := by kernel_rfl
theorem FnExactNatText_k30 : ((Rows.fnExactNatTextRow.veiled == (Tryd.f3.params.toList ++ Rows.fnExactNatTextSpec.plain.varTypes Tryd.prog ++ Tryd.f3.resultTypes.toList).any (Tryd.prog.veiledRec ·))) = true := by kernel_rfl
theorem FnExactNatText_k31 : (Rows.fnExactNatTextRow.veiledFits Tryd.prog Tryd.f3.params.toList (Tryd.f3.params.toList ++ Rows.fnExactNatTextSpec.plain.varTypes Tryd.prog ++ Tryd.f3.resultTypes.toList)) = true := by kernel_rfl
set_option maxRecDepth 100000 in
theorem FnExactNatText_closed : joinedFacts Tryd.prog 3 Tryd.f3 Rows.fnExactNatTextSpec Rows.fnExactNatTextRow = true := (and2 (and2 (and2 (and2 (and2 (and2 (and2 (and2 (and2 (and2 (and2 (and2 (and2 (and2 (and2 (and2 (and2 (and2 (and2 (and2 (and2 (and2 (and2 (and2 (and2 (and2 (and2 (and2 (and2 (and2 (and2 FnExactNatText_k0 jf1) jf2) FnExactNatText_k3) FnExactNatText_k4) FnExactNatText_k5) jf6) FnExactNatText_k7) jf8) FnExactNatText_k9) FnExactNatText_k10) FnExactNatText_k11) FnExactNatText_k12) FnExactNatText_k13) FnExactNatText_k14) FnExactNatText_k15) FnExactNatText_k16) FnExactNatText_k17) FnExactNatText_k18) FnExactNatText_k19) FnExactNatText_k20) FnExactNatText_k21) jf22) FnExactNatText_k23) jf24) jf25) jf26) jf27) FnExactNatText_k28) FnExactNatText_k29) FnExactNatText_k30) FnExactNatText_k31)
theorem FnExactNatText_row : Rows.FnExactNatTextSaid :=
  OpenClaim.holds_of_wide 3 Tryd.f3 rfl rfl rfl rfl rfl rfl rfl ⟨rfl, rfl, rfl, rfl, rfl⟩ rfl rfl rfl rfl rfl (by kernel_rfl) Tryd.func3 FnExactNatText_closed
    (of_decide_eq_true (by kernel_rfl)) (by unfold Func.isWrapper; first | (rw [if_pos (by decide +kernel)]; kernel_rfl) | (rw [if_neg (by decide +kernel)]; exact ⟨rfl, rfl⟩))
    (fun os started H enc _ => FnExactNatText_lifted os started H enc)

theorem FnExactNatText_proved : Rows.FnExactNatTextCardSaid :=
  Claim7.holds_tied_plain_at .later [] [.data, .data, .data] true (true, "8656896aa7c9c2bea2fd69d0ebacc20f32d2beea1f7d55092ee0bc0112a2eb2d") false
    FnExactNatText_row (fun _ h => by cases h) (by kernel_rfl) (fun _ h => by cases h) fnExactNatText_row_tie rfl ⟨rfl, rfl⟩ (by kernel_rfl) rfl
    (fun f fn hf hfn => by
      obtain rfl : f = 3 := Option.some.inj ((show Tryd.prog.funcNamed "loop.example/pinfold/laws.FnExactNatText" = some 3 by kernel_rfl).symm.trans hf) |>.symm
      obtain rfl : fn = Tryd.f3 := (Option.some.inj (Tryd.func3.symm.trans hfn)).symm
      exact ⟨by kernel_rfl, fun j t ht => by
        rw [Tryd.params3] at ht
        have hm : t ∈ [22] := by simpa using Array.mem_of_getElem? ht
        have hall : ([22].all fun u => !Tryd.prog.wantsStandIn u) = true := by kernel_rfl
        exact (show Tryd.prog.wantsStandIn t = false by simpa using List.all_eq_true.1 hall t hm)⟩)
    (by kernel_rfl)
end Go.Proofs.YtcdglbncakllgaaDoor
