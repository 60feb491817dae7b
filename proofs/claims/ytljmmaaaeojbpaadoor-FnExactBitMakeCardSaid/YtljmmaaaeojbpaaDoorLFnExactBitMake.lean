/- The program's BitMake answers as the specification's BitMake at every argument; nothing that was there is written. Condition: the library's table of 64 bytes reads as the text lays it, which the card ties to the program's text (over the pruned copy that the seat names). -/
import Derived.Test.YtljmmaaaeojbpaaDoorZ7
import Derived.Test.YtljmmaaaeojbpaaDoorJ0
import Derived.Test.YtljmmaaaeojbpaaDoorJ1
import Derived.Test.YtljmmaaaeojbpaaDoorJ2
import Derived.Test.YtljmmaaaeojbpaaDoorJ3
import Derived.Test.YtljmmaaaeojbpaaDoorTie
import Derived.Test.YtljmmaaaeojbpaaDoorCards
import Derived.ProofKit
import Derived.LaidMore
import Derived.OpenShut
import Derived.Stop.Joined
import Derived.Lib.LaidTab
import Derived.Lib.SmallJoins
import Derived.Deep.RegionHeld
import Derived.ChangeOld
import Derived.SevenTiedAt
namespace Go.Proofs.YtljmmaaaeojbpaaDoor
open Go.ChangeShapes Go.WideShapes Go.ChangeAt Go.RowKit Go.Joins
set_option linter.unusedVariables false

theorem own : ownKnob Tryd.prog.godebug = none := by kernel_rfl
theorem laidOut : laidOutB Tryd.prog = true := jf1
def laidL {H : Type} : List (String × DataW H) := [("math/bits.deBruijn64tab", Rows.laid_math_bits_deBruijn64tab)]
theorem gTab : Tryd.prog.globalNamed "math/bits.deBruijn64tab" = some 0 := by kernel_rfl
theorem tTab : (Tryd.prog.globals[0]?).map (·.type) = some 64 := by kernel_rfl
theorem datumTab {H : Type} : (Rows.laid_math_bits_deBruijn64tab : DataW H) = Lib.tabData .u8 tab64 := rfl

theorem door_met (os : Os) (args : Array Value) : laidMetH Tryd.prog laidL ((World.doorLaid Tryd.prog 14 os).forCall (fun _ _ => 0) ⟨#[], args, []⟩).memory :=
  laidMetH_of_parts3 (fuel := 8) (laidMet_of_run' 8 (by kernel_rfl) (by kernel_rfl)) (by kernel_rfl) (by kernel_rfl)

theorem of_laid {W : World} (h : laidMetH Tryd.prog laidL W) : Tab W := by
  rw [MakeChecks.laidMetH_plain _ _ _ (by kernel_rfl)] at h
  unfold laidL at h
  rw [datumTab] at h
  have hi := Lib.tabIs_of_head (n := 64) gTab tTab (by kernel_rfl) Tryd.underlying5 (by kernel_rfl) (by kernel_rfl) h
  have hc : ∀ i, i < 64 → W.cell? ⟨0, i, none⟩ = some (.int .u8 (tab64.getD i 0)) := fun i hi' => hi.cell gTab i hi'
  exact ⟨World.block_lt_of_cell? W _ (hc 0 (by decide)), hc⟩

set_option maxRecDepth 100000 in
theorem FnExactBitMake_lifted (os : Os) (started : os.Started) (H : Type) (enc : TypeId × Value → H) :
    ReturnsInHanded {} Tryd.checked os 4 .any (fun w args => (Rows.fnExactBitMakeSpec.pre enc Tryd.prog Tryd.f4 [] false w args ∧ laidMetH Tryd.prog laidL w) ∧ sizedMet enc Tryd.prog Tryd.f4 (OpenSpec.ofChange Rows.fnExactBitMakeSpec) false w args)
      (Rows.fnExactBitMakeSpec.post enc Tryd.prog Tryd.f4 false true false false) := by
  refine returnsInHanded_of_change_and (C := Tryd.checked) (X := fun w _ => laidMetH Tryd.prog laidL w) (fun _ _ _ hh h => h.of_heap hh) own started (by kernel_rfl) Tryd.func4
    (ChangeSpec.witness_shaped (enc := enc) (C := Tryd.checked) (os := os) (X := fun w _ => laidMetH Tryd.prog laidL w) false (World.doorLaid Tryd.prog 14 os) #[.int .i64 0, .agg #[.bool false, .int .u64 0, .int .i64 0]] 8 rfl (World.shaped_of_RefB (by kernel_rfl) (by kernel_rfl)) (by kernel_rfl) (by kernel_rfl) (by kernel_rfl) (door_met os _)) ?_
  intro W base args ds gs before hval0 hW _ _ hL _
  have hval : ∀ (j : Nat) t v, Tryd.f4.params[j]? = some t → args[j]? = some v → Value.okWide Tryd.prog W .any base t v := hval0
  have hW' := hW
  obtain ⟨p, q, hA0, hV, rfl, hfz, hnd⟩ := hW
  have hA : DataW.TrodAll enc Tryd.prog W 0 (fun _ => true) true Tryd.f4.params.toList args.toList ds p := hA0
  rw [Tryd.params4] at hA hval
  obtain ⟨v0, vs0, d0, ds0, p0, q0, hargs, rfl, rfl, h0, r0⟩ := trodAll_cons hA
  obtain ⟨v1, vs1, d1, ds1, p1, q1, rfl, rfl, rfl, h1, r1⟩ := trodAll_cons r0
  obtain ⟨rfl, rfl, rfl⟩ := trodAll_nil r1
  obtain rfl : args = #[v0, v1] := by cases args; simp_all
  obtain ⟨rfl, rfl⟩ := trodVars_none hV
  have k0 := h0
  have lt0 : ∀ x ∈ p0, x.block < W.heap.size := by obtain ⟨m, hm⟩ := k0; exact DataW.trod_lt m _ _ _ hm
  have k1 := h1
  have lt1 : ∀ x ∈ p1, x.block < W.heap.size := by obtain ⟨m, hm⟩ := k1; exact DataW.trod_lt m _ _ _ hm
  obtain ⟨a0, rfl, -, -, w0⟩ := open_int Tryd.underlying3 (hval 0 3 v0 rfl rfl) h0
  obtain ⟨c0, c1, c2, y0, y1, y2, m, rfl, -, -, hy0, hy1, hy2⟩ := open_agg3 Tryd.underlying39 (by kernel_rfl) (by kernel_rfl) (hval 1 39 v1 rfl rfl) h1
  obtain ⟨bl, e0, -⟩ := DataW.trod_bool Tryd.underlying4 hy0
  obtain ⟨S, e1, -, wS⟩ := DataW.trod_int Tryd.underlying23 hy1
  obtain ⟨pw, e2, -, wp⟩ := DataW.trod_int Tryd.underlying3 hy2
  simp at e0 e1 e2
  subst e0 e1 e2
  obtain ⟨s1, s2⟩ := bounds_u64 wS
  clear hA0 hval0
  refine (makeLaw a0 bl S pw W (of_laid hL) s1 (by omega)).mono fun e W' ⟨he, bel⟩ => ?_
  subst he
  exact ⟨_, rfl, _, _, _, [], _, [], hW', trodAll_mk1 (shut_bool Tryd.underlying4 _), (trodAll_cons_mk (Below.trod laidOut (by kernel_rfl) (of_decide_eq_true (by kernel_rfl)) k0 bel lt0) (trodAll_cons_mk (Below.trod laidOut (by kernel_rfl) (of_decide_eq_true (by kernel_rfl)) k1 bel lt1) trodAll_mk0)), rfl, bel.frame _, fun h => by cases h⟩

theorem FnExactBitMake_k0 : (Rows.fnExactBitMakeRow.wf (OpenSpec.ofChange Rows.fnExactBitMakeSpec)) = true := by kernel_rfl
theorem FnExactBitMake_k3 : (Tryd.f4.params.all (Tryd.prog.readableRec ·)) = true := by kernel_rfl
theorem FnExactBitMake_k4 : (namedTie Tryd.prog Rows.fnExactBitMakeRow.named Rows.fnExactBitMakeSpec.vars) = true := by kernel_rfl
theorem FnExactBitMake_k5 : ((Rows.fnExactBitMakeRow.stops == [])) = true := by kernel_rfl
theorem FnExactBitMake_k7 : ((Rows.fnExactBitMakeRow.knobs == [])) = true := by kernel_rfl
theorem FnExactBitMake_k9 : ((Rows.fnExactBitMakeRow.inPlace == Tryd.prog.inPlace 4)) = true := by kernel_rfl
theorem FnExactBitMake_k10 : ((Rows.fnExactBitMakeRow.unfollowed == Tryd.prog.unfollowed 4)) = true := by kernel_rfl
theorem FnExactBitMake_k11 : ((Rows.fnExactBitMakeRow.recurses == Tryd.prog.recurses 4)) = true := by kernel_rfl
theorem FnExactBitMake_k12 : ((Rows.fnExactBitMakeRow.named == Tryd.prog.varsNamed 4)) = true := by kernel_rfl
theorem FnExactBitMake_k13 : ((Rows.fnExactBitMakeRow.maps == (Tryd.f4.params.toList ++ Rows.fnExactBitMakeSpec.plain.varTypes Tryd.prog).any (Tryd.prog.mapsRec ·))) = true := by kernel_rfl
theorem FnExactBitMake_k14 : ((Rows.fnExactBitMakeRow.ifaces == (Tryd.f4.params.toList ++ Rows.fnExactBitMakeSpec.plain.varTypes Tryd.prog).any (Tryd.prog.ifacesRec ·))) = true := by kernel_rfl
theorem FnExactBitMake_k15 : ((Rows.fnExactBitMakeRow.mapsOut == Tryd.prog.mapsAmong Tryd.f4.resultTypes.toList)) = true := by kernel_rfl
theorem FnExactBitMake_k16 : ((Rows.fnExactBitMakeRow.loops == (Tryd.f4.params.toList ++ Rows.fnExactBitMakeSpec.plain.varTypes Tryd.prog).any (Tryd.prog.loopsFrom ·))) = true := by kernel_rfl
theorem FnExactBitMake_k17 : ((Rows.fnExactBitMakeRow.wideKeys == (Tryd.f4.params.toList ++ Rows.fnExactBitMakeSpec.plain.varTypes Tryd.prog ++ Tryd.f4.resultTypes.toList).any (Tryd.prog.wideKeysFrom ·))) = true := by kernel_rfl
theorem FnExactBitMake_k18 : (Rows.fnExactBitMakeSpec.vars.all (Tryd.prog.varReadable ·)) = true := by kernel_rfl
theorem FnExactBitMake_k19 : (Tryd.f4.resultTypes.all (fun t => Tryd.prog.readableRec t && decide (t < Tryd.prog.types.size))) = true := by kernel_rfl
theorem FnExactBitMake_k20 : ((Rows.fnExactBitMakeRow.ifacesOut == Tryd.f4.resultTypes.toList.any (Tryd.prog.ifacesRec ·))) = true := by kernel_rfl
theorem FnExactBitMake_k21 : ((Rows.fnExactBitMakeRow.loopsOut == Tryd.f4.resultTypes.toList.any (Tryd.prog.loopsFrom ·))) = true := by kernel_rfl
theorem FnExactBitMake_k23 : (Rows.fnExactBitMakeRow.shortTexts.isNone) = true := by kernel_rfl
theorem FnExactBitMake_k28 : ((Rows.fnExactBitMakeRow.kinds == (if Rows.fnExactBitMakeRow.domain.isEmpty then [] else Tryd.f4.params.toList.map fun t => match Tryd.prog.underlying t with | some (.int k) => some k | _ => none))) = true := by kernel_rfl
theorem FnExactBitMake_k29 : ((Rows.fnExactBitMakeRow.pinned == Rows.fnExactBitMakeRow.pinnedBy)) = true := by kernel_rfl
theorem FnExactBitMake_k30 : ((Rows.fnExactBitMakeRow.veiled == (Tryd.f4.params.toList ++ Rows.fnExactBitMakeSpec.plain.varTypes Tryd.prog ++ Tryd.f4.resultTypes.toList).any (Tryd.prog.veiledRec ·))) = true := by kernel_rfl
theorem FnExactBitMake_k31 : (Rows.fnExactBitMakeRow.veiledFits Tryd.prog Tryd.f4.params.toList (Tryd.f4.params.toList ++ Rows.fnExactBitMakeSpec.plain.varTypes Tryd.prog ++ Tryd.f4.resultTypes.toList)) = true := by kernel_rfl
theorem FnExactBitMake_closed : joinedFacts Tryd.prog 4 Tryd.f4 Rows.fnExactBitMakeSpec Rows.fnExactBitMakeRow = true := (and2 (and2 (and2 (and2 (and2 (and2 (and2 (and2 (and2 (and2 (and2 (and2 (and2 (and2 (and2 (and2 (and2 (and2 (and2 (and2 (and2 (and2 (and2 (and2 (and2 (and2 (and2 (and2 (and2 (and2 (and2 FnExactBitMake_k0 jf1) jf2) FnExactBitMake_k3) FnExactBitMake_k4) FnExactBitMake_k5) jf6) FnExactBitMake_k7) jf8) FnExactBitMake_k9) FnExactBitMake_k10) FnExactBitMake_k11) FnExactBitMake_k12) FnExactBitMake_k13) FnExactBitMake_k14) FnExactBitMake_k15) FnExactBitMake_k16) FnExactBitMake_k17) FnExactBitMake_k18) FnExactBitMake_k19) FnExactBitMake_k20) FnExactBitMake_k21) jf22) FnExactBitMake_k23) jf24) jf25) jf26) jf27) FnExactBitMake_k28) FnExactBitMake_k29) FnExactBitMake_k30) FnExactBitMake_k31)
theorem FnExactBitMake_row : Rows.FnExactBitMakeSaid :=
  OpenClaim.holds_of_wide 4 Tryd.f4 rfl rfl rfl rfl rfl rfl rfl ⟨rfl, rfl, rfl, rfl, rfl⟩ rfl rfl rfl rfl rfl (by kernel_rfl) Tryd.func4 FnExactBitMake_closed
    (of_decide_eq_true (by kernel_rfl)) (by unfold Func.isWrapper; first | (rw [if_pos (by decide +kernel)]; kernel_rfl) | (rw [if_neg (by decide +kernel)]; exact ⟨rfl, rfl⟩))
    (fun os started H enc _ => FnExactBitMake_lifted os started H enc)

theorem FnExactBitMake_proved : Rows.FnExactBitMakeCardSaid :=
  Claim7.holds_tied_plain_at .later [] [.data] true (true, "528e6866498addfa3c02532fc2b520a962812da30509803cadca87831e7644fe") false
    FnExactBitMake_row (fun _ h => by cases h) (by kernel_rfl) (fun _ h => by cases h) fnExactBitMake_row_tie rfl ⟨rfl, rfl⟩ (by kernel_rfl) rfl
    (fun f fn hf hfn => by
      obtain rfl : f = 4 := Option.some.inj ((show Tryd.prog.funcNamed "loop.example/pinfold/laws.FnExactBitMake" = some 4 by kernel_rfl).symm.trans hf) |>.symm
      obtain rfl : fn = Tryd.f4 := (Option.some.inj (Tryd.func4.symm.trans hfn)).symm
      exact ⟨by kernel_rfl, fun j t ht => by
        rw [Tryd.params4] at ht
        have hm : t ∈ [3, 39] := by simpa using Array.mem_of_getElem? ht
        have hall : ([3, 39].all fun u => !Tryd.prog.wantsStandIn u) = true := by kernel_rfl
        exact (show Tryd.prog.wantsStandIn t = false by simpa using List.all_eq_true.1 hall t hm)⟩)
    (by kernel_rfl)
end Go.Proofs.YtljmmaaaeojbpaaDoor
