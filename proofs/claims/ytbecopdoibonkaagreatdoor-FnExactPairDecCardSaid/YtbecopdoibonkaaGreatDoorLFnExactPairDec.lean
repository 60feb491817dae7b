/- FnExactPairDec holds at every width and every text that a call hands over: PairDec answers as the specification, every field. Conditions: the library's tables and its handle of errors lie as their texts lay them. -/
import Derived.Test.YtbecopdoibonkaaGreatDoorRows
import Derived.Test.YtbecopdoibonkaaGreatDoorTie
import Derived.Test.YtbecopdoibonkaaGreatDoorCards
import Derived.WalkKit
import Derived.ProofKit
import Derived.OpenShut
import Derived.Below
import Derived.Carry
import Derived.Test.YtbecopdoibonkaaGreatDoorPK01
import Derived.Test.YtbecopdoibonkaaGreatDoorPK05
import Derived.Test.YtbecopdoibonkaaGreatDoorPK35
import Derived.Test.YtbecopdoibonkaaGreatDoorPK04
namespace Go.Proofs.YtbecopdoibonkaaGreatDoor
open Go.ChangeShapes Go.WideShapes Go.ChangeAt Go.RowKit
set_option linter.unusedVariables false
set_option maxRecDepth 100000

set_option maxRecDepth 100000 in
set_option maxHeartbeats 8000000 in
theorem FnExactPairDec_walk (a0 : Int) (wa0 : -9223372036854775808 ≤ a0 ∧ a0 ≤ 9223372036854775807) (s1 : ByteArray) (hs1 : s1.size ≤ maxLen) (w : World)  (hT : Tab w ∧ ET w) :
    Calls Tryz.prog 3 #[.int .i64 a0, .string s1] w fun e w' => e = .returned (.bool true) ∧ Below w.heap.size w w' := by
  have hs9 := hs1
  unfold maxLen at hs9
  by_cases hl0 : 1048576 < s1.size
  · have hl' : (1048576 : Int) < (s1.size : Int) := by omega
    go_enter Tryz.func3, Tryz.ntmps3
    go_wp2
    go_ret
    exact ⟨rfl, (by repeat (first | exact Below.refl _ _ | refine Below.drew ?_ | refine old_alloc ?_ _ | refine old_trans ?_ (by assumption)))⟩
  have hl' : ¬ (1048576 : Int) < (s1.size : Int) := by omega
  have S := hd (fun w' => sPairDec a0 s1 w' hs1)
  have I := hd (fun w' (h : Below w.heap.size w w') => iPairDec a0 s1 w' (hT.1.old h) (hT.2.old h))
  have hB : Below w.heap.size w w := Below.refl _ _
  generalize pdL a0 s1 = lo at *
  generalize pdH a0 s1 = hi at *
  generalize pdOk a0 s1 = ok at *
  have EP := hd (eqPairS lo hi)
  clear hT hl0 hs9
  go_enter Tryz.func3, Tryz.ntmps3
  go_wp2_with fail
  refine (S.out _).mono ?_
  rintro e w3 ⟨rfl, hb3⟩
  replace hB := old_trans hB hb3
  have hp : Below w3.heap.size w3 (w3.alloc (.cells #[.int .i64 lo, .int .i64 hi] 23)) := old_alloc (Below.refl _ _) _
  have Q0 : (w3.alloc (.cells #[.int .i64 lo, .int .i64 hi] 23)).cell? ⟨w3.heap.size, 0, none⟩ = some (.int .i64 lo) := by simp
  have Q1 : (w3.alloc (.cells #[.int .i64 lo, .int .i64 hi] 23)).cell? ⟨w3.heap.size, 1, none⟩ = some (.int .i64 hi) := by simp
  have hq3 : w3.heap.size < (w3.alloc (.cells #[.int .i64 lo, .int .i64 hi] 23)).heap.size := by simp
  replace hB := old_trans hB hp
  clear hp hb3
  go_wp2_with fail
  refine (I.out _ hB).mono ?_
  rintro e w5 ⟨rfl, hb5⟩
  replace hB := old_trans hB hb5
  replace Q0 := cell_later hb5 Q0
  replace Q1 := cell_later hb5 Q1
  replace hq3 := Nat.lt_of_lt_of_le hq3 hb5.size
  have hq : Below w5.heap.size w5 (w5.alloc (.cells #[.int .i64 lo, .int .i64 hi] 23)) := old_alloc (Below.refl _ _) _
  have G0 : (w5.alloc (.cells #[.int .i64 lo, .int .i64 hi] 23)).cell? ⟨w5.heap.size, 0, none⟩ = some (.int .i64 lo) := by simp
  have G1 : (w5.alloc (.cells #[.int .i64 lo, .int .i64 hi] 23)).cell? ⟨w5.heap.size, 1, none⟩ = some (.int .i64 hi) := by simp
  replace Q0 := cell_later hq Q0
  replace Q1 := cell_later hq Q1
  replace hB := old_trans hB hq
  have nq1 := Nat.ne_of_lt hq3
  have nq2 := Nat.ne_of_gt hq3
  clear hb5
  go_wp2_with fail
  refine (EP.out _).mono ?_
  rintro e w9 ⟨rfl, hb9⟩
  replace hB := old_trans hB hb9
  clear hb9 hq Q0 Q1 G0 G1 nq1 nq2 hq3 EP
  cases ok
  all_goals
    go_wp2
    go_ret
    exact ⟨rfl, hB⟩

set_option maxRecDepth 100000 in
theorem FnExactPairDec_lifted (os : Os) (started : os.Started) (H : Type) (enc : TypeId × Value → H) :
    ReturnsInHanded {} Tryz.checked os 3 .any (fun w args => (Rows.fnExactPairDecSpec.pre enc Tryz.prog Tryz.f3 [] false w args ∧ laidMetH Tryz.prog LUL w) ∧ sizedMet enc Tryz.prog Tryz.f3 (OpenSpec.ofChange Rows.fnExactPairDecSpec) false w args)
      (Rows.fnExactPairDecSpec.post enc Tryz.prog Tryz.f3 false true false false) := by
  refine returnsInHanded_of_change_and (C := Tryz.checked) (X := fun w _ => laidMetH Tryz.prog LUL w) (fun _ _ _ hh h => h.of_heap hh) LU_own started (by kernel_rfl) Tryz.func3
    (ChangeSpec.witness_shaped (enc := enc) (C := Tryz.checked) (os := os) (X := fun w _ => laidMetH Tryz.prog LUL w) false (World.doorLaid Tryz.prog LU_fuel os) #[.int .i64 0, .string ⟨#[]⟩] 8 rfl (LU_shaped os _) (by kernel_rfl) (by kernel_rfl) (by kernel_rfl) (LU_met os _)) ?_
  intro W base args ds gs before hval0 hW _ _ hL _
  have hval : ∀ (j : Nat) t v, Tryz.f3.params[j]? = some t → args[j]? = some v → Value.okWide Tryz.prog W .any base t v := hval0
  have hW' := hW
  obtain ⟨p, q, hA0, hV, rfl, hfz, hnd⟩ := hW
  have hA : DataW.TrodAll enc Tryz.prog W 0 (fun _ => true) true Tryz.f3.params.toList args.toList ds p := hA0
  rw [Tryz.params3] at hA hval
  obtain ⟨v0, vs0, d0, ds0, p0, q0, hargs, rfl, rfl, h0, r0⟩ := trodAll_cons hA
  obtain ⟨v1, vs1, d1, ds1, p1, q1, rfl, rfl, rfl, h1, r1⟩ := trodAll_cons r0
  obtain ⟨rfl, rfl, rfl⟩ := trodAll_nil r1
  obtain rfl : args = #[v0, v1] := by cases args; simp_all
  obtain ⟨rfl, rfl⟩ := trodVars_none hV
  have k0 := h0
  have lt0 : ∀ x ∈ p0, x.block < W.heap.size := by obtain ⟨m, hm⟩ := k0; exact DataW.trod_lt m _ _ _ hm
  obtain ⟨a0, rfl, -, -, wf0⟩ := open_int Tryz.underlying3 (hval 0 3 v0 rfl rfl) h0
  have wa0 := bounds_i64 wf0
  have k1 := h1
  have lt1 : ∀ x ∈ p1, x.block < W.heap.size := by obtain ⟨m, hm⟩ := k1; exact DataW.trod_lt m _ _ _ hm
  obtain ⟨s1, rfl, -, -, hs1⟩ := Go.ChangeMaps.open_string Tryz.underlying9 (hval 1 9 v1 rfl rfl) h1
  clear hA0 hval0
  refine (FnExactPairDec_walk a0 wa0 s1 hs1 W  (two_of6 hL)).mono fun e W' ⟨he, bel⟩ => ?_
  subst he
  exact ⟨_, rfl, _, _, _, [], _, [], hW', trodAll_mk1 (shut_bool Tryz.underlying4 _), (trodAll_cons_mk (Below.trod jf1 (by kernel_rfl) (of_decide_eq_true (by kernel_rfl)) k0 bel lt0) (trodAll_cons_mk (Below.trod jf1 (by kernel_rfl) (of_decide_eq_true (by kernel_rfl)) k1 bel lt1) trodAll_mk0)), rfl, bel.frame _, fun h => by cases h⟩

theorem FnExactPairDec_k0 : (Rows.fnExactPairDecRow.wf (OpenSpec.ofChange Rows.fnExactPairDecSpec)) = true := by kernel_rfl
theorem FnExactPairDec_k3 : (Tryz.f3.params.all (Tryz.prog.readableRec ·)) = true := by kernel_rfl
theorem FnExactPairDec_k4 : (namedTie Tryz.prog Rows.fnExactPairDecRow.named Rows.fnExactPairDecSpec.vars) = true := by kernel_rfl
theorem FnExactPairDec_k5 : ((Rows.fnExactPairDecRow.stops == [])) = true := by kernel_rfl
theorem FnExactPairDec_k7 : ((Rows.fnExactPairDecRow.knobs == [])) = true := by kernel_rfl
theorem FnExactPairDec_k9 : ((Rows.fnExactPairDecRow.inPlace == Tryz.prog.inPlace 3)) = true := by kernel_rfl
theorem FnExactPairDec_k10 : ((Rows.fnExactPairDecRow.unfollowed == Tryz.prog.unfollowed 3)) = true := by kernel_rfl
theorem FnExactPairDec_k11 : ((Rows.fnExactPairDecRow.recurses == Tryz.prog.recurses 3)) = true := by kernel_rfl
theorem FnExactPairDec_k12 : ((Rows.fnExactPairDecRow.named == Tryz.prog.varsNamed 3)) = true := by kernel_rfl
theorem FnExactPairDec_k13 : ((Rows.fnExactPairDecRow.maps == (Tryz.f3.params.toList ++ Rows.fnExactPairDecSpec.plain.varTypes Tryz.prog).any (Tryz.prog.mapsRec ·))) = true := by kernel_rfl
theorem FnExactPairDec_k14 : ((Rows.fnExactPairDecRow.ifaces == (Tryz.f3.params.toList ++ Rows.fnExactPairDecSpec.plain.varTypes Tryz.prog).any (Tryz.prog.ifacesRec ·))) = true := by kernel_rfl
theorem FnExactPairDec_k15 : ((Rows.fnExactPairDecRow.mapsOut == Tryz.prog.mapsAmong Tryz.f3.resultTypes.toList)) = true := by kernel_rfl
theorem FnExactPairDec_k16 : ((Rows.fnExactPairDecRow.loops == (Tryz.f3.params.toList ++ Rows.fnExactPairDecSpec.plain.varTypes Tryz.prog).any (Tryz.prog.loopsFrom ·))) = true := by kernel_rfl
theorem FnExactPairDec_k17 : ((Rows.fnExactPairDecRow.wideKeys == (Tryz.f3.params.toList ++ Rows.fnExactPairDecSpec.plain.varTypes Tryz.prog ++ Tryz.f3.resultTypes.toList).any (Tryz.prog.wideKeysFrom ·))) = true := by kernel_rfl
theorem FnExactPairDec_k18 : (Rows.fnExactPairDecSpec.vars.all (Tryz.prog.varReadable ·)) = true := by kernel_rfl
theorem FnExactPairDec_k19 : (Tryz.f3.resultTypes.all (fun t => Tryz.prog.readableRec t && decide (t < Tryz.prog.types.size))) = true := by kernel_rfl
theorem FnExactPairDec_k20 : ((Rows.fnExactPairDecRow.ifacesOut == Tryz.f3.resultTypes.toList.any (Tryz.prog.ifacesRec ·))) = true := by kernel_rfl
theorem FnExactPairDec_k21 : ((Rows.fnExactPairDecRow.loopsOut == Tryz.f3.resultTypes.toList.any (Tryz.prog.loopsFrom ·))) = true := by kernel_rfl
theorem FnExactPairDec_k23 : (Rows.fnExactPairDecRow.shortTexts.isNone) = true := by kernel_rfl
theorem FnExactPairDec_k28 : ((Rows.fnExactPairDecRow.kinds == (if Rows.fnExactPairDecRow.domain.isEmpty then [] else Tryz.f3.params.toList.map fun t => match Tryz.prog.underlying t with | some (.int k) => some k | _ => none))) = true := by kernel_rfl
theorem FnExactPairDec_k29 : ((Rows.fnExactPairDecRow.pinned == Rows.fnExactPairDecRow.pinnedBy)) = true := by kernel_rfl
theorem FnExactPairDec_k30 : ((Rows.fnExactPairDecRow.veiled == (Tryz.f3.params.toList ++ Rows.fnExactPairDecSpec.plain.varTypes Tryz.prog ++ Tryz.f3.resultTypes.toList).any (Tryz.prog.veiledRec ·))) = true := by kernel_rfl
theorem FnExactPairDec_k31 : (Rows.fnExactPairDecRow.veiledFits Tryz.prog Tryz.f3.params.toList (Tryz.f3.params.toList ++ Rows.fnExactPairDecSpec.plain.varTypes Tryz.prog ++ Tryz.f3.resultTypes.toList)) = true := by kernel_rfl
set_option maxRecDepth 100000 in
theorem FnExactPairDec_closed : joinedFacts Tryz.prog 3 Tryz.f3 Rows.fnExactPairDecSpec Rows.fnExactPairDecRow = true := (and2 (and2 (and2 (and2 (and2 (and2 (and2 (and2 (and2 (and2 (and2 (and2 (and2 (and2 (and2 (and2 (and2 (and2 (and2 (and2 (and2 (and2 (and2 (and2 (and2 (and2 (and2 (and2 (and2 (and2 (and2 FnExactPairDec_k0 jf1) jf2) FnExactPairDec_k3) FnExactPairDec_k4) FnExactPairDec_k5) jf6) FnExactPairDec_k7) jf8) FnExactPairDec_k9) FnExactPairDec_k10) FnExactPairDec_k11) FnExactPairDec_k12) FnExactPairDec_k13) FnExactPairDec_k14) FnExactPairDec_k15) FnExactPairDec_k16) FnExactPairDec_k17) FnExactPairDec_k18) FnExactPairDec_k19) FnExactPairDec_k20) FnExactPairDec_k21) jf22) FnExactPairDec_k23) jf24) jf25) jf26) jf27) FnExactPairDec_k28) FnExactPairDec_k29) FnExactPairDec_k30) FnExactPairDec_k31)
theorem FnExactPairDec_row : Rows.FnExactPairDecSaid :=
  OpenClaim.holds_of_wide 3 Tryz.f3 rfl rfl rfl rfl rfl rfl rfl ⟨rfl, rfl, rfl, rfl, rfl⟩ rfl rfl rfl rfl rfl (by kernel_rfl) Tryz.func3 FnExactPairDec_closed
    (of_decide_eq_true (by kernel_rfl)) (by unfold Func.isWrapper; first | (rw [if_pos (by decide +kernel)]; kernel_rfl) | (rw [if_neg (by decide +kernel)]; exact ⟨rfl, rfl⟩))
    (fun os started H enc _ => FnExactPairDec_lifted os started H enc)

theorem FnExactPairDec_proved : Rows.FnExactPairDecCardSaid :=
  Claim7.holds_tied_plain_at .later [] [.data, .data, .data, .handle, .sentinel, .sentinel] true (true, "d9c8ab7ace2ce3bac7434defd0dea13baad6f4fda3864ea048967897c79f3b07") true
    FnExactPairDec_row (fun _ h => by cases h) (by kernel_rfl) (fun _ h => by cases h) fnExactPairDec_row_tie rfl ⟨rfl, rfl⟩ (by kernel_rfl) rfl
    (fun f fn hf hfn => by
      obtain rfl : f = 3 := Option.some.inj ((show Tryz.prog.funcNamed "loop.example/pinfold/laws.FnExactPairDec" = some 3 by kernel_rfl).symm.trans hf) |>.symm
      obtain rfl : fn = Tryz.f3 := (Option.some.inj (Tryz.func3.symm.trans hfn)).symm
      exact ⟨by kernel_rfl, fun j t ht => by
        rw [Tryz.params3] at ht
        have hm : t ∈ [3, 9] := by simpa using Array.mem_of_getElem? ht
        have hall : ([3, 9].all fun u => !Tryz.prog.wantsStandIn u) = true := by kernel_rfl
        exact (show Tryz.prog.wantsStandIn t = false by simpa using List.all_eq_true.1 hall t hm)⟩)
    (by kernel_rfl)
end Go.Proofs.YtbecopdoibonkaaGreatDoor
