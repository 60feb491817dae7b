/- The program's NatCmp answers as the specification's NatCmp at every argument; it writes into no argument, and what it answers is its own. No condition. -/
import Derived.Test.YtknhkgbmimjibaaRows
import Derived.WalkKit
import Derived.ProofKit
import Derived.OpenShut
import Derived.Below
import Derived.Carry
import Derived.Test.YtknhkgbmimjibaaN0
import Derived.Test.YtknhkgbmimjibaaBC
import Derived.Test.YtknhkgbmimjibaaBJ
namespace Go.Proofs.Ytknhkgbmimjibaa
open Go.ChangeShapes Go.WideShapes Go.ChangeAt Go.RowKit
set_option linter.unusedVariables false

theorem FnExactNatCmp_own : ownKnob Try.prog.godebug = none := by kernel_rfl

set_option maxRecDepth 100000 in
set_option maxHeartbeats 4000000 in
theorem FnExactNatCmp_walk (a0 : Option Addr) (len0 cap0 : Nat) (xs0 : List Int) (a1 : Option Addr) (len1 cap1 : Nat) (xs1 : List Int) (w : World) (wb0 : InI w a0 len0 cap0 xs0) (wb1 : InI w a1 len1 cap1 xs1):
    Calls Try.prog 7 #[.slice a0 len0 cap0, .slice a1 len1 cap1] w fun e w' => e = .returned (.bool true) ∧ Below w.heap.size w w' := by
  obtain rfl := wb0.1
  obtain rfl := wb1.1
  have hlen0 := wb0.len
  have hlen1 := wb1.len
  by_cases hl0 : xs0.length ≤ 1048576
  case neg =>
    go_enter Try.func7, Try.ntmps7
    go_wp2
    go_ret
    exact ⟨rfl, (by repeat (first | exact Below.refl _ _ | refine Below.drew ?_ | refine old_alloc ?_ _ | refine old_trans ?_ (by assumption)))⟩
  by_cases hl1 : xs1.length ≤ 1048576
  case neg =>
    go_enter Try.func7, Try.ntmps7
    go_wp2
    go_ret
    exact ⟨rfl, (by repeat (first | exact Below.refl _ _ | refine Below.drew ?_ | refine old_alloc ?_ _ | refine old_trans ?_ (by assumption)))⟩
  have S := hd (fun a a' len len' cap cap' w (h : InI w a len cap xs0) (h' : InI w a' len' cap' xs1) => sNatCmp a a' len len' cap cap' xs0 xs1 w h h')
  have I := hd (fun a a' len len' cap cap' w (h : InI w a len cap xs0) (h' : InI w a' len' cap' xs1) => iNatCmp a a' len len' cap cap' xs0 xs1 w h h')
  generalize ncmp xs0 xs1 = r at *
  have hB : Below w.heap.size w w := Below.refl _ _
  have R0 := wb0
  have R1 := wb1
  go_enter Try.func7, Try.ntmps7
  have l_R0_P := R0.far
  have l_R1_P := R1.far
  have n_P := hB.size
  go_wp2_with fail
  refine (toIntsO a0 cap0 xs0 _ R0 hl0).mono ?_
  rintro e w1 ⟨⟨avP, cvP, rfl, P⟩, hb1⟩
  replace R0 := R0.old hb1
  replace R1 := R1.old hb1
  replace hB := old_trans hB hb1
  clear hb1
  have l_P_Q := P.lt
  have l_R0_Q := R0.far
  have l_R1_Q := R1.far
  have n_Q := hB.size
  go_wp2_with fail
  refine (toIntsO a1 cap1 xs1 _ R1 hl1).mono ?_
  rintro e w2 ⟨⟨avQ, cvQ, rfl, Q⟩, hb2⟩
  replace P := P.later hb2
  replace R0 := R0.old hb2
  replace R1 := R1.old hb2
  replace hB := old_trans hB hb2
  clear hb2
  go_wp2_with fail
  refine (S.out _ _ _ _ _ _ _ P.inI Q.inI).mono ?_
  rintro e w3 ⟨rfl, hb3⟩
  replace P := P.later hb3
  replace Q := Q.later hb3
  replace R0 := R0.old hb3
  replace R1 := R1.old hb3
  replace hB := old_trans hB hb3
  clear hb3
  clear P
  clear Q
  have l_R0_X := R0.far
  have l_R1_X := R1.far
  have n_X := hB.size
  go_wp2_with fail
  refine (toIntsO a0 cap0 xs0 _ R0 hl0).mono ?_
  rintro e w4 ⟨⟨avX, cvX, rfl, X⟩, hb4⟩
  replace R0 := R0.old hb4
  replace R1 := R1.old hb4
  replace hB := old_trans hB hb4
  clear hb4
  have l_X_Y := X.lt
  have l_R0_Y := R0.far
  have l_R1_Y := R1.far
  have n_Y := hB.size
  go_wp2_with fail
  refine (toIntsO a1 cap1 xs1 _ R1 hl1).mono ?_
  rintro e w5 ⟨⟨avY, cvY, rfl, Y⟩, hb5⟩
  replace X := X.later hb5
  replace R0 := R0.old hb5
  replace R1 := R1.old hb5
  replace hB := old_trans hB hb5
  clear hb5
  go_wp2_with fail
  refine (I.out _ _ _ _ _ _ _ X.inI Y.inI).mono ?_
  rintro e w6 ⟨rfl, hb6⟩
  replace X := X.later hb6
  replace Y := Y.later hb6
  replace R0 := R0.old hb6
  replace R1 := R1.old hb6
  replace hB := old_trans hB hb6
  clear hb6
  have l_X_Z := X.lt
  have l_Y_Z := Y.lt
  have l_R0_Z := R0.far
  have l_R1_Z := R1.far
  have n_Z := hB.size
  go_wp2_with fail
  refine (toIntsO a0 cap0 xs0 _ R0 hl0).mono ?_
  rintro e w7 ⟨⟨avZ, cvZ, rfl, Z⟩, hb7⟩
  replace X := X.later hb7
  replace Y := Y.later hb7
  replace R0 := R0.old hb7
  replace R1 := R1.old hb7
  replace hB := old_trans hB hb7
  clear hb7
  go_wp2_with fail
  refine (lEqO avX avZ cvX cvZ _ _ xs0 _ X Z).mono ?_
  rintro e w8 ⟨rfl, hb8⟩
  replace X := X.later hb8
  replace Y := Y.later hb8
  replace Z := Z.later hb8
  replace R0 := R0.old hb8
  replace R1 := R1.old hb8
  replace hB := old_trans hB hb8
  clear hb8
  clear Z
  have l_X_Z := X.lt
  have l_Y_Z := Y.lt
  have l_R0_Z := R0.far
  have l_R1_Z := R1.far
  have n_Z := hB.size
  go_wp2_with fail
  refine (toIntsO a1 cap1 xs1 _ R1 hl1).mono ?_
  rintro e w9 ⟨⟨avZ, cvZ, rfl, Z⟩, hb9⟩
  replace X := X.later hb9
  replace Y := Y.later hb9
  replace R0 := R0.old hb9
  replace R1 := R1.old hb9
  replace hB := old_trans hB hb9
  clear hb9
  go_wp2_with fail
  refine (lEqO avY avZ cvY cvZ _ _ xs1 _ Y Z).mono ?_
  rintro e w10 ⟨rfl, hb10⟩
  replace X := X.later hb10
  replace Y := Y.later hb10
  replace Z := Z.later hb10
  replace R0 := R0.old hb10
  replace R1 := R1.old hb10
  replace hB := old_trans hB hb10
  clear hb10
  go_wp2
  go_ret
  exact ⟨rfl, hB⟩

set_option maxRecDepth 100000 in
theorem FnExactNatCmp_lifted (os : Os) (started : os.Started) (H : Type) (enc : TypeId × Value → H) :
    ReturnsInHanded {} Try.checked os 7 .any (Rows.fnExactNatCmpSpec.pre6 enc Try.prog Try.f7 Rows.fnExactNatCmpRow.domain false) (Rows.fnExactNatCmpSpec.post enc Try.prog Try.f7 false true false false) := by
  refine returnsInHanded_of_change (C := Try.checked) FnExactNatCmp_own started (by kernel_rfl) Try.func7
    (ChangeSpec.witness6 (enc := enc) (C := Try.checked) false ⟨#[], #[.slice none 0 0, .slice none 0 0], []⟩ 8 (by kernel_rfl) (by kernel_rfl) (by kernel_rfl) (by kernel_rfl)) ?_
  intro W base args ds gs before hval0 hW hcnd _
  have hval : ∀ (j : Nat) t v, Try.f7.params[j]? = some t → args[j]? = some v → Value.okWide Try.prog W .any base t v := hval0
  have hW' := hW
  obtain ⟨p, q, hA0, hV, rfl, hfz, hnd⟩ := hW
  have hA : DataW.TrodAll enc Try.prog W 0 (fun _ => true) true Try.f7.params.toList args.toList ds p := hA0
  rw [Try.params7] at hA hval
  obtain ⟨v0, vs0, d0, ds0, p0, q0, hargs, rfl, rfl, h0, r0⟩ := trodAll_cons hA
  obtain ⟨v1, vs1, d1, ds1, p1, q1, rfl, rfl, rfl, h1, r1⟩ := trodAll_cons r0
  obtain ⟨rfl, rfl, rfl⟩ := trodAll_nil r1
  obtain rfl : args = #[v0, v1] := by cases args; simp_all
  obtain ⟨rfl, rfl⟩ := trodVars_none hV
  have k0 := h0
  have lt0 : ∀ x ∈ p0, x.block < W.heap.size := by obtain ⟨m, hm⟩ := k0; exact DataW.trod_lt m _ _ _ hm
  obtain ⟨a0, len0, cap0, xs0, rfl, wb0⟩ := open_intS (hval 0 25 v0 rfl rfl) h0
  have k1 := h1
  have lt1 : ∀ x ∈ p1, x.block < W.heap.size := by obtain ⟨m, hm⟩ := k1; exact DataW.trod_lt m _ _ _ hm
  obtain ⟨a1, len1, cap1, xs1, rfl, wb1⟩ := open_intS (hval 1 25 v1 rfl rfl) h1
  clear hA0 hval0
  refine (FnExactNatCmp_walk a0 len0 cap0 xs0 a1 len1 cap1 xs1 W wb0 wb1).mono fun e W' ⟨he, bel⟩ => ?_
  subst he
  exact ⟨_, rfl, _, _, _, [], _, [], hW', trodAll_mk1 (shut_bool Try.underlying4 _), (trodAll_cons_mk (Below.trod jf1 (by kernel_rfl) (of_decide_eq_true (by kernel_rfl)) k0 bel lt0) (trodAll_cons_mk (Below.trod jf1 (by kernel_rfl) (of_decide_eq_true (by kernel_rfl)) k1 bel lt1) trodAll_mk0)), rfl, bel.frame _, fun h => by cases h⟩

theorem FnExactNatCmp_k0 : (Rows.fnExactNatCmpRow.wf (OpenSpec.ofChange Rows.fnExactNatCmpSpec)) = true := by kernel_rfl
theorem FnExactNatCmp_k3 : (Try.f7.params.all (Try.prog.readableRec ·)) = true := by kernel_rfl
theorem FnExactNatCmp_k4 : (namedTie Try.prog Rows.fnExactNatCmpRow.named Rows.fnExactNatCmpSpec.vars) = true := by kernel_rfl
theorem FnExactNatCmp_k5 : ((Rows.fnExactNatCmpRow.stops == [])) = true := by kernel_rfl
theorem FnExactNatCmp_k7 : ((Rows.fnExactNatCmpRow.knobs == [])) = true := by kernel_rfl
theorem FnExactNatCmp_k9 : ((Rows.fnExactNatCmpRow.inPlace == Try.prog.inPlace 7)) = true := by kernel_rfl
theorem FnExactNatCmp_k10 : ((Rows.fnExactNatCmpRow.unfollowed == Try.prog.unfollowed 7)) = true := by kernel_rfl
theorem FnExactNatCmp_k11 : ((Rows.fnExactNatCmpRow.recurses == Try.prog.recurses 7)) = true := by kernel_rfl
theorem FnExactNatCmp_k12 : ((Rows.fnExactNatCmpRow.named == Try.prog.varsNamed 7)) = true := by kernel_rfl
theorem FnExactNatCmp_k13 : ((Rows.fnExactNatCmpRow.maps == (Try.f7.params.toList ++ Rows.fnExactNatCmpSpec.plain.varTypes Try.prog).any (Try.prog.mapsRec ·))) = true := by kernel_rfl
theorem FnExactNatCmp_k14 : ((Rows.fnExactNatCmpRow.ifaces == (Try.f7.params.toList ++ Rows.fnExactNatCmpSpec.plain.varTypes Try.prog).any (Try.prog.ifacesRec ·))) = true := by kernel_rfl
theorem FnExactNatCmp_k15 : ((Rows.fnExactNatCmpRow.mapsOut == Try.prog.mapsAmong Try.f7.resultTypes.toList)) = true := by kernel_rfl
theorem FnExactNatCmp_k16 : ((Rows.fnExactNatCmpRow.loops == (Try.f7.params.toList ++ Rows.fnExactNatCmpSpec.plain.varTypes Try.prog).any (Try.prog.loopsFrom ·))) = true := by kernel_rfl
theorem FnExactNatCmp_k17 : ((Rows.fnExactNatCmpRow.wideKeys == (Try.f7.params.toList ++ Rows.fnExactNatCmpSpec.plain.varTypes Try.prog ++ Try.f7.resultTypes.toList).any (Try.prog.wideKeysFrom ·))) = true := by kernel_rfl
theorem FnExactNatCmp_k18 : (Rows.fnExactNatCmpSpec.vars.all (Try.prog.varReadable ·)) = true := by kernel_rfl
theorem FnExactNatCmp_k19 : (Try.f7.resultTypes.all (fun t => Try.prog.readableRec t && decide (t < Try.prog.types.size))) = true := by kernel_rfl
theorem FnExactNatCmp_k20 : ((Rows.fnExactNatCmpRow.ifacesOut == Try.f7.resultTypes.toList.any (Try.prog.ifacesRec ·))) = true := by kernel_rfl
theorem FnExactNatCmp_k21 : ((Rows.fnExactNatCmpRow.loopsOut == Try.f7.resultTypes.toList.any (Try.prog.loopsFrom ·))) = true := by kernel_rfl
theorem FnExactNatCmp_k23 : (Rows.fnExactNatCmpRow.shortTexts.isNone) = true := by kernel_rfl
theorem FnExactNatCmp_k28 : ((Rows.fnExactNatCmpRow.kinds == (if Rows.fnExactNatCmpRow.domain.isEmpty then [] else Try.f7.params.toList.map fun t => match Try.prog.underlying t with | some (.int k) => some k | _ => none))) = true := by kernel_rfl
theorem FnExactNatCmp_k29 : ((Rows.fnExactNatCmpRow.pinned == Rows.fnExactNatCmpRow.pinnedBy)) = true := by kernel_rfl
theorem FnExactNatCmp_k30 : ((Rows.fnExactNatCmpRow.veiled == (Try.f7.params.toList ++ Rows.fnExactNatCmpSpec.plain.varTypes Try.prog ++ Try.f7.resultTypes.toList).any (Try.prog.veiledRec ·))) = true := by kernel_rfl
theorem FnExactNatCmp_k31 : (Rows.fnExactNatCmpRow.veiledFits Try.prog Try.f7.params.toList (Try.f7.params.toList ++ Rows.fnExactNatCmpSpec.plain.varTypes Try.prog ++ Try.f7.resultTypes.toList)) = true := by kernel_rfl
set_option maxRecDepth 100000 in
theorem FnExactNatCmp_closed : joinedFacts Try.prog 7 Try.f7 Rows.fnExactNatCmpSpec Rows.fnExactNatCmpRow = true := (and2 (and2 (and2 (and2 (and2 (and2 (and2 (and2 (and2 (and2 (and2 (and2 (and2 (and2 (and2 (and2 (and2 (and2 (and2 (and2 (and2 (and2 (and2 (and2 (and2 (and2 (and2 (and2 (and2 (and2 (and2 FnExactNatCmp_k0 jf1) jf2) FnExactNatCmp_k3) FnExactNatCmp_k4) FnExactNatCmp_k5) jf6) FnExactNatCmp_k7) jf8) FnExactNatCmp_k9) FnExactNatCmp_k10) FnExactNatCmp_k11) FnExactNatCmp_k12) FnExactNatCmp_k13) FnExactNatCmp_k14) FnExactNatCmp_k15) FnExactNatCmp_k16) FnExactNatCmp_k17) FnExactNatCmp_k18) FnExactNatCmp_k19) FnExactNatCmp_k20) FnExactNatCmp_k21) jf22) FnExactNatCmp_k23) jf24) jf25) jf26) jf27) FnExactNatCmp_k28) FnExactNatCmp_k29) FnExactNatCmp_k30) FnExactNatCmp_k31)
theorem FnExactNatCmp_over : Rows.fnExactNatCmpRow.holds Try.pinned (OpenSpec.ofChange Rows.fnExactNatCmpSpec) :=
  OpenClaim.holds_of_wide 7 Try.f7 rfl rfl rfl rfl rfl rfl rfl ⟨rfl, rfl, rfl, rfl, rfl⟩ rfl rfl rfl rfl rfl (by kernel_rfl) Try.func7 FnExactNatCmp_closed
    (of_decide_eq_true (by kernel_rfl)) (by unfold Func.isWrapper; first | (rw [if_pos (by decide +kernel)]; kernel_rfl) | (rw [if_neg (by decide +kernel)]; exact ⟨rfl, rfl⟩))
    (fun os started H enc _ => FnExactNatCmp_lifted os started H enc)

theorem FnExactNatCmp_proved : Rows.FnExactNatCmpSaid := FnExactNatCmp_over
end Go.Proofs.Ytknhkgbmimjibaa
