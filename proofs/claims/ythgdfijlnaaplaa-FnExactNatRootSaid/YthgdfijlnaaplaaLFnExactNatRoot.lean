/- The program's NatRoot answers as the specification's NatRoot at every argument; it writes into no argument, and what it answers is its own. No condition. -/
import Derived.Test.YthgdfijlnaaplaaRows
import Derived.WalkKit
import Derived.ProofKit
import Derived.OpenShut
import Derived.Below
import Derived.Carry
import Derived.Test.YthgdfijlnaaplaaN0
import Derived.Test.YthgdfijlnaaplaaBV
import Derived.Test.YthgdfijlnaaplaaBJ
namespace Go.Proofs.Ythgdfijlnaaplaa
open Go.ChangeShapes Go.WideShapes Go.ChangeAt Go.RowKit
set_option linter.unusedVariables false

theorem FnExactNatRoot_own : ownKnob Try.prog.godebug = none := by kernel_rfl

set_option maxRecDepth 100000 in
set_option maxHeartbeats 4000000 in
theorem FnExactNatRoot_walk (a0 : Option Addr) (len0 cap0 : Nat) (xs0 : List Int) (w : World) (wb0 : InI w a0 len0 cap0 xs0):
    Calls Try.prog 4 #[.slice a0 len0 cap0] w fun e w' => e = .returned (.bool true) ∧ Below w.heap.size w w' := by
  obtain rfl := wb0.1
  have hlen0 := wb0.len
  by_cases hl0 : xs0.length ≤ 1048576
  case neg =>
    go_enter Try.func4, Try.ntmps4
    go_wp2
    go_ret
    exact ⟨rfl, (by repeat (first | exact Below.refl _ _ | refine Below.drew ?_ | refine old_alloc ?_ _ | refine old_trans ?_ (by assumption)))⟩
  obtain ⟨r, hr⟩ := root_is (val xs0)
  have S := hd (fun a len cap w (h : InI w a len cap xs0) => sNatRoot a len cap xs0 r hr w h)
  have I := hd (fun a len cap w (h : InI w a len cap xs0) => iNatRoot a len cap xs0 r hr w h)
  have hql := rootN_len hr
  clear hr
  generalize resN (natOk xs0) r = ql at *
  generalize rootX xs0 r = r1 at *
  generalize natOk xs0 = r2 at *
  have hx1 : ¬ (1 + (xs0.length : Int) < 0) := by omega
  have hx2 : ¬ (1 + (ql.length : Int) < 0) := by omega
  have hB : Below w.heap.size w w := Below.refl _ _
  have R0 := wb0
  go_enter Try.func4, Try.ntmps4
  have l_R0_P := R0.far
  have n_P := hB.size
  go_wp2_with fail
  refine (toIntsO a0 cap0 xs0 _ R0 hl0).mono ?_
  rintro e w1 ⟨⟨avP, cvP, rfl, P⟩, hb1⟩
  replace R0 := R0.old hb1
  replace hB := old_trans hB hb1
  clear hb1
  have l_P_W := P.lt
  have l_R0_W := R0.far
  have n_W := hB.size
  go_wp2_with fail
  refine (S.out _ _ _ _ P.inI).mono ?_
  rintro e w2 ⟨⟨avW, cvW, rfl, W⟩, hb2⟩
  replace P := P.later hb2
  replace R0 := R0.old hb2
  replace hB := old_trans hB hb2
  clear hb2
  clear P
  have l_W_X := W.lt
  have l_R0_X := R0.far
  have n_X := hB.size
  go_wp2_with fail
  refine (toIntsO a0 cap0 xs0 _ R0 hl0).mono ?_
  rintro e w3 ⟨⟨avX, cvX, rfl, X⟩, hb3⟩
  replace W := W.later hb3
  replace R0 := R0.old hb3
  replace hB := old_trans hB hb3
  clear hb3
  have l_W_G := W.lt
  have l_X_G := X.lt
  have l_R0_G := R0.far
  have n_G := hB.size
  go_wp2_with fail
  refine (I.out _ _ _ _ X.inI).mono ?_
  rintro e w4 ⟨⟨avG, cvG, rfl, G⟩, hb4⟩
  replace W := W.later hb4
  replace X := X.later hb4
  replace R0 := R0.old hb4
  replace hB := old_trans hB hb4
  clear hb4
  go_wp2_with fail
  refine (lEqO avG avW cvG cvW _ _ ql _ G W).mono ?_
  rintro e w5 ⟨rfl, hb5⟩
  replace W := W.later hb5
  replace X := X.later hb5
  replace G := G.later hb5
  replace R0 := R0.old hb5
  replace hB := old_trans hB hb5
  clear hb5
  have l_W_Z := W.lt
  have l_X_Z := X.lt
  have l_G_Z := G.lt
  have l_R0_Z := R0.far
  have n_Z := hB.size
  go_wp2_with fail
  refine (toIntsO a0 cap0 xs0 _ R0 hl0).mono ?_
  rintro e w6 ⟨⟨avZ, cvZ, rfl, Z⟩, hb6⟩
  replace W := W.later hb6
  replace X := X.later hb6
  replace G := G.later hb6
  replace R0 := R0.old hb6
  replace hB := old_trans hB hb6
  clear hb6
  go_wp2_with fail
  refine (lEqO avX avZ cvX cvZ _ _ xs0 _ X Z).mono ?_
  rintro e w7 ⟨rfl, hb7⟩
  replace W := W.later hb7
  replace X := X.later hb7
  replace G := G.later hb7
  replace Z := Z.later hb7
  replace R0 := R0.old hb7
  replace hB := old_trans hB hb7
  clear hb7
  clear Z
  go_wp2_with fail
  refine (lMarkO _ avX cvX xs0 (1) _ X hl0 (by omega) (by omega)).mono ?_
  rintro e w8 ⟨rfl, X', hg8⟩
  replace W := W.kept hg8 (X.sep l_W_X)
  replace G := G.kept hg8 (G.sep' l_X_G)
  replace R0 := R0.kept hg8 (fun h0 => X.sep (l_R0_X h0))
  replace hB := Below.marked hB X hg8 n_X hB.size
  clear X
  have X := X'
  clear X'
  go_wp2_with fail
  refine (lEqO avG avW cvG cvW _ _ ql _ G W).mono ?_
  rintro e w9 ⟨rfl, hb9⟩
  replace W := W.later hb9
  replace X := X.later hb9
  replace G := G.later hb9
  replace R0 := R0.old hb9
  replace hB := old_trans hB hb9
  clear hb9
  clear X
  go_wp2_with fail
  refine (lMarkO _ avG cvG ql (1) _ G hql (by omega) (by omega)).mono ?_
  rintro e w10 ⟨rfl, G', hg10⟩
  replace W := W.kept hg10 (G.sep l_W_G)
  replace R0 := R0.kept hg10 (fun h0 => G.sep (l_R0_G h0))
  replace hB := Below.marked hB G hg10 n_G hB.size
  clear G
  have G := G'
  clear G'
  go_wp2_with fail
  refine (lHeldO _ avG cvG ql.length (1) _ G hql (by omega) (by omega)).mono ?_
  rintro e w11 ⟨rfl, hb11⟩
  replace W := W.later hb11
  replace G := G.later hb11
  replace R0 := R0.old hb11
  replace hB := old_trans hB hb11
  clear hb11
  have l_W_P := W.lt
  have l_G_P := G.lt
  have l_R0_P := R0.far
  have n_P := hB.size
  go_wp2_with fail
  refine (toIntsO a0 cap0 xs0 _ R0 hl0).mono ?_
  rintro e w12 ⟨⟨avP, cvP, rfl, P⟩, hb12⟩
  replace W := W.later hb12
  replace G := G.later hb12
  replace R0 := R0.old hb12
  replace hB := old_trans hB hb12
  clear hb12
  have l_W_H := W.lt
  have l_G_H := G.lt
  have l_P_H := P.lt
  have l_R0_H := R0.far
  have n_H := hB.size
  go_wp2_with fail
  refine (I.out _ _ _ _ P.inI).mono ?_
  rintro e w13 ⟨⟨avH, cvH, rfl, H⟩, hb13⟩
  replace W := W.later hb13
  replace G := G.later hb13
  replace P := P.later hb13
  replace R0 := R0.old hb13
  replace hB := old_trans hB hb13
  clear hb13
  clear P
  go_wp2_with fail
  refine (lEqO avH avW cvH cvW _ _ ql _ H W).mono ?_
  rintro e w14 ⟨rfl, hb14⟩
  replace W := W.later hb14
  replace G := G.later hb14
  replace H := H.later hb14
  replace R0 := R0.old hb14
  replace hB := old_trans hB hb14
  clear hb14
  go_wp2_with fail
  refine (lHeldO _ avG cvG ql.length (1) _ G hql (by omega) (by omega)).mono ?_
  rintro e w15 ⟨rfl, hb15⟩
  replace W := W.later hb15
  replace G := G.later hb15
  replace H := H.later hb15
  replace R0 := R0.old hb15
  replace hB := old_trans hB hb15
  clear hb15
  go_wp2
  go_ret
  exact ⟨rfl, hB⟩

set_option maxRecDepth 100000 in
theorem FnExactNatRoot_lifted (os : Os) (started : os.Started) (H : Type) (enc : TypeId × Value → H) :
    ReturnsInHanded {} Try.checked os 4 .any (Rows.fnExactNatRootSpec.pre6 enc Try.prog Try.f4 Rows.fnExactNatRootRow.domain false) (Rows.fnExactNatRootSpec.post enc Try.prog Try.f4 false true false false) := by
  refine returnsInHanded_of_change (C := Try.checked) FnExactNatRoot_own started (by kernel_rfl) Try.func4
    (ChangeSpec.witness6 (enc := enc) (C := Try.checked) false ⟨#[], #[.slice none 0 0], []⟩ 8 (by kernel_rfl) (by kernel_rfl) (by kernel_rfl) (by kernel_rfl)) ?_
  intro W base args ds gs before hval0 hW hcnd _
  have hval : ∀ (j : Nat) t v, Try.f4.params[j]? = some t → args[j]? = some v → Value.okWide Try.prog W .any base t v := hval0
  have hW' := hW
  obtain ⟨p, q, hA0, hV, rfl, hfz, hnd⟩ := hW
  have hA : DataW.TrodAll enc Try.prog W 0 (fun _ => true) true Try.f4.params.toList args.toList ds p := hA0
  rw [Try.params4] at hA hval
  obtain ⟨v0, vs0, d0, ds0, p0, q0, hargs, rfl, rfl, h0, r0⟩ := trodAll_cons hA
  obtain ⟨rfl, rfl, rfl⟩ := trodAll_nil r0
  obtain rfl : args = #[v0] := by cases args; simp_all
  obtain ⟨rfl, rfl⟩ := trodVars_none hV
  have k0 := h0
  have lt0 : ∀ x ∈ p0, x.block < W.heap.size := by obtain ⟨m, hm⟩ := k0; exact DataW.trod_lt m _ _ _ hm
  obtain ⟨a0, len0, cap0, xs0, rfl, wb0⟩ := open_intS (hval 0 23 v0 rfl rfl) h0
  clear hA0 hval0
  refine (FnExactNatRoot_walk a0 len0 cap0 xs0 W wb0).mono fun e W' ⟨he, bel⟩ => ?_
  subst he
  exact ⟨_, rfl, _, _, _, [], _, [], hW', trodAll_mk1 (shut_bool Try.underlying4 _), (trodAll_cons_mk (Below.trod jf1 (by kernel_rfl) (of_decide_eq_true (by kernel_rfl)) k0 bel lt0) trodAll_mk0), rfl, bel.frame _, fun h => by cases h⟩

theorem FnExactNatRoot_k0 : (Rows.fnExactNatRootRow.wf (OpenSpec.ofChange Rows.fnExactNatRootSpec)) = true := by kernel_rfl
theorem FnExactNatRoot_k3 : (Try.f4.params.all (Try.prog.readableRec ·)) = true := by kernel_rfl
theorem FnExactNatRoot_k4 : (namedTie Try.prog Rows.fnExactNatRootRow.named Rows.fnExactNatRootSpec.vars) = true := by kernel_rfl
theorem FnExactNatRoot_k5 : ((Rows.fnExactNatRootRow.stops == [])) = true := by kernel_rfl
theorem FnExactNatRoot_k7 : ((Rows.fnExactNatRootRow.knobs == [])) = true := by kernel_rfl
theorem FnExactNatRoot_k9 : ((Rows.fnExactNatRootRow.inPlace == Try.prog.inPlace 4)) = true := by kernel_rfl
theorem FnExactNatRoot_k10 : ((Rows.fnExactNatRootRow.unfollowed == Try.prog.unfollowed 4)) = true := by kernel_rfl
theorem FnExactNatRoot_k11 : ((Rows.fnExactNatRootRow.recurses == Try.prog.recurses 4)) = true := by kernel_rfl
theorem FnExactNatRoot_k12 : ((Rows.fnExactNatRootRow.named == Try.prog.varsNamed 4)) = true := by kernel_rfl
theorem FnExactNatRoot_k13 : ((Rows.fnExactNatRootRow.maps == (Try.f4.params.toList ++ Rows.fnExactNatRootSpec.plain.varTypes Try.prog).any (Try.prog.mapsRec ·))) = true := by kernel_rfl
theorem FnExactNatRoot_k14 : ((Rows.fnExactNatRootRow.ifaces == (Try.f4.params.toList ++ Rows.fnExactNatRootSpec.plain.varTypes Try.prog).any (Try.prog.ifacesRec ·))) = true := by kernel_rfl
theorem FnExactNatRoot_k15 : ((Rows.fnExactNatRootRow.mapsOut == Try.prog.mapsAmong Try.f4.resultTypes.toList)) = true := by kernel_rfl
theorem FnExactNatRoot_k16 : ((Rows.fnExactNatRootRow.loops == (Try.f4.params.toList ++ Rows.fnExactNatRootSpec.plain.varTypes Try.prog).any (Try.prog.loopsFrom ·))) = true := by kernel_rfl
theorem FnExactNatRoot_k17 : ((Rows.fnExactNatRootRow.wideKeys == (Try.f4.params.toList ++ Rows.fnExactNatRootSpec.plain.varTypes Try.prog ++ Try.f4.resultTypes.toList).any (Try.prog.wideKeysFrom ·))) = true := by kernel_rfl
theorem FnExactNatRoot_k18 : (Rows.fnExactNatRootSpec.vars.all (Try.prog.varReadable ·)) = true := by kernel_rfl
theorem FnExactNatRoot_k19 : (Try.f4.resultTypes.all (fun t => Try.prog.readableRec t && decide (t < Try.prog.types.size))) = true := by kernel_rfl
theorem FnExactNatRoot_k20 : ((Rows.fnExactNatRootRow.ifacesOut == Try.f4.resultTypes.toList.any (Try.prog.ifacesRec ·))) = true := by kernel_rfl
theorem FnExactNatRoot_k21 : ((Rows.fnExactNatRootRow.loopsOut == Try.f4.resultTypes.toList.any (Try.prog.loopsFrom ·))) = true := by kernel_rfl
theorem FnExactNatRoot_k23 : (Rows.fnExactNatRootRow.shortTexts.isNone) = true := by kernel_rfl
theorem FnExactNatRoot_k28 : ((Rows.fnExactNatRootRow.kinds == (if Rows.fnExactNatRootRow.domain.isEmpty then [] else Try.f4.params.toList.map fun t => match Try.prog.underlying t with | some (.int k) => some k | _ => none))) = true := by kernel_rfl
theorem FnExactNatRoot_k29 : ((Rows.fnExactNatRootRow.pinned == Rows.fnExactNatRootRow.pinnedBy)) = true := by kernel_rfl
theorem FnExactNatRoot_k30 : ((Rows.fnExactNatRootRow.veiled == (Try.f4.params.toList ++ Rows.fnExactNatRootSpec.plain.varTypes Try.prog ++ Try.f4.resultTypes.toList).any (Try.prog.veiledRec ·))) = true := by kernel_rfl
theorem FnExactNatRoot_k31 : (Rows.fnExactNatRootRow.veiledFits Try.prog Try.f4.params.toList (Try.f4.params.toList ++ Rows.fnExactNatRootSpec.plain.varTypes Try.prog ++ Try.f4.resultTypes.toList)) = true := by kernel_rfl
set_option maxRecDepth 100000 in
theorem FnExactNatRoot_closed : joinedFacts Try.prog 4 Try.f4 Rows.fnExactNatRootSpec Rows.fnExactNatRootRow = true := (and2 (and2 (and2 (and2 (and2 (and2 (and2 (and2 (and2 (and2 (and2 (and2 (and2 (and2 (and2 (and2 (and2 (and2 (and2 (and2 (and2 (and2 (and2 (and2 (and2 (and2 (and2 (and2 (and2 (and2 (and2 FnExactNatRoot_k0 jf1) jf2) FnExactNatRoot_k3) FnExactNatRoot_k4) FnExactNatRoot_k5) jf6) FnExactNatRoot_k7) jf8) FnExactNatRoot_k9) FnExactNatRoot_k10) FnExactNatRoot_k11) FnExactNatRoot_k12) FnExactNatRoot_k13) FnExactNatRoot_k14) FnExactNatRoot_k15) FnExactNatRoot_k16) FnExactNatRoot_k17) FnExactNatRoot_k18) FnExactNatRoot_k19) FnExactNatRoot_k20) FnExactNatRoot_k21) jf22) FnExactNatRoot_k23) jf24) jf25) jf26) jf27) FnExactNatRoot_k28) FnExactNatRoot_k29) FnExactNatRoot_k30) FnExactNatRoot_k31)
theorem FnExactNatRoot_over : Rows.fnExactNatRootRow.holds Try.pinned (OpenSpec.ofChange Rows.fnExactNatRootSpec) :=
  OpenClaim.holds_of_wide 4 Try.f4 rfl rfl rfl rfl rfl rfl rfl ⟨rfl, rfl, rfl, rfl, rfl⟩ rfl rfl rfl rfl rfl (by kernel_rfl) Try.func4 FnExactNatRoot_closed
    (of_decide_eq_true (by kernel_rfl)) (by unfold Func.isWrapper; first | (rw [if_pos (by decide +kernel)]; kernel_rfl) | (rw [if_neg (by decide +kernel)]; exact ⟨rfl, rfl⟩))
    (fun os started H enc _ => FnExactNatRoot_lifted os started H enc)

theorem FnExactNatRoot_proved : Rows.FnExactNatRootSaid := FnExactNatRoot_over
end Go.Proofs.Ythgdfijlnaaplaa
