/- The program's NatBits answers as the specification's NatBits at every argument; nothing that was there is written. No condition. -/
import Derived.Test.YtknhkgbmimjibaaRows
import Derived.WalkKit
import Derived.ProofKit
import Derived.OpenShut
import Derived.Below
import Derived.Carry
import Derived.Test.YtknhkgbmimjibaaN0
import Derived.Test.YtknhkgbmimjibaaBC
import Derived.Test.YtknhkgbmimjibaaBJ
namespace Go.Proofs.Ytknhkgbmimjibaa
open Go.ChangeShapes Go.WideShapes Go.ChangeAt Go.RowKit
set_option linter.unusedVariables false

theorem FnExactNatBits_own : ownKnob Try.prog.godebug = none := by kernel_rfl

set_option maxRecDepth 100000 in
set_option maxHeartbeats 4000000 in
theorem FnExactNatBits_walk (a0 : Option Addr) (len0 cap0 : Nat) (xs0 : List Int) (w : World) (wb0 : InI w a0 len0 cap0 xs0):
    Calls Try.prog 8 #[.slice a0 len0 cap0] w fun e w' => e = .returned (.bool true) ∧ Below w.heap.size w w' := by
  obtain rfl := wb0.1
  have hlen := wb0.len
  by_cases hl : xs0.length ≤ 1048576
  case neg =>
    go_enter Try.func8, Try.ntmps8
    go_wp2
    go_ret
    exact ⟨rfl, (by repeat (first | exact Below.refl _ _ | refine Below.drew ?_ | refine old_alloc ?_ _ | refine old_trans ?_ (by assumption)))⟩
  have S := hd (fun a len cap w (h : InI w a len cap xs0) => sNatBits a len cap xs0 w h)
  have I := hd (fun a len cap w (h : InI w a len cap xs0) => iNatBits a len cap xs0 w h)
  generalize nbits xs0 = r at *
  go_enter Try.func8, Try.ntmps8
  go_wp2_with fail
  refine (lToInts a0 _ cap0 xs0 _ wb0 hl).mono ?_
  rintro e w1 ⟨⟨rfl, R1⟩, hb1⟩
  have N1 := R1.inI wb0.2.2.2.1 (Nat.le_refl _) (Nat.le_trans wb0.2.1 wb0.2.2.1)
  go_wp2_with fail
  refine (S.out _ _ _ _ N1).mono ?_
  rintro e w2 ⟨rfl, rfl⟩
  have wb1 := wb0.old hb1
  go_wp2_with fail
  refine (lToInts a0 _ cap0 xs0 _ wb1 hl).mono ?_
  rintro e w3 ⟨⟨rfl, R3⟩, hb3⟩
  have N3 := R3.inI wb0.2.2.2.1 (Nat.le_refl _) (Nat.le_trans wb0.2.1 wb0.2.2.1)
  go_wp2_with fail
  refine (I.out _ _ _ _ N3).mono ?_
  rintro e w4 ⟨rfl, rfl⟩
  have wb2 := wb1.old hb3
  go_wp2_with fail
  refine (lToInts a0 _ cap0 xs0 _ wb2 hl).mono ?_
  rintro e w5 ⟨⟨rfl, R5⟩, hb5⟩
  have N5 := R5.inI wb0.2.2.2.1 (Nat.le_refl _) (Nat.le_trans wb0.2.1 wb0.2.2.1)
  go_wp2_with fail
  refine (lEqInts _ _ _ _ _ xs0 _ (N3.old hb5) N5).mono ?_
  rintro e w6 ⟨rfl, hb6⟩
  go_wp2
  go_ret
  exact ⟨rfl, (by repeat (first | exact Below.refl _ _ | refine Below.drew ?_ | refine old_alloc ?_ _ | refine old_trans ?_ (by assumption)))⟩

set_option maxRecDepth 100000 in
theorem FnExactNatBits_lifted (os : Os) (started : os.Started) (H : Type) (enc : TypeId × Value → H) :
    ReturnsInHanded {} Try.checked os 8 .any (Rows.fnExactNatBitsSpec.pre6 enc Try.prog Try.f8 Rows.fnExactNatBitsRow.domain false) (Rows.fnExactNatBitsSpec.post enc Try.prog Try.f8 false true false false) := by
  refine returnsInHanded_of_change (C := Try.checked) FnExactNatBits_own started (by kernel_rfl) Try.func8
    (ChangeSpec.witness6 (enc := enc) (C := Try.checked) false ⟨#[], #[.slice none 0 0], []⟩ 8 (by kernel_rfl) (by kernel_rfl) (by kernel_rfl) (by kernel_rfl)) ?_
  intro W base args ds gs before hval0 hW hcnd _
  have hval : ∀ (j : Nat) t v, Try.f8.params[j]? = some t → args[j]? = some v → Value.okWide Try.prog W .any base t v := hval0
  have hW' := hW
  obtain ⟨p, q, hA0, hV, rfl, hfz, hnd⟩ := hW
  have hA : DataW.TrodAll enc Try.prog W 0 (fun _ => true) true Try.f8.params.toList args.toList ds p := hA0
  rw [Try.params8] at hA hval
  obtain ⟨v0, vs0, d0, ds0, p0, q0, hargs, rfl, rfl, h0, r0⟩ := trodAll_cons hA
  obtain ⟨rfl, rfl, rfl⟩ := trodAll_nil r0
  obtain rfl : args = #[v0] := by cases args; simp_all
  obtain ⟨rfl, rfl⟩ := trodVars_none hV
  have k0 := h0
  have lt0 : ∀ x ∈ p0, x.block < W.heap.size := by obtain ⟨m, hm⟩ := k0; exact DataW.trod_lt m _ _ _ hm
  obtain ⟨a0, len0, cap0, xs0, rfl, wb0⟩ := open_intS (hval 0 25 v0 rfl rfl) h0
  clear hA0 hval0
  refine (FnExactNatBits_walk a0 len0 cap0 xs0 W wb0).mono fun e W' ⟨he, bel⟩ => ?_
  subst he
  exact ⟨_, rfl, _, _, _, [], _, [], hW', trodAll_mk1 (shut_bool Try.underlying4 _), (trodAll_cons_mk (Below.trod jf1 (by kernel_rfl) (of_decide_eq_true (by kernel_rfl)) k0 bel lt0) trodAll_mk0), rfl, bel.frame _, fun h => by cases h⟩

theorem FnExactNatBits_k0 : (Rows.fnExactNatBitsRow.wf (OpenSpec.ofChange Rows.fnExactNatBitsSpec)) = true := by kernel_rfl
theorem FnExactNatBits_k3 : (Try.f8.params.all (Try.prog.readableRec ·)) = true := by kernel_rfl
theorem FnExactNatBits_k4 : (namedTie Try.prog Rows.fnExactNatBitsRow.named Rows.fnExactNatBitsSpec.vars) = true := by kernel_rfl
theorem FnExactNatBits_k5 : ((Rows.fnExactNatBitsRow.stops == [])) = true := by kernel_rfl
theorem FnExactNatBits_k7 : ((Rows.fnExactNatBitsRow.knobs == [])) = true := by kernel_rfl
theorem FnExactNatBits_k9 : ((Rows.fnExactNatBitsRow.inPlace == Try.prog.inPlace 8)) = true := by kernel_rfl
theorem FnExactNatBits_k10 : ((Rows.fnExactNatBitsRow.unfollowed == Try.prog.unfollowed 8)) = true := by kernel_rfl
theorem FnExactNatBits_k11 : ((Rows.fnExactNatBitsRow.recurses == Try.prog.recurses 8)) = true := by kernel_rfl
theorem FnExactNatBits_k12 : ((Rows.fnExactNatBitsRow.named == Try.prog.varsNamed 8)) = true := by kernel_rfl
theorem FnExactNatBits_k13 : ((Rows.fnExactNatBitsRow.maps == (Try.f8.params.toList ++ Rows.fnExactNatBitsSpec.plain.varTypes Try.prog).any (Try.prog.mapsRec ·))) = true := by kernel_rfl
theorem FnExactNatBits_k14 : ((Rows.fnExactNatBitsRow.ifaces == (Try.f8.params.toList ++ Rows.fnExactNatBitsSpec.plain.varTypes Try.prog).any (Try.prog.ifacesRec ·))) = true := by kernel_rfl
theorem FnExactNatBits_k15 : ((Rows.fnExactNatBitsRow.mapsOut == Try.prog.mapsAmong Try.f8.resultTypes.toList)) = true := by kernel_rfl
theorem FnExactNatBits_k16 : ((Rows.fnExactNatBitsRow.loops == (Try.f8.params.toList ++ Rows.fnExactNatBitsSpec.plain.varTypes Try.prog).any (Try.prog.loopsFrom ·))) = true := by kernel_rfl
theorem FnExactNatBits_k17 : ((Rows.fnExactNatBitsRow.wideKeys == (Try.f8.params.toList ++ Rows.fnExactNatBitsSpec.plain.varTypes Try.prog ++ Try.f8.resultTypes.toList).any (Try.prog.wideKeysFrom ·))) = true := by kernel_rfl
theorem FnExactNatBits_k18 : (Rows.fnExactNatBitsSpec.vars.all (Try.prog.varReadable ·)) = true := by kernel_rfl
theorem FnExactNatBits_k19 : (Try.f8.resultTypes.all (fun t => Try.prog.readableRec t && decide (t < Try.prog.types.size))) = true := by kernel_rfl
theorem FnExactNatBits_k20 : ((Rows.fnExactNatBitsRow.ifacesOut == Try.f8.resultTypes.toList.any (Try.prog.ifacesRec ·))) = true := by kernel_rfl
theorem FnExactNatBits_k21 : ((Rows.fnExactNatBitsRow.loopsOut == Try.f8.resultTypes.toList.any (Try.prog.loopsFrom ·))) = true := by kernel_rfl
theorem FnExactNatBits_k23 : (Rows.fnExactNatBitsRow.shortTexts.isNone) = true := by kernel_rfl
theorem FnExactNatBits_k28 : ((Rows.fnExactNatBitsRow.kinds == (if Rows.fnExactNatBitsRow.domain.isEmpty then [] else Try.f8.params.toList.map fun t => match Try.prog.underlying t with | some (.int k) => some k | _ => none))) = true := by kernel_rfl
theorem FnExactNatBits_k29 : ((Rows.fnExactNatBitsRow.pinned == Rows.fnExactNatBitsRow.pinnedBy)) = true := by kernel_rfl
theorem FnExactNatBits_k30 : ((Rows.fnExactNatBitsRow.veiled == (Try.f8.params.toList ++ Rows.fnExactNatBitsSpec.plain.varTypes Try.prog ++ Try.f8.resultTypes.toList).any (Try.prog.veiledRec ·))) = true := by kernel_rfl
theorem FnExactNatBits_k31 : (Rows.fnExactNatBitsRow.veiledFits Try.prog Try.f8.params.toList (Try.f8.params.toList ++ Rows.fnExactNatBitsSpec.plain.varTypes Try.prog ++ Try.f8.resultTypes.toList)) = true := by kernel_rfl
set_option maxRecDepth 100000 in
theorem FnExactNatBits_closed : joinedFacts Try.prog 8 Try.f8 Rows.fnExactNatBitsSpec Rows.fnExactNatBitsRow = true := (and2 (and2 (and2 (and2 (and2 (and2 (and2 (and2 (and2 (and2 (and2 (and2 (and2 (and2 (and2 (and2 (and2 (and2 (and2 (and2 (and2 (and2 (and2 (and2 (and2 (and2 (and2 (and2 (and2 (and2 (and2 FnExactNatBits_k0 jf1) jf2) FnExactNatBits_k3) FnExactNatBits_k4) FnExactNatBits_k5) jf6) FnExactNatBits_k7) jf8) FnExactNatBits_k9) FnExactNatBits_k10) FnExactNatBits_k11) FnExactNatBits_k12) FnExactNatBits_k13) FnExactNatBits_k14) FnExactNatBits_k15) FnExactNatBits_k16) FnExactNatBits_k17) FnExactNatBits_k18) FnExactNatBits_k19) FnExactNatBits_k20) FnExactNatBits_k21) jf22) FnExactNatBits_k23) jf24) jf25) jf26) jf27) FnExactNatBits_k28) FnExactNatBits_k29) FnExactNatBits_k30) FnExactNatBits_k31)
theorem FnExactNatBits_over : Rows.fnExactNatBitsRow.holds Try.pinned (OpenSpec.ofChange Rows.fnExactNatBitsSpec) :=
  OpenClaim.holds_of_wide 8 Try.f8 rfl rfl rfl rfl rfl rfl rfl ⟨rfl, rfl, rfl, rfl, rfl⟩ rfl rfl rfl rfl rfl (by kernel_rfl) Try.func8 FnExactNatBits_closed
    (of_decide_eq_true (by kernel_rfl)) (by unfold Func.isWrapper; first | (rw [if_pos (by decide +kernel)]; kernel_rfl) | (rw [if_neg (by decide +kernel)]; exact ⟨rfl, rfl⟩))
    (fun os started H enc _ => FnExactNatBits_lifted os started H enc)

theorem FnExactNatBits_proved : Rows.FnExactNatBitsSaid := FnExactNatBits_over
end Go.Proofs.Ytknhkgbmimjibaa
