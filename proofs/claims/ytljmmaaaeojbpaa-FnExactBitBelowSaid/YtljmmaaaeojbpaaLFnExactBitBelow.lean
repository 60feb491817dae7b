/- The program's BitBelow answers as the specification's BitBelow at every argument; nothing that was there is written. No condition. -/
import Derived.Test.YtljmmaaaeojbpaaRows
import Derived.WalkKit
import Derived.ProofKit
import Derived.OpenShut
import Derived.ShutString
import Derived.Test.YtljmmaaaeojbpaaB1
import Derived.Test.YtljmmaaaeojbpaaJ0
import Derived.Test.YtljmmaaaeojbpaaJ1
import Derived.Test.YtljmmaaaeojbpaaJ2
import Derived.Test.YtljmmaaaeojbpaaJ3
namespace Go.Proofs.Ytljmmaaaeojbpaa
open Go.ChangeShapes Go.WideShapes Go.ChangeAt Go.RowKit
open Go.ChangeMaps (open_string shut_string)
set_option linter.unusedVariables false

theorem FnExactBitBelow_own : ownKnob Try.prog.godebug = none := by kernel_rfl

set_option maxHeartbeats 1000000 in
theorem FnExactBitBelow_walk (a0 : Int) (w0 : (Lit.int .i64 a0).wf = true) (w : World) :
    Calls Try.prog 18 #[.int .i64 a0] w fun e w' => e = .returned (.bool true) ∧ Below w.heap.size w w' := by
  obtain ⟨e1, e2⟩ := bounds_i64 w0
  by_cases c : -9218868437227405312 ≤ a0 ∧ a0 ≤ 9218868437227405312
  · obtain ⟨d1, d2⟩ := c
    go_enter Try.func18, Try.ntmps18
    go_wp2_with fail
    refine (sBitBelow _ d1 d2 _).mono ?_
    rintro e w1 ⟨⟨n, hn, rfl⟩, hb1⟩
    go_wp2_with fail
    refine (iBitBelow _ d1 d2 _).mono ?_
    rintro e w2 ⟨⟨m, hm, rfl⟩, hb2⟩
    obtain rfl := hn.one hm
    go_wp2
    go_ret
    exact ⟨rfl, (by repeat (first | exact Below.refl _ _ | refine Below.drew ?_ | refine old_alloc ?_ _ | refine old_trans ?_ (by assumption)))⟩
  · go_enter Try.func18, Try.ntmps18
    go_wp2_with (first | (go_at_call 51; refine (sBitBelow_out _ c _).mono ?_; rintro e w1 ⟨rfl, hb1⟩) | (go_at_call 30; refine (iBitBelow_out _ c _).mono ?_; rintro e w2 ⟨rfl, hb2⟩) | go_in)
    go_ret
    exact ⟨rfl, (by repeat (first | exact Below.refl _ _ | refine Below.drew ?_ | refine old_alloc ?_ _ | refine old_trans ?_ (by assumption)))⟩
set_option maxRecDepth 100000 in
theorem FnExactBitBelow_lifted (os : Os) (started : os.Started) (H : Type) (enc : TypeId × Value → H) :
    ReturnsInHanded {} Try.checked os 18 .any (Rows.fnExactBitBelowSpec.pre6 enc Try.prog Try.f18 Rows.fnExactBitBelowRow.domain false) (Rows.fnExactBitBelowSpec.post enc Try.prog Try.f18 false true false false) := by
  refine returnsInHanded_of_change (C := Try.checked) FnExactBitBelow_own started (by kernel_rfl) Try.func18
    (ChangeSpec.witness6 (enc := enc) (C := Try.checked) false ⟨#[], #[.int .i64 0], []⟩ 8 (by kernel_rfl) (by kernel_rfl) (by kernel_rfl) (by kernel_rfl)) ?_
  intro W base args ds gs before hval0 hW hcnd _
  have hval : ∀ (j : Nat) t v, Try.f18.params[j]? = some t → args[j]? = some v → Value.okWide Try.prog W .any base t v := hval0
  have hW' := hW
  obtain ⟨p, q, hA0, hV, rfl, hfz, hnd⟩ := hW
  have hA : DataW.TrodAll enc Try.prog W 0 (fun _ => true) true Try.f18.params.toList args.toList ds p := hA0
  rw [Try.params18] at hA hval
  obtain ⟨v0, vs0, d0, ds0, p0, q0, hargs, rfl, rfl, h0, r0⟩ := trodAll_cons hA
  obtain ⟨rfl, rfl, rfl⟩ := trodAll_nil r0
  obtain rfl : args = #[v0] := by cases args; simp_all
  obtain ⟨rfl, rfl⟩ := trodVars_none hV
  obtain ⟨a0, rfl, rfl, rfl, w0⟩ := open_int Try.underlying3 (hval 0 3 v0 rfl rfl) h0
  clear hA0 hval0
  simp only [List.append_nil] at hW'
  refine (FnExactBitBelow_walk a0 w0 W).mono fun e W' ⟨he, hg⟩ => ?_
  subst he
  exact ⟨_, rfl, _, _, _, [], [], [], hW', (trodAll_cons_mk (shut_bool Try.underlying4 _) trodAll_mk0), (trodAll_cons_mk (shut_int Try.underlying3 w0) trodAll_mk0), rfl, hg.frame _, fun h => by cases h⟩

theorem FnExactBitBelow_k0 : (Rows.fnExactBitBelowRow.wf (OpenSpec.ofChange Rows.fnExactBitBelowSpec)) = true := by kernel_rfl
theorem FnExactBitBelow_k3 : (Try.f18.params.all (Try.prog.readableRec ·)) = true := by kernel_rfl
theorem FnExactBitBelow_k4 : (namedTie Try.prog Rows.fnExactBitBelowRow.named Rows.fnExactBitBelowSpec.vars) = true := by kernel_rfl
theorem FnExactBitBelow_k5 : ((Rows.fnExactBitBelowRow.stops == [])) = true := by kernel_rfl
theorem FnExactBitBelow_k7 : ((Rows.fnExactBitBelowRow.knobs == [])) = true := by kernel_rfl
theorem FnExactBitBelow_k9 : ((Rows.fnExactBitBelowRow.inPlace == Try.prog.inPlace 18)) = true := by kernel_rfl
theorem FnExactBitBelow_k10 : ((Rows.fnExactBitBelowRow.unfollowed == Try.prog.unfollowed 18)) = true := by kernel_rfl
theorem FnExactBitBelow_k11 : ((Rows.fnExactBitBelowRow.recurses == Try.prog.recurses 18)) = true := by kernel_rfl
theorem FnExactBitBelow_k12 : ((Rows.fnExactBitBelowRow.named == Try.prog.varsNamed 18)) = true := by kernel_rfl
theorem FnExactBitBelow_k13 : ((Rows.fnExactBitBelowRow.maps == (Try.f18.params.toList ++ Rows.fnExactBitBelowSpec.plain.varTypes Try.prog).any (Try.prog.mapsRec ·))) = true := by kernel_rfl
theorem FnExactBitBelow_k14 : ((Rows.fnExactBitBelowRow.ifaces == (Try.f18.params.toList ++ Rows.fnExactBitBelowSpec.plain.varTypes Try.prog).any (Try.prog.ifacesRec ·))) = true := by kernel_rfl
theorem FnExactBitBelow_k15 : ((Rows.fnExactBitBelowRow.mapsOut == Try.prog.mapsAmong Try.f18.resultTypes.toList)) = true := by kernel_rfl
theorem FnExactBitBelow_k16 : ((Rows.fnExactBitBelowRow.loops == (Try.f18.params.toList ++ Rows.fnExactBitBelowSpec.plain.varTypes Try.prog).any (Try.prog.loopsFrom ·))) = true := by kernel_rfl
theorem FnExactBitBelow_k17 : ((Rows.fnExactBitBelowRow.wideKeys == (Try.f18.params.toList ++ Rows.fnExactBitBelowSpec.plain.varTypes Try.prog ++ Try.f18.resultTypes.toList).any (Try.prog.wideKeysFrom ·))) = true := by kernel_rfl
theorem FnExactBitBelow_k18 : (Rows.fnExactBitBelowSpec.vars.all (Try.prog.varReadable ·)) = true := by kernel_rfl
theorem FnExactBitBelow_k19 : (Try.f18.resultTypes.all (fun t => Try.prog.readableRec t && decide (t < Try.prog.types.size))) = true := by kernel_rfl
theorem FnExactBitBelow_k20 : ((Rows.fnExactBitBelowRow.ifacesOut == Try.f18.resultTypes.toList.any (Try.prog.ifacesRec ·))) = true := by kernel_rfl
theorem FnExactBitBelow_k21 : ((Rows.fnExactBitBelowRow.loopsOut == Try.f18.resultTypes.toList.any (Try.prog.loopsFrom ·))) = true := by kernel_rfl
theorem FnExactBitBelow_k23 : (Rows.fnExactBitBelowRow.shortTexts.isNone) = true := by kernel_rfl
theorem FnExactBitBelow_k28 : ((Rows.fnExactBitBelowRow.kinds == (if Rows.fnExactBitBelowRow.domain.isEmpty then [] else Try.f18.params.toList.map fun t => match Try.prog.underlying t with | some (.int k) => some k | _ => none))) = true := by kernel_rfl
theorem FnExactBitBelow_k29 : ((Rows.fnExactBitBelowRow.pinned == Rows.fnExactBitBelowRow.pinnedBy)) = true := by kernel_rfl
theorem FnExactBitBelow_k30 : ((Rows.fnExactBitBelowRow.veiled == (Try.f18.params.toList ++ Rows.fnExactBitBelowSpec.plain.varTypes Try.prog ++ Try.f18.resultTypes.toList).any (Try.prog.veiledRec ·))) = true := by kernel_rfl
theorem FnExactBitBelow_k31 : (Rows.fnExactBitBelowRow.veiledFits Try.prog Try.f18.params.toList (Try.f18.params.toList ++ Rows.fnExactBitBelowSpec.plain.varTypes Try.prog ++ Try.f18.resultTypes.toList)) = true := by kernel_rfl
theorem FnExactBitBelow_closed : joinedFacts Try.prog 18 Try.f18 Rows.fnExactBitBelowSpec Rows.fnExactBitBelowRow = true := (and2 (and2 (and2 (and2 (and2 (and2 (and2 (and2 (and2 (and2 (and2 (and2 (and2 (and2 (and2 (and2 (and2 (and2 (and2 (and2 (and2 (and2 (and2 (and2 (and2 (and2 (and2 (and2 (and2 (and2 (and2 FnExactBitBelow_k0 jf1) jf2) FnExactBitBelow_k3) FnExactBitBelow_k4) FnExactBitBelow_k5) jf6) FnExactBitBelow_k7) jf8) FnExactBitBelow_k9) FnExactBitBelow_k10) FnExactBitBelow_k11) FnExactBitBelow_k12) FnExactBitBelow_k13) FnExactBitBelow_k14) FnExactBitBelow_k15) FnExactBitBelow_k16) FnExactBitBelow_k17) FnExactBitBelow_k18) FnExactBitBelow_k19) FnExactBitBelow_k20) FnExactBitBelow_k21) jf22) FnExactBitBelow_k23) jf24) jf25) jf26) jf27) FnExactBitBelow_k28) FnExactBitBelow_k29) FnExactBitBelow_k30) FnExactBitBelow_k31)
theorem FnExactBitBelow_over : Rows.fnExactBitBelowRow.holds Try.pinned (OpenSpec.ofChange Rows.fnExactBitBelowSpec) :=
  OpenClaim.holds_of_wide 18 Try.f18 rfl rfl rfl rfl rfl rfl rfl ⟨rfl, rfl, rfl, rfl, rfl⟩ rfl rfl rfl rfl rfl (by kernel_rfl) Try.func18 FnExactBitBelow_closed
    (of_decide_eq_true (by kernel_rfl)) (by unfold Func.isWrapper; first | (rw [if_pos (by decide +kernel)]; kernel_rfl) | (rw [if_neg (by decide +kernel)]; exact ⟨rfl, rfl⟩))
    (fun os started H enc _ => FnExactBitBelow_lifted os started H enc)

theorem FnExactBitBelow_proved : Rows.FnExactBitBelowSaid :=
  FnExactBitBelow_over
end Go.Proofs.Ytljmmaaaeojbpaa
