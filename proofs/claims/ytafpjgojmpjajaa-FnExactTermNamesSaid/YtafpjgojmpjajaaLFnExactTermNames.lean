/- The program's TermNames answers as the specification's TermNames at every term; it writes into no argument, and what it answers is its own. No condition. -/
import Derived.Test.YtafpjgojmpjajaaRows
import Derived.WalkKit
import Derived.ProofKit
import Derived.OpenShut
import Derived.Below
import Derived.Carry
import Derived.Test.YtafpjgojmpjajaaN0
import Derived.Test.YtafpjgojmpjajaaYN
import Derived.Test.YtafpjgojmpjajaaYQ
import Derived.Test.YtafpjgojmpjajaaCL
import Derived.Test.YtafpjgojmpjajaaBJ
namespace Go.Proofs.Ytafpjgojmpjajaa
open Go.ChangeShapes Go.WideShapes Go.ChangeAt Go.RowKit
set_option linter.unusedVariables false
set_option maxRecDepth 100000

theorem tnN_len (xs : List Tn) : (tnN xs).length ≤ 1048576 := by
  unfold tnN
  split
  · rename_i h; have := nmAt_len (xs := xs) xs.length (Nat.le_refl _); have := okT_len h; omega
  · exact Nat.zero_le _
theorem FnExactTermNames_own : ownKnob Try.prog.godebug = none := by kernel_rfl

set_option maxRecDepth 100000 in
set_option maxHeartbeats 16000000 in
theorem FnExactTermNames_walk (a0 : Option Addr) (len0 cap0 : Nat) (xs0 : List Tn) (w : World) (wb0 : InN w a0 len0 cap0 xs0):
    Calls Try.prog 3 #[.agg #[.slice a0 len0 cap0]] w fun e w' => e = .returned (.bool true) ∧ Below w.heap.size w w' := by
  obtain rfl := wb0.1
  have K : Cl1 (w.alloc (.cells #[.slice a0 xs0.length cap0] 24)) w.heap.size (.slice a0 xs0.length cap0) := Cl1.made w _ rfl _ _
  have R := wb0.alloc (.cells #[.slice a0 xs0.length cap0] 24)
  have hB : Below w.heap.size w (w.alloc (.cells #[.slice a0 xs0.length cap0] 24)) := old_alloc (Below.refl _ _) _
  have SZ := hd (lSzTerm a0 _ cap0 xs0 _ R)
  have S := hd (fun a cap w (h : InN w a xs0.length cap xs0) => sTermNames a cap xs0 w h)
  have I := hd (fun a cap w (h : InN w a xs0.length cap xs0) => iTermNames a cap xs0 w h)
  rw [tn_same] at I
  have hrl : (tnN xs0).length ≤ 1048576 := tnN_len xs0
  generalize tnN xs0 = r at *
  have hx1 : ¬ (1 + 3 * (xs0.length : Int) < 0) := by omega
  have hx2 : ¬ (1 + (r.length : Int) < 0) := by omega
  obtain ⟨pK, hpK⟩ : ∃ p, w.heap.size = p := ⟨_, rfl⟩
  rw [hpK] at K
  go_enter Try.func3, Try.ntmps3
  have K0 := K.1
  have K2 := K.2.2
  rw [hpK]
  go_wp2_with fail
  refine SZ.out.mono ?_
  rintro e w1 ⟨⟨l, rfl, hl⟩, hb1⟩
  clear SZ
  rcases hl with rfl | ⟨hl0, hl2, hl1⟩
  · go_wp2
    go_ret
    exact ⟨rfl, by rw [← hpK]; exact old_trans hB hb1⟩
  have hl0' : ¬ l < 0 := by omega
  clear hl0 hl2
  clear K0 K2
  replace K := K.later hb1
  replace R := R.old hb1
  replace hB := old_trans hB hb1
  have K0 := K.1
  have K2 := K.2.2
  go_wp2_with fail
  refine (toTermO a0 cap0 xs0 _ R hl1).mono ?_
  rintro e w2 ⟨⟨bP, rfl, P⟩, hb2⟩
  clear K0 K2
  replace K := K.later hb2
  replace R := R.old hb2
  replace hB := old_trans hB hb2
  have K0 := K.1
  have K2 := K.2.2
  go_wp2_with fail
  refine (S.out _ _ _ P.inN).mono ?_
  rintro e w3 ⟨⟨avW, cvW, rfl, W⟩, hb3⟩
  clear K0 K2
  replace K := K.later hb3
  replace R := R.old hb3
  replace hB := old_trans hB hb3
  clear P
  have K0 := K.1
  have K2 := K.2.2
  have lKX := K.2.2
  have lRX := R.far
  have lWX := W.lt
  have nX := hB.size
  go_wp2_with fail
  refine (toTermO a0 cap0 xs0 _ R hl1).mono ?_
  rintro e w4 ⟨⟨bX, rfl, X⟩, hb4⟩
  clear K0 K2
  replace K := K.later hb4
  replace R := R.old hb4
  replace W := W.later hb4
  replace hB := old_trans hB hb4
  have lX := X.lt
  have gX := X.2.2.1
  replace K := K.alloc (.cells #[.slice (some ⟨bX, 0, none⟩) xs0.length xs0.length] 30)
  replace R := R.alloc (.cells #[.slice (some ⟨bX, 0, none⟩) xs0.length xs0.length] 30)
  replace W := W.alloc (.cells #[.slice (some ⟨bX, 0, none⟩) xs0.length xs0.length] 30)
  replace X := X.alloc (.cells #[.slice (some ⟨bX, 0, none⟩) xs0.length xs0.length] 30)
  have Y : Cl1 (w4.alloc (.cells #[.slice (some ⟨bX, 0, none⟩) xs0.length xs0.length] 30)) w4.heap.size (.slice (some ⟨bX, 0, none⟩) xs0.length xs0.length) := Cl1.made _ _ rfl _ _
  replace hB := old_alloc hB (.cells #[.slice (some ⟨bX, 0, none⟩) xs0.length xs0.length] 30)
  have K0 := K.1
  have K2 := K.2.2
  have Y0 := Y.1
  have Y2 := Y.2.2
  go_wp2_with fail
  clear K0 K2 Y0 Y2
  generalize w4.alloc (.cells #[.slice (some ⟨bX, 0, none⟩) xs0.length xs0.length] 30) = V4 at *
  generalize hpY : w4.heap.size = pY at *
  have lKG := K.2.2
  have lYG := Y.2.2
  have lRG := R.far
  have lWG := W.lt
  have lXG := X.lt
  have nG := hB.size
  refine (I.out _ _ _ X.inN).mono ?_
  rintro e w5 ⟨⟨avG, cvG, rfl, G⟩, hb5⟩
  replace K := K.later hb5
  replace R := R.old hb5
  replace W := W.later hb5
  replace X := X.later hb5
  replace Y := Y.later hb5
  replace hB := old_trans hB hb5
  have K0 := K.1
  have K2 := K.2.2
  have Y0 := Y.1
  have Y2 := Y.2.2
  go_wp2_with fail
  refine (lEqTO avG avW cvG cvW _ _ r _ G W).mono ?_
  rintro e w6 ⟨rfl, hb6⟩
  clear K0 K2 Y0 Y2
  replace K := K.later hb6
  replace R := R.old hb6
  replace W := W.later hb6
  replace X := X.later hb6
  replace Y := Y.later hb6
  replace G := G.later hb6
  replace hB := old_trans hB hb6
  have K0 := K.1
  have K2 := K.2.2
  have Y0 := Y.1
  have Y2 := Y.2.2
  go_wp2_with fail
  go_region_held3 (fun w' => w'.cell? ⟨pY, 0, none⟩ = some (.slice (some ⟨bX, 0, none⟩) xs0.length xs0.length) ∧ w'.cell? ⟨pK, 0, none⟩ = some (.slice a0 xs0.length cap0)) (go_keep) (first | (go_at_call 6; refine (toTermO a0 cap0 xs0 _ R.drew hl1).mono ?_; rintro e w7 ⟨⟨bZ, rfl, Z⟩, hb7⟩; have K := K.drew.later hb7; have Y := Y.drew.later hb7; have W := W.drew.later hb7; have X := X.drew.later hb7; have G := G.drew.later hb7; have R := R.drew.old hb7; have hB := old_trans (Below.drew hB) hb7; have K0 := K.1; have K2 := K.2.2; have Y0 := Y.1; have Y2 := Y.2.2) | (go_at_call 9; refine (lEqTerm _ _ _ _ _ xs0 _ X.inN Z.inN).mono ?_; rintro e w8 ⟨rfl, hb8⟩; have K := K.later hb8; have Y := Y.later hb8; have W := W.later hb8; have X := X.later hb8; have G := G.later hb8; have R := R.old hb8; have hB := old_trans hB hb8; have K0 := K.1; have K2 := K.2.2; have Y0 := Y.1; have Y2 := Y.2.2))
  go_wp2_with fail
  refine (lMarkTermO _ bX xs0 1 _ X hl1 (by omega) (by omega)).mono ?_
  rintro e w9 ⟨rfl, hg9⟩
  replace hB := Below.markedN hB X hg9 (by omega) hB.size
  replace K := K.kept hg9 (by intro h; injection h with h; omega)
  replace W := W.kept hg9 (fun q e h => by injection h with h; have := lWX q e; omega)
  replace G := G.kept hg9 (fun q e h => by injection h with h; have := G.ge q e; omega)
  replace R := R.kept' hg9 (fun h0 q e h => by injection h with h; have := lRX h0 q e; omega)
  clear X Y hg9 Y0 Y2 K0 K2 lWX lRX lYG
  have K0 := K.1
  have K2 := K.2.2
  go_wp2_with fail
  refine (lEqTO avG avW cvG cvW _ _ r _ G W).mono ?_
  rintro e wa ⟨rfl, hba⟩
  clear K0 K2
  replace K := K.later hba
  replace R := R.old hba
  replace W := W.later hba
  replace G := G.later hba
  replace hB := old_trans hB hba
  have K0 := K.1
  have K2 := K.2.2
  go_wp2_with fail
  refine (lMarkTO _ avG cvG r 1 _ G hrl (by omega) (by omega)).mono ?_
  rintro e wb ⟨rfl, G', hgb⟩
  replace hB := Below.markedT hB G hgb (by omega) hB.size
  replace K := K.kept hgb (G.ne_old lKG)
  replace W := W.kept hgb (G.sep lWG)
  replace R := R.kept' hgb (fun h0 => G.sep (lRG h0))
  clear K0 K2 G hgb
  have K0 := K.1
  have K2 := K.2.2
  go_wp2_with fail
  refine (lHeldTO _ avG cvG r.length 1 _ G' hrl (by omega) (by omega)).mono ?_
  rintro e wc ⟨rfl, hbc⟩
  clear K0 K2
  replace K := K.later hbc
  replace R := R.old hbc
  replace W := W.later hbc
  replace G' := G'.later hbc
  replace hB := old_trans hB hbc
  have K0 := K.1
  have K2 := K.2.2
  go_wp2_with fail
  refine (toTermO a0 cap0 xs0 _ R hl1).mono ?_
  rintro e wd ⟨⟨bQ, rfl, Q⟩, hbd⟩
  clear K0 K2
  replace K := K.later hbd
  replace R := R.old hbd
  replace W := W.later hbd
  replace G' := G'.later hbd
  replace hB := old_trans hB hbd
  have K0 := K.1
  have K2 := K.2.2
  go_wp2_with fail
  refine (I.out _ _ _ Q.inN).mono ?_
  rintro e we ⟨⟨avH, cvH, rfl, H⟩, hbe⟩
  clear K0 K2
  replace K := K.later hbe
  replace R := R.old hbe
  replace W := W.later hbe
  replace G' := G'.later hbe
  replace hB := old_trans hB hbe
  clear Q
  have K0 := K.1
  have K2 := K.2.2
  go_wp2_with fail
  refine (lEqTO avH avW cvH cvW _ _ r _ H W).mono ?_
  rintro e wf ⟨rfl, hbf⟩
  clear K0 K2
  replace K := K.later hbf
  replace R := R.old hbf
  replace W := W.later hbf
  replace G' := G'.later hbf
  replace hB := old_trans hB hbf
  have K0 := K.1
  have K2 := K.2.2
  go_wp2_with fail
  refine (lHeldTO _ avG cvG r.length 1 _ G' hrl (by omega) (by omega)).mono ?_
  rintro e wg ⟨rfl, hbg⟩
  replace hB := old_trans hB hbg
  go_wp2
  go_ret
  exact ⟨rfl, by rw [← hpK]; exact hB⟩

set_option maxRecDepth 100000 in
theorem FnExactTermNames_lifted (os : Os) (started : os.Started) (H : Type) (enc : TypeId × Value → H) :
    ReturnsInHanded {} Try.checked os 3 .any (Rows.fnExactTermNamesSpec.pre6 enc Try.prog Try.f3 Rows.fnExactTermNamesRow.domain false) (Rows.fnExactTermNamesSpec.post enc Try.prog Try.f3 false true false false) := by
  refine returnsInHanded_of_change (C := Try.checked) FnExactTermNames_own started (by kernel_rfl) Try.func3
    (ChangeSpec.witness6 (enc := enc) (C := Try.checked) false ⟨#[], #[.agg #[.slice none 0 0]], []⟩ 8 (by kernel_rfl) (by kernel_rfl) (by kernel_rfl) (by kernel_rfl)) ?_
  intro W base args ds gs before hval0 hW hcnd _
  have hval : ∀ (j : Nat) t v, Try.f3.params[j]? = some t → args[j]? = some v → Value.okWide Try.prog W .any base t v := hval0
  have hW' := hW
  obtain ⟨p, q, hA0, hV, rfl, hfz, hnd⟩ := hW
  have hA : DataW.TrodAll enc Try.prog W 0 (fun _ => true) true Try.f3.params.toList args.toList ds p := hA0
  rw [Try.params3] at hA hval
  obtain ⟨v0, vs0, d0, ds0, p0, q0, hargs, rfl, rfl, h0, r0⟩ := trodAll_cons hA
  obtain ⟨rfl, rfl, rfl⟩ := trodAll_nil r0
  obtain rfl : args = #[v0] := by cases args; simp_all
  obtain ⟨rfl, rfl⟩ := trodVars_none hV
  have k0 := h0
  have lt0 : ∀ x ∈ p0, x.block < W.heap.size := by obtain ⟨m, hm⟩ := k0; exact DataW.trod_lt m _ _ _ hm
  obtain ⟨a0, len0, cap0, xs0, rfl, wb0⟩ := open_lterm (hval 0 24 v0 rfl rfl) h0
  clear hA0 hval0
  refine (FnExactTermNames_walk a0 len0 cap0 xs0 W wb0).mono fun e W' ⟨he, bel⟩ => ?_
  subst he
  exact ⟨_, rfl, _, _, _, [], _, [], hW', trodAll_mk1 (shut_bool Try.underlying4 _), (trodAll_cons_mk (Below.trod jf1 (by kernel_rfl) (of_decide_eq_true (by kernel_rfl)) k0 bel lt0) trodAll_mk0), rfl, bel.frame _, fun h => by cases h⟩

theorem FnExactTermNames_k0 : (Rows.fnExactTermNamesRow.wf (OpenSpec.ofChange Rows.fnExactTermNamesSpec)) = true := by kernel_rfl
theorem FnExactTermNames_k3 : (Try.f3.params.all (Try.prog.readableRec ·)) = true := by kernel_rfl
theorem FnExactTermNames_k4 : (namedTie Try.prog Rows.fnExactTermNamesRow.named Rows.fnExactTermNamesSpec.vars) = true := by kernel_rfl
theorem FnExactTermNames_k5 : ((Rows.fnExactTermNamesRow.stops == [])) = true := by kernel_rfl
theorem FnExactTermNames_k7 : ((Rows.fnExactTermNamesRow.knobs == [])) = true := by kernel_rfl
theorem FnExactTermNames_k9 : ((Rows.fnExactTermNamesRow.inPlace == Try.prog.inPlace 3)) = true := by kernel_rfl
theorem FnExactTermNames_k10 : ((Rows.fnExactTermNamesRow.unfollowed == Try.prog.unfollowed 3)) = true := by kernel_rfl
theorem FnExactTermNames_k11 : ((Rows.fnExactTermNamesRow.recurses == Try.prog.recurses 3)) = true := by kernel_rfl
theorem FnExactTermNames_k12 : ((Rows.fnExactTermNamesRow.named == Try.prog.varsNamed 3)) = true := by kernel_rfl
theorem FnExactTermNames_k13 : ((Rows.fnExactTermNamesRow.maps == (Try.f3.params.toList ++ Rows.fnExactTermNamesSpec.plain.varTypes Try.prog).any (Try.prog.mapsRec ·))) = true := by kernel_rfl
theorem FnExactTermNames_k14 : ((Rows.fnExactTermNamesRow.ifaces == (Try.f3.params.toList ++ Rows.fnExactTermNamesSpec.plain.varTypes Try.prog).any (Try.prog.ifacesRec ·))) = true := by kernel_rfl
theorem FnExactTermNames_k15 : ((Rows.fnExactTermNamesRow.mapsOut == Try.prog.mapsAmong Try.f3.resultTypes.toList)) = true := by kernel_rfl
theorem FnExactTermNames_k16 : ((Rows.fnExactTermNamesRow.loops == (Try.f3.params.toList ++ Rows.fnExactTermNamesSpec.plain.varTypes Try.prog).any (Try.prog.loopsFrom ·))) = true := by kernel_rfl
theorem FnExactTermNames_k17 : ((Rows.fnExactTermNamesRow.wideKeys == (Try.f3.params.toList ++ Rows.fnExactTermNamesSpec.plain.varTypes Try.prog ++ Try.f3.resultTypes.toList).any (Try.prog.wideKeysFrom ·))) = true := by kernel_rfl
theorem FnExactTermNames_k18 : (Rows.fnExactTermNamesSpec.vars.all (Try.prog.varReadable ·)) = true := by kernel_rfl
theorem FnExactTermNames_k19 : (Try.f3.resultTypes.all (fun t => Try.prog.readableRec t && decide (t < Try.prog.types.size))) = true := by kernel_rfl
theorem FnExactTermNames_k20 : ((Rows.fnExactTermNamesRow.ifacesOut == Try.f3.resultTypes.toList.any (Try.prog.ifacesRec ·))) = true := by kernel_rfl
theorem FnExactTermNames_k21 : ((Rows.fnExactTermNamesRow.loopsOut == Try.f3.resultTypes.toList.any (Try.prog.loopsFrom ·))) = true := by kernel_rfl
theorem FnExactTermNames_k23 : (Rows.fnExactTermNamesRow.shortTexts.isNone) = true := by kernel_rfl
theorem FnExactTermNames_k28 : ((Rows.fnExactTermNamesRow.kinds == (if Rows.fnExactTermNamesRow.domain.isEmpty then [] else Try.f3.params.toList.map fun t => match Try.prog.underlying t with | some (.int k) => some k | _ => none))) = true := by kernel_rfl
theorem FnExactTermNames_k29 : ((Rows.fnExactTermNamesRow.pinned == Rows.fnExactTermNamesRow.pinnedBy)) = true := by kernel_rfl
theorem FnExactTermNames_k30 : ((Rows.fnExactTermNamesRow.veiled == (Try.f3.params.toList ++ Rows.fnExactTermNamesSpec.plain.varTypes Try.prog ++ Try.f3.resultTypes.toList).any (Try.prog.veiledRec ·))) = true := by kernel_rfl
theorem FnExactTermNames_k31 : (Rows.fnExactTermNamesRow.veiledFits Try.prog Try.f3.params.toList (Try.f3.params.toList ++ Rows.fnExactTermNamesSpec.plain.varTypes Try.prog ++ Try.f3.resultTypes.toList)) = true := by kernel_rfl
set_option maxRecDepth 100000 in
theorem FnExactTermNames_closed : joinedFacts Try.prog 3 Try.f3 Rows.fnExactTermNamesSpec Rows.fnExactTermNamesRow = true := (and2 (and2 (and2 (and2 (and2 (and2 (and2 (and2 (and2 (and2 (and2 (and2 (and2 (and2 (and2 (and2 (and2 (and2 (and2 (and2 (and2 (and2 (and2 (and2 (and2 (and2 (and2 (and2 (and2 (and2 (and2 FnExactTermNames_k0 jf1) jf2) FnExactTermNames_k3) FnExactTermNames_k4) FnExactTermNames_k5) jf6) FnExactTermNames_k7) jf8) FnExactTermNames_k9) FnExactTermNames_k10) FnExactTermNames_k11) FnExactTermNames_k12) FnExactTermNames_k13) FnExactTermNames_k14) FnExactTermNames_k15) FnExactTermNames_k16) FnExactTermNames_k17) FnExactTermNames_k18) FnExactTermNames_k19) FnExactTermNames_k20) FnExactTermNames_k21) jf22) FnExactTermNames_k23) jf24) jf25) jf26) jf27) FnExactTermNames_k28) FnExactTermNames_k29) FnExactTermNames_k30) FnExactTermNames_k31)
theorem FnExactTermNames_over : Rows.fnExactTermNamesRow.holds Try.pinned (OpenSpec.ofChange Rows.fnExactTermNamesSpec) :=
  OpenClaim.holds_of_wide 3 Try.f3 rfl rfl rfl rfl rfl rfl rfl ⟨rfl, rfl, rfl, rfl, rfl⟩ rfl rfl rfl rfl rfl (by kernel_rfl) Try.func3 FnExactTermNames_closed
    (of_decide_eq_true (by kernel_rfl)) (by unfold Func.isWrapper; first | (rw [if_pos (by decide +kernel)]; kernel_rfl) | (rw [if_neg (by decide +kernel)]; exact ⟨rfl, rfl⟩))
    (fun os started H enc _ => FnExactTermNames_lifted os started H enc)

theorem FnExactTermNames_proved : Rows.FnExactTermNamesSaid := FnExactTermNames_over
end Go.Proofs.Ytafpjgojmpjajaa
