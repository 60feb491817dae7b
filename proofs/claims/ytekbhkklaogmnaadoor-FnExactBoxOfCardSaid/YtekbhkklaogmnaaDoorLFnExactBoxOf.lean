/- The program's BoxOf answers as the specification's BoxOf at every argument; it writes into no argument, and what it answers is its own. Condition: the library's handle of errors lies as its text lays it. -/
import Derived.Test.YtekbhkklaogmnaaDoorRows
import Derived.Test.YtekbhkklaogmnaaDoorTie
import Derived.Test.YtekbhkklaogmnaaDoorCards
import Derived.WalkKit
import Derived.ProofKit
import Derived.OpenShut
import Derived.Below
import Derived.Carry
import Derived.Test.YtekbhkklaogmnaaDoorPK01
import Derived.Test.YtekbhkklaogmnaaDoorPK03
import Derived.Test.YtekbhkklaogmnaaDoorPK20
import Derived.Test.YtekbhkklaogmnaaDoorPK19
import Derived.Test.YtekbhkklaogmnaaDoorPK17
import Derived.Test.YtekbhkklaogmnaaDoorPK21
namespace Go.Proofs.YtekbhkklaogmnaaDoor
open Go.ChangeShapes Go.WideShapes Go.ChangeAt Go.RowKit
set_option linter.unusedVariables false
set_option maxRecDepth 100000

set_option maxRecDepth 100000 in
set_option maxHeartbeats 8000000 in
theorem FnExactBoxOf_walk (a0 : Int) (wa0 : -9223372036854775808 ≤ a0 ∧ a0 ≤ 9223372036854775807) (a1 : Option Addr) (len1 cap1 : Nat) (xs1 : List Int) (w : World) (wb1 : InU w a1 len1 cap1 xs1) (hE : ET w) :
    Calls Tryd.prog 3 #[.int .i64 a0, .slice a1 len1 cap1] w fun e w' => e = .returned (.bool true) ∧ Below w.heap.size w w' := by
  obtain rfl := wb1.1
  have hlen1 : (xs1.length : Int) ≤ 9223372036854775807 := by have := wb1.len; omega
  by_cases c : (xs1.length : Int) > 1048576
  · go_enter Tryd.func3, Tryd.ntmps3
    go_wp2
    go_ret
    exact ⟨rfl, (by repeat (first | exact Below.refl _ _ | refine Below.drew ?_ | refine old_alloc ?_ _ | refine old_trans ?_ (by assumption)))⟩
  have hl1 : xs1.length ≤ 1048576 := by omega
  have hEE := hd (fun W (h : Below w.heap.size w W) => hE.old h)
  have S := hd (fun a cap w (h : InU w a xs1.length cap xs1) => sBoxOf a0 a cap xs1 w h)
  have I := hd (fun a cap w (h : InU w a xs1.length cap xs1) (hE : ET w) => iBoxOf a0 a cap xs1 w h hE)
  have hqa : (ofQ a0 xs1).length ≤ 1048576 := Nat.le_trans (ofQ_len a0 xs1) hl1
  generalize ofQ a0 xs1 = qa at *
  generalize ofC a0 xs1 = r at *
  have hx1 : ¬ (1 + (xs1.length : Int) < 0) := by omega
  have hx2 : ¬ (1 + 2 * (qa.length : Int) < 0) := by omega
  have R := wb1
  have hB : Below w.heap.size w w := Below.refl _ _
  have hB0 : w.heap.size ≤ w.heap.size := Nat.le_refl _
  clear hE
  go_enter Tryd.func3, Tryd.ntmps3
  go_wp2_with fail
  have l_R_P := R.far
  have n_P := hB.size
  refine (toUsO a1 cap1 xs1 _ R hl1).mono ?_
  rintro e w1 ⟨⟨avP, cvP, rfl, P⟩, hb1⟩
  replace R := R.old hb1
  replace hB := old_trans hB hb1
  clear hb1
  go_wp2_with fail
  have l_P_W := P.lt
  have l_R_W := R.far
  have n_W := hB.size
  refine (S.out _ _ _ P.inU).mono ?_
  rintro e w2 ⟨⟨avW, cvW, rfl, W⟩, hb2⟩
  clear P
  replace R := R.old hb2
  replace hB := old_trans hB hb2
  clear hb2
  have y_W_Wc := W.lt
  replace W := (W.alloc (.cells #[.slice avW qa.length cvW] 25))
  replace R := (R.alloc (.cells #[.slice avW qa.length cvW] 25))
  replace hB := old_alloc hB (.cells #[.slice avW qa.length cvW] 25)
  have Wc : Cel1 (w2.alloc (.cells #[.slice avW qa.length cvW] 25)) (w2.heap.size) (.slice avW qa.length cvW) := Cel1.made w2 _ (by simp) _ _
  have Wc0 := Wc.1
  have Wc2 := Wc.2.2
  go_wp2_with fail
  clear Wc0 Wc2
  generalize (w2.alloc (.cells #[.slice avW qa.length cvW] 25)) = V0 at *
  generalize hpWc : w2.heap.size = pWc at *
  have Wc0 := Wc.1
  have Wc2 := Wc.2.2
  have l_Wc_X := Wc.2.2
  have l_W_X := W.lt
  have l_R_X := R.far
  have n_X := hB.size
  refine (toUsO a1 cap1 xs1 _ R hl1).mono ?_
  rintro e w3 ⟨⟨avX, cvX, rfl, X⟩, hb3⟩
  clear Wc0 Wc2
  replace Wc := Wc.later hb3
  replace W := W.later hb3
  replace R := R.old hb3
  replace hB := old_trans hB hb3
  clear hb3
  have Wc0 := Wc.1
  have Wc2 := Wc.2.2
  go_wp2_with fail
  have l_Wc_G := Wc.2.2
  have l_W_G := W.lt
  have l_X_G := X.lt
  have l_R_G := R.far
  have n_G := hB.size
  refine (I.out _ _ _ X.inU (hEE.out _ hB)).mono ?_
  rintro e w4 ⟨⟨avG, cvG, rfl, G⟩, hb4⟩
  clear Wc0 Wc2
  replace Wc := Wc.later hb4
  replace W := W.later hb4
  replace X := X.later hb4
  replace R := R.old hb4
  replace hB := old_trans hB hb4
  clear hb4
  have Wc0 := Wc.1
  have Wc2 := Wc.2.2
  have y_W_Gc := W.lt
  have y_X_Gc := X.lt
  have y_G_Gc := G.lt
  clear Wc0 Wc2
  replace Wc := (Wc.alloc (.cells #[.slice avG qa.length cvG] 25))
  replace W := (W.alloc (.cells #[.slice avG qa.length cvG] 25))
  replace X := (X.alloc (.cells #[.slice avG qa.length cvG] 25))
  replace G := (G.alloc (.cells #[.slice avG qa.length cvG] 25))
  replace R := (R.alloc (.cells #[.slice avG qa.length cvG] 25))
  replace hB := old_alloc hB (.cells #[.slice avG qa.length cvG] 25)
  have Gc : Cel1 (w4.alloc (.cells #[.slice avG qa.length cvG] 25)) (w4.heap.size) (.slice avG qa.length cvG) := Cel1.made w4 _ (by simp) _ _
  have Wc0 := Wc.1
  have Wc2 := Wc.2.2
  have Gc0 := Gc.1
  have Gc2 := Gc.2.2
  go_wp2_with fail
  clear Wc0 Wc2 Gc0 Gc2
  generalize (w4.alloc (.cells #[.slice avG qa.length cvG] 25)) = V1 at *
  generalize hpGc : w4.heap.size = pGc at *
  have Wc0 := Wc.1
  have Wc2 := Wc.2.2
  have Gc0 := Gc.1
  have Gc2 := Gc.2.2
  refine (lEqO avG avW cvG cvW _ _ qa _ G W).mono ?_
  rintro e w5 ⟨rfl, hb5⟩
  clear Wc0 Wc2 Gc0 Gc2
  replace Wc := Wc.later hb5
  replace Gc := Gc.later hb5
  replace W := W.later hb5
  replace X := X.later hb5
  replace G := G.later hb5
  replace R := R.old hb5
  replace hB := old_trans hB hb5
  clear hb5
  have Wc0 := Wc.1
  have Wc2 := Wc.2.2
  have Gc0 := Gc.1
  have Gc2 := Gc.2.2
  go_wp2_with fail
  have l_Wc_Z := Wc.2.2
  have l_Gc_Z := Gc.2.2
  have l_W_Z := W.lt
  have l_X_Z := X.lt
  have l_G_Z := G.lt
  have l_R_Z := R.far
  have n_Z := hB.size
  refine (toUsO a1 cap1 xs1 _ R hl1).mono ?_
  rintro e w6 ⟨⟨avZ, cvZ, rfl, Z⟩, hb6⟩
  clear Wc0 Wc2 Gc0 Gc2
  replace Wc := Wc.later hb6
  replace Gc := Gc.later hb6
  replace W := W.later hb6
  replace X := X.later hb6
  replace G := G.later hb6
  replace R := R.old hb6
  replace hB := old_trans hB hb6
  clear hb6
  have Wc0 := Wc.1
  have Wc2 := Wc.2.2
  have Gc0 := Gc.1
  have Gc2 := Gc.2.2
  go_wp2_with fail
  refine (lEqUO avX avZ cvX cvZ _ _ xs1 _ X Z).mono ?_
  rintro e w7 ⟨rfl, hb7⟩
  clear Wc0 Wc2 Gc0 Gc2
  clear Z
  replace Wc := Wc.later hb7
  replace Gc := Gc.later hb7
  replace W := W.later hb7
  replace X := X.later hb7
  replace G := G.later hb7
  replace R := R.old hb7
  replace hB := old_trans hB hb7
  clear hb7
  have Wc0 := Wc.1
  have Wc2 := Wc.2.2
  have Gc0 := Gc.1
  have Gc2 := Gc.2.2
  go_wp2_with fail
  refine (lMarkUO _ avX cvX xs1 (1) _ X hl1 (by omega) (by omega)).mono ?_
  rintro e w8 ⟨rfl, X', hg8⟩
  clear Wc0 Wc2 Gc0 Gc2
  replace Wc := Wc.kept hg8 (X.ne_old l_Wc_X)
  replace Gc := Gc.kept hg8 (ne_young (fun q e => by have := y_X_Gc q e; omega))
  replace W := W.kept hg8 (X.sep l_W_X)
  replace G := G.kept hg8 (G.sep' l_X_G)
  replace R := R.kept' hg8 (fun h0 => X.sep (l_R_X h0))
  replace hB := Below.markedU hB X hg8 n_X hB.size
  clear X
  have X := X'
  clear X'
  have Wc0 := Wc.1
  have Wc2 := Wc.2.2
  have Gc0 := Gc.1
  have Gc2 := Gc.2.2
  go_wp2_with fail
  refine (lEqO avG avW cvG cvW _ _ qa _ G W).mono ?_
  rintro e w9 ⟨rfl, hb9⟩
  clear Wc0 Wc2 Gc0 Gc2
  replace Wc := Wc.later hb9
  replace Gc := Gc.later hb9
  replace W := W.later hb9
  replace X := X.later hb9
  replace G := G.later hb9
  replace R := R.old hb9
  replace hB := old_trans hB hb9
  clear hb9
  have Wc0 := Wc.1
  have Wc2 := Wc.2.2
  have Gc0 := Gc.1
  have Gc2 := Gc.2.2
  go_wp2_with fail
  refine (lMarkO _ avG cvG qa (1) _ G hqa (by omega) (by omega)).mono ?_
  rintro e w10 ⟨rfl, G', hg10⟩
  clear Wc0 Wc2 Gc0 Gc2
  replace Wc := Wc.kept hg10 (G.ne_old l_Wc_G)
  replace Gc := Gc.kept hg10 (ne_young (fun q e => by have := y_G_Gc q e; omega))
  replace W := W.kept hg10 (G.sep l_W_G)
  replace X := X.kept hg10 (G.sep l_X_G)
  replace R := R.kept' hg10 (fun h0 => G.sep (l_R_G h0))
  replace hB := Below.marked hB G hg10 n_G hB.size
  clear G
  have G := G'
  clear G'
  have Wc0 := Wc.1
  have Wc2 := Wc.2.2
  have Gc0 := Gc.1
  have Gc2 := Gc.2.2
  go_wp2_with fail
  refine (lHeldO _ avG cvG qa.length (1) _ G hqa (by omega) (by omega)).mono ?_
  rintro e w11 ⟨rfl, hb11⟩
  clear Wc0 Wc2 Gc0 Gc2
  replace Wc := Wc.later hb11
  replace Gc := Gc.later hb11
  replace W := W.later hb11
  replace X := X.later hb11
  replace G := G.later hb11
  replace R := R.old hb11
  replace hB := old_trans hB hb11
  clear hb11
  have Wc0 := Wc.1
  have Wc2 := Wc.2.2
  have Gc0 := Gc.1
  have Gc2 := Gc.2.2
  go_wp2_with fail
  have l_Wc_Y := Wc.2.2
  have l_Gc_Y := Gc.2.2
  have l_W_Y := W.lt
  have l_X_Y := X.lt
  have l_G_Y := G.lt
  have l_R_Y := R.far
  have n_Y := hB.size
  refine (toUsO a1 cap1 xs1 _ R hl1).mono ?_
  rintro e w12 ⟨⟨avY, cvY, rfl, Y⟩, hb12⟩
  clear Wc0 Wc2 Gc0 Gc2
  replace Wc := Wc.later hb12
  replace Gc := Gc.later hb12
  replace W := W.later hb12
  replace X := X.later hb12
  replace G := G.later hb12
  replace R := R.old hb12
  replace hB := old_trans hB hb12
  clear hb12
  have Wc0 := Wc.1
  have Wc2 := Wc.2.2
  have Gc0 := Gc.1
  have Gc2 := Gc.2.2
  go_wp2_with fail
  have l_Wc_H := Wc.2.2
  have l_Gc_H := Gc.2.2
  have l_W_H := W.lt
  have l_X_H := X.lt
  have l_G_H := G.lt
  have l_Y_H := Y.lt
  have l_R_H := R.far
  have n_H := hB.size
  refine (I.out _ _ _ Y.inU (hEE.out _ hB)).mono ?_
  rintro e w13 ⟨⟨avH, cvH, rfl, H⟩, hb13⟩
  clear Wc0 Wc2 Gc0 Gc2
  clear Y
  replace Wc := Wc.later hb13
  replace Gc := Gc.later hb13
  replace W := W.later hb13
  replace X := X.later hb13
  replace G := G.later hb13
  replace R := R.old hb13
  replace hB := old_trans hB hb13
  clear hb13
  have Wc0 := Wc.1
  have Wc2 := Wc.2.2
  have Gc0 := Gc.1
  have Gc2 := Gc.2.2
  have y_W_Hc := W.lt
  have y_X_Hc := X.lt
  have y_G_Hc := G.lt
  have y_H_Hc := H.lt
  clear Wc0 Wc2 Gc0 Gc2
  replace Wc := (Wc.alloc (.cells #[.slice avH qa.length cvH] 25))
  replace Gc := (Gc.alloc (.cells #[.slice avH qa.length cvH] 25))
  replace W := (W.alloc (.cells #[.slice avH qa.length cvH] 25))
  replace X := (X.alloc (.cells #[.slice avH qa.length cvH] 25))
  replace G := (G.alloc (.cells #[.slice avH qa.length cvH] 25))
  replace H := (H.alloc (.cells #[.slice avH qa.length cvH] 25))
  replace R := (R.alloc (.cells #[.slice avH qa.length cvH] 25))
  replace hB := old_alloc hB (.cells #[.slice avH qa.length cvH] 25)
  have Hc : Cel1 (w13.alloc (.cells #[.slice avH qa.length cvH] 25)) (w13.heap.size) (.slice avH qa.length cvH) := Cel1.made w13 _ (by simp) _ _
  have Wc0 := Wc.1
  have Wc2 := Wc.2.2
  have Gc0 := Gc.1
  have Gc2 := Gc.2.2
  have Hc0 := Hc.1
  have Hc2 := Hc.2.2
  go_wp2_with fail
  clear Wc0 Wc2 Gc0 Gc2 Hc0 Hc2
  generalize (w13.alloc (.cells #[.slice avH qa.length cvH] 25)) = V2 at *
  generalize hpHc : w13.heap.size = pHc at *
  have Wc0 := Wc.1
  have Wc2 := Wc.2.2
  have Gc0 := Gc.1
  have Gc2 := Gc.2.2
  have Hc0 := Hc.1
  have Hc2 := Hc.2.2
  refine (lEqO avH avW cvH cvW _ _ qa _ H W).mono ?_
  rintro e w14 ⟨rfl, hb14⟩
  clear Wc0 Wc2 Gc0 Gc2 Hc0 Hc2
  replace Wc := Wc.later hb14
  replace Gc := Gc.later hb14
  replace Hc := Hc.later hb14
  replace W := W.later hb14
  replace X := X.later hb14
  replace G := G.later hb14
  replace H := H.later hb14
  replace R := R.old hb14
  replace hB := old_trans hB hb14
  clear hb14
  have Wc0 := Wc.1
  have Wc2 := Wc.2.2
  have Gc0 := Gc.1
  have Gc2 := Gc.2.2
  have Hc0 := Hc.1
  have Hc2 := Hc.2.2
  go_wp2_with fail
  refine (lHeldO _ avG cvG qa.length (1) _ G hqa (by omega) (by omega)).mono ?_
  rintro e w15 ⟨rfl, hb15⟩
  clear Wc0 Wc2 Gc0 Gc2 Hc0 Hc2
  replace Wc := Wc.later hb15
  replace Gc := Gc.later hb15
  replace Hc := Hc.later hb15
  replace W := W.later hb15
  replace X := X.later hb15
  replace G := G.later hb15
  replace H := H.later hb15
  replace R := R.old hb15
  replace hB := old_trans hB hb15
  clear hb15
  have Wc0 := Wc.1
  have Wc2 := Wc.2.2
  have Gc0 := Gc.1
  have Gc2 := Gc.2.2
  have Hc0 := Hc.1
  have Hc2 := Hc.2.2
  go_wp2
  go_ret
  exact ⟨rfl, hB⟩

set_option maxRecDepth 100000 in
theorem FnExactBoxOf_lifted (os : Os) (started : os.Started) (H : Type) (enc : TypeId × Value → H) :
    ReturnsInHanded {} Tryd.checked os 3 .any (fun w args => (Rows.fnExactBoxOfSpec.pre enc Tryd.prog Tryd.f3 [] false w args ∧ laidMetH Tryd.prog LHBL w) ∧ sizedMet enc Tryd.prog Tryd.f3 (OpenSpec.ofChange Rows.fnExactBoxOfSpec) false w args)
      (Rows.fnExactBoxOfSpec.post enc Tryd.prog Tryd.f3 false true false false) := by
  refine returnsInHanded_of_change_and (C := Tryd.checked) (X := fun w _ => laidMetH Tryd.prog LHBL w) (fun _ _ _ hh h => h.of_heap hh) LHB_own started (by kernel_rfl) Tryd.func3
    (ChangeSpec.witness_shaped (enc := enc) (C := Tryd.checked) (os := os) (X := fun w _ => laidMetH Tryd.prog LHBL w) false (World.doorLaid Tryd.prog LHB_fuel os) #[.int .i64 0, .slice none 0 0] 8 rfl (LHB_shaped os _) (by kernel_rfl) (by kernel_rfl) (by kernel_rfl) (LHB_met os _)) ?_
  intro W base args ds gs before hval0 hW _ _ hL _
  have hval : ∀ (j : Nat) t v, Tryd.f3.params[j]? = some t → args[j]? = some v → Value.okWide Tryd.prog W .any base t v := hval0
  have hW' := hW
  obtain ⟨p, q, hA0, hV, rfl, hfz, hnd⟩ := hW
  have hA : DataW.TrodAll enc Tryd.prog W 0 (fun _ => true) true Tryd.f3.params.toList args.toList ds p := hA0
  rw [Tryd.params3] at hA hval
  obtain ⟨v0, vs0, d0, ds0, p0, q0, hargs, rfl, rfl, h0, r0⟩ := trodAll_cons hA
  obtain ⟨v1, vs1, d1, ds1, p1, q1, rfl, rfl, rfl, h1, r1⟩ := trodAll_cons r0
  obtain ⟨rfl, rfl, rfl⟩ := trodAll_nil r1
  obtain rfl : args = #[v0, v1] := by cases args; simp_all
  obtain ⟨rfl, rfl⟩ := trodVars_none hV
  have k0 := h0
  have lt0 : ∀ x ∈ p0, x.block < W.heap.size := by obtain ⟨m, hm⟩ := k0; exact DataW.trod_lt m _ _ _ hm
  obtain ⟨a0, rfl, -, -, wf0⟩ := open_int Tryd.underlying3 (hval 0 3 v0 rfl rfl) h0
  have wa0 := bounds_i64 wf0
  have k1 := h1
  have lt1 : ∀ x ∈ p1, x.block < W.heap.size := by obtain ⟨m, hm⟩ := k1; exact DataW.trod_lt m _ _ _ hm
  obtain ⟨a1, len1, cap1, xs1, rfl, wb1⟩ := open_u64S (hval 1 22 v1 rfl rfl) h1
  clear hA0 hval0
  refine (FnExactBoxOf_walk a0 wa0 a1 len1 cap1 xs1 W wb1 (et_of hL)).mono fun e W' ⟨he, bel⟩ => ?_
  subst he
  exact ⟨_, rfl, _, _, _, [], _, [], hW', trodAll_mk1 (shut_bool Tryd.underlying4 _), (trodAll_cons_mk (Below.trod jf1 (by kernel_rfl) (of_decide_eq_true (by kernel_rfl)) k0 bel lt0) (trodAll_cons_mk (Below.trod jf1 (by kernel_rfl) (of_decide_eq_true (by kernel_rfl)) k1 bel lt1) trodAll_mk0)), rfl, bel.frame _, fun h => by cases h⟩

theorem FnExactBoxOf_k0 : (Rows.fnExactBoxOfRow.wf (OpenSpec.ofChange Rows.fnExactBoxOfSpec)) = true := by kernel_rfl
theorem FnExactBoxOf_k3 : (Tryd.f3.params.all (Tryd.prog.readableRec ·)) = true := by kernel_rfl
theorem FnExactBoxOf_k4 : (namedTie Tryd.prog Rows.fnExactBoxOfRow.named Rows.fnExactBoxOfSpec.vars) = true := by kernel_rfl
theorem FnExactBoxOf_k5 : ((Rows.fnExactBoxOfRow.stops == [])) = true := by kernel_rfl
theorem FnExactBoxOf_k7 : ((Rows.fnExactBoxOfRow.knobs == [])) = true := by kernel_rfl
theorem FnExactBoxOf_k9 : ((Rows.fnExactBoxOfRow.inPlace == Tryd.prog.inPlace 3)) = true := by kernel_rfl
theorem FnExactBoxOf_k10 : ((Rows.fnExactBoxOfRow.unfollowed == Tryd.prog.unfollowed 3)) = true := by kernel_rfl
theorem FnExactBoxOf_k11 : ((Rows.fnExactBoxOfRow.recurses == Tryd.prog.recurses 3)) = true := by kernel_rfl
theorem FnExactBoxOf_k12 : ((Rows.fnExactBoxOfRow.named == Tryd.prog.varsNamed 3)) = true := by kernel_rfl
theorem FnExactBoxOf_k13 : ((Rows.fnExactBoxOfRow.maps == (Tryd.f3.params.toList ++ Rows.fnExactBoxOfSpec.plain.varTypes Tryd.prog).any (Tryd.prog.mapsRec ·))) = true := by kernel_rfl
theorem FnExactBoxOf_k14 : ((Rows.fnExactBoxOfRow.ifaces == (Tryd.f3.params.toList ++ Rows.fnExactBoxOfSpec.plain.varTypes Tryd.prog).any (Tryd.prog.ifacesRec ·))) = true := by kernel_rfl
theorem FnExactBoxOf_k15 : ((Rows.fnExactBoxOfRow.mapsOut == Tryd.prog.mapsAmong Tryd.f3.resultTypes.toList)) = true := by kernel_rfl
theorem FnExactBoxOf_k16 : ((Rows.fnExactBoxOfRow.loops == (Tryd.f3.params.toList ++ Rows.fnExactBoxOfSpec.plain.varTypes Tryd.prog).any (Tryd.prog.loopsFrom ·))) = true := by kernel_rfl
theorem FnExactBoxOf_k17 : ((Rows.fnExactBoxOfRow.wideKeys == (Tryd.f3.params.toList ++ Rows.fnExactBoxOfSpec.plain.varTypes Tryd.prog ++ Tryd.f3.resultTypes.toList).any (Tryd.prog.wideKeysFrom ·))) = true := by kernel_rfl
theorem FnExactBoxOf_k18 : (Rows.fnExactBoxOfSpec.vars.all (Tryd.prog.varReadable ·)) = true := by kernel_rfl
theorem FnExactBoxOf_k19 : (Tryd.f3.resultTypes.all (fun t => Tryd.prog.readableRec t && decide (t < Tryd.prog.types.size))) = true := by kernel_rfl
theorem FnExactBoxOf_k20 : ((Rows.fnExactBoxOfRow.ifacesOut == Tryd.f3.resultTypes.toList.any (Tryd.prog.ifacesRec ·))) = true := by kernel_rfl
theorem FnExactBoxOf_k21 : ((Rows.fnExactBoxOfRow.loopsOut == Tryd.f3.resultTypes.toList.any (Tryd.prog.loopsFrom ·))) = true := by kernel_rfl
theorem FnExactBoxOf_k23 : (Rows.fnExactBoxOfRow.shortTexts.isNone) = true := by kernel_rfl
theorem FnExactBoxOf_k28 : ((Rows.fnExactBoxOfRow.kinds == (if Rows.fnExactBoxOfRow.domain.isEmpty then [] else Tryd.f3.params.toList.map fun t => match Tryd.prog.underlying t with | some (.int k) => some k | _ => none))) = true := by kernel_rfl
theorem FnExactBoxOf_k29 : ((Rows.fnExactBoxOfRow.pinned == Rows.fnExactBoxOfRow.pinnedBy)) = true := by kernel_rfl
theorem FnExactBoxOf_k30 : ((Rows.fnExactBoxOfRow.veiled == (Tryd.f3.params.toList ++ Rows.fnExactBoxOfSpec.plain.varTypes Tryd.prog ++ Tryd.f3.resultTypes.toList).any (Tryd.prog.veiledRec ·))) = true := by kernel_rfl
theorem FnExactBoxOf_k31 : (Rows.fnExactBoxOfRow.veiledFits Tryd.prog Tryd.f3.params.toList (Tryd.f3.params.toList ++ Rows.fnExactBoxOfSpec.plain.varTypes Tryd.prog ++ Tryd.f3.resultTypes.toList)) = true := by kernel_rfl
set_option maxRecDepth 100000 in
theorem FnExactBoxOf_closed : joinedFacts Tryd.prog 3 Tryd.f3 Rows.fnExactBoxOfSpec Rows.fnExactBoxOfRow = true := (and2 (and2 (and2 (and2 (and2 (and2 (and2 (and2 (and2 (and2 (and2 (and2 (and2 (and2 (and2 (and2 (and2 (and2 (and2 (and2 (and2 (and2 (and2 (and2 (and2 (and2 (and2 (and2 (and2 (and2 (and2 FnExactBoxOf_k0 jf1) jf2) FnExactBoxOf_k3) FnExactBoxOf_k4) FnExactBoxOf_k5) jf6) FnExactBoxOf_k7) jf8) FnExactBoxOf_k9) FnExactBoxOf_k10) FnExactBoxOf_k11) FnExactBoxOf_k12) FnExactBoxOf_k13) FnExactBoxOf_k14) FnExactBoxOf_k15) FnExactBoxOf_k16) FnExactBoxOf_k17) FnExactBoxOf_k18) FnExactBoxOf_k19) FnExactBoxOf_k20) FnExactBoxOf_k21) jf22) FnExactBoxOf_k23) jf24) jf25) jf26) jf27) FnExactBoxOf_k28) FnExactBoxOf_k29) FnExactBoxOf_k30) FnExactBoxOf_k31)
theorem FnExactBoxOf_row : Rows.FnExactBoxOfSaid :=
  OpenClaim.holds_of_wide 3 Tryd.f3 rfl rfl rfl rfl rfl rfl rfl ⟨rfl, rfl, rfl, rfl, rfl⟩ rfl rfl rfl rfl rfl (by kernel_rfl) Tryd.func3 FnExactBoxOf_closed
    (of_decide_eq_true (by kernel_rfl)) (by unfold Func.isWrapper; first | (rw [if_pos (by decide +kernel)]; kernel_rfl) | (rw [if_neg (by decide +kernel)]; exact ⟨rfl, rfl⟩))
    (fun os started H enc _ => FnExactBoxOf_lifted os started H enc)

theorem FnExactBoxOf_proved : Rows.FnExactBoxOfCardSaid :=
  Claim7.holds_tied_plain_at .later [] [.handle] true (true, "8511f307e3b27d6b6882e950386e2af4efac365aea0d2179fbdc1bf812d5e6af") true
    FnExactBoxOf_row (fun _ h => by cases h) (by kernel_rfl) (fun _ h => by cases h) fnExactBoxOf_row_tie rfl ⟨rfl, rfl⟩ (by kernel_rfl) rfl
    (fun f fn hf hfn => by
      obtain rfl : f = 3 := Option.some.inj ((show Tryd.prog.funcNamed "loop.example/pinfold/laws.FnExactBoxOf" = some 3 by kernel_rfl).symm.trans hf) |>.symm
      obtain rfl : fn = Tryd.f3 := (Option.some.inj (Tryd.func3.symm.trans hfn)).symm
      exact ⟨by kernel_rfl, fun j t ht => by
        rw [Tryd.params3] at ht
        have hm : t ∈ [3, 22] := by simpa using Array.mem_of_getElem? ht
        have hall : ([3, 22].all fun u => !Tryd.prog.wantsStandIn u) = true := by kernel_rfl
        exact (show Tryd.prog.wantsStandIn t = false by simpa using List.all_eq_true.1 hall t hm)⟩)
    (by kernel_rfl)
end Go.Proofs.YtekbhkklaogmnaaDoor
