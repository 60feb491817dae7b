/- For every two codes of bytes, of the fraction and the number drawn from them: a fraction whose top and bottom are taken times the number comes back to lowest terms, and there is none if the number is 0. The law answers true; nothing that was there is written. Condition: the library's tables and its handle of errors hold what their texts lay (the card ties them). -/
import Derived.Test.YtekhokemekaeoaaDoorRows
import Derived.Test.YtekhokemekaeoaaDoorTie
import Derived.Test.YtekhokemekaeoaaDoorCards
import Derived.WalkKit
import Derived.ProofKit
import Derived.OpenShut
import Derived.Below
import Derived.Carry
import Derived.Test.YtekhokemekaeoaaDoorN0
import Derived.Test.YtekhokemekaeoaaDoorLH
import Derived.Test.YtekhokemekaeoaaDoorFL
import Derived.Test.YtekhokemekaeoaaDoorUW
import Derived.Test.YtekhokemekaeoaaDoorBJ
namespace Go.Proofs.YtekhokemekaeoaaDoor
open Go.ChangeShapes Go.WideShapes Go.ChangeAt Go.RowKit
set_option linter.unusedVariables false
set_option maxRecDepth 100000

set_option maxRecDepth 100000 in
set_option maxHeartbeats 16000000 in
theorem FnFracMake_walk (a0 : Option Addr) (len0 cap0 : Nat) (a1 : Option Addr) (len1 cap1 : Nat) (w : World) (wb0 : IsCode w a0 len0 cap0) (wb1 : IsCode w a1 len1 cap1) (hT : Tab w ∧ ET w) :
    Calls Tryd.prog 3 #[.slice a0 len0 cap0, .slice a1 len1 cap1] w fun e w' => e = .returned (.bool true) ∧ Below w.heap.size w w' := by
  have TT := hd (fun (w' : World) (h : Below w.heap.size w w') => (⟨hT.1.old h, hT.2.old h⟩ : Tab w' ∧ ET w'))
  clear hT
  have hlen0 := wb0.2.1
  have hlen1 := wb1.2.1
  have hle0 := wb0.1
  have hle1 := wb1.1
  by_cases c0 : (len0 : Int) ≤ 1048576
  case neg =>
    have c0' : (1048576 : Int) < (len0 : Int) := by omega
    go_enter Tryd.func3, Tryd.ntmps3
    go_wp2
    go_ret
    exact ⟨rfl, (by repeat (first | exact Below.refl _ _ | refine Below.drew ?_ | refine old_alloc ?_ _ | refine old_trans ?_ (by assumption)))⟩
  by_cases c1 : (len1 : Int) ≤ 1048576
  case neg =>
    have c1' : (1048576 : Int) < (len1 : Int) := by omega
    go_enter Tryd.func3, Tryd.ntmps3
    go_wp2
    go_ret
    exact ⟨rfl, (by repeat (first | exact Below.refl _ _ | refine Below.drew ?_ | refine old_alloc ?_ _ | refine old_trans ?_ (by assumption)))⟩
  have D0 := hd (goodFrac w a0 len0 cap0 wb0)
  have D1 := hd (fun w' (h : Below w.heap.size w w') => goodNat w' a1 len1 cap1 (wb1.old h))
  clear wb0 wb1 hlen0 hlen1 hle0 hle1
  go_enter Tryd.func3, Tryd.ntmps3
  go_wp2_with fail
  refine D0.out.mono ?_
  rintro e w0 ⟨⟨bf, avX, cvX, xs, avY, cvY, ys, rfl, X, Y, -, hf⟩, hB⟩
  have hfh := hd hf
  clear hf D0 c0 c1
  have KF_ := Cel3.new w0 (.bool bf) (.slice avX xs.length cvX) (.slice avY ys.length cvY) 25
  have halKF : Below w0.heap.size w0 (w0.alloc (.cells #[.bool bf, .slice avX xs.length cvX, .slice avY ys.length cvY] 25)) := old_alloc (Below.refl _ _) _
  replace X := X.later halKF
  replace Y := Y.later halKF
  replace hB := old_trans hB halKF
  clear halKF
  have KF := KF_
  clear KF_
  obtain ⟨KFa, ⟨KFb, KFc, KFd⟩, -⟩ := id KF
  go_wp2_with fail
  refine (D1.out _ hB).mono ?_
  rintro e w1 ⟨⟨avZ, cvZ, zs, rfl, Z⟩, hb1⟩
  clear KFa KFb KFc KFd
  replace X := X.later hb1
  replace Y := Y.later hb1
  replace KF := KF.old hb1
  replace hB := old_trans hB hb1
  clear hb1
  obtain ⟨KFa, ⟨KFb, KFc, KFd⟩, -⟩ := id KF
  cases hx : mulB xs zs
  · skip
    have S1 := hd (fun a b la lb ca cb w h1 h2 => sNatMul a b la lb ca cb xs zs w h1 h2)
    have S2 := hd (fun a b la lb ca cb w h1 h2 => sNatMul a b la lb ca cb ys zs w h1 h2)
    rw [hx] at S1
    clear hx hfh TT D1
    generalize mulB ys zs = yb at *
    generalize resN false (val xs * val zs) = pl at *
    generalize resN yb (val ys * val zs) = ql at *
    go_wp2_with fail
    refine (S1.out _ _ _ _ _ _ _ X.inI Z.inI).mono ?_
    rintro e w2 ⟨⟨_, _, rfl, -⟩, hb2⟩
    clear KFa KFb KFc KFd
    replace X := X.later hb2
    replace Y := Y.later hb2
    replace Z := Z.later hb2
    replace KF := KF.old hb2
    replace hB := old_trans hB hb2
    clear hb2
    obtain ⟨KFa, ⟨KFb, KFc, KFd⟩, -⟩ := id KF
    go_wp2_with fail
    refine (S2.out _ _ _ _ _ _ _ Y.inI Z.inI).mono ?_
    rintro e w3 ⟨⟨_, _, rfl, -⟩, hb3⟩
    clear KFa KFb KFc KFd
    replace X := X.later hb3
    replace Y := Y.later hb3
    replace Z := Z.later hb3
    replace KF := KF.old hb3
    replace hB := old_trans hB hb3
    clear hb3
    obtain ⟨KFa, ⟨KFb, KFc, KFd⟩, -⟩ := id KF
    go_wp2
    go_ret
    exact ⟨rfl, hB⟩
  cases hy : mulB ys zs
  · skip
    have S1 := hd (fun a b la lb ca cb w h1 h2 => sNatMul a b la lb ca cb xs zs w h1 h2)
    have S2 := hd (fun a b la lb ca cb w h1 h2 => sNatMul a b la lb ca cb ys zs w h1 h2)
    rw [hx] at S1
    rw [hy] at S2
    clear hx hy hfh TT D1
    generalize resN true (val xs * val zs) = pl at *
    generalize resN false (val ys * val zs) = ql at *
    go_wp2_with fail
    refine (S1.out _ _ _ _ _ _ _ X.inI Z.inI).mono ?_
    rintro e w2 ⟨⟨_, _, rfl, -⟩, hb2⟩
    clear KFa KFb KFc KFd
    replace X := X.later hb2
    replace Y := Y.later hb2
    replace Z := Z.later hb2
    replace KF := KF.old hb2
    replace hB := old_trans hB hb2
    clear hb2
    obtain ⟨KFa, ⟨KFb, KFc, KFd⟩, -⟩ := id KF
    go_wp2_with fail
    refine (S2.out _ _ _ _ _ _ _ Y.inI Z.inI).mono ?_
    rintro e w3 ⟨⟨_, _, rfl, -⟩, hb3⟩
    clear KFa KFb KFc KFd
    replace X := X.later hb3
    replace Y := Y.later hb3
    replace Z := Z.later hb3
    replace KF := KF.old hb3
    replace hB := old_trans hB hb3
    clear hb3
    obtain ⟨KFa, ⟨KFb, KFc, KFd⟩, -⟩ := id KF
    go_wp2
    go_ret
    exact ⟨rfl, hB⟩
  have S1 := hd (fun a b la lb ca cb w h1 h2 => sNatMul a b la lb ca cb xs zs w h1 h2)
  have S2 := hd (fun a b la lb ca cb w h1 h2 => sNatMul a b la lb ca cb ys zs w h1 h2)
  rw [hx, show resN true (val xs * val zs) = natL (val xs * val zs) from rfl] at S1
  rw [hy, show resN true (val ys * val zs) = natL (val ys * val zs) from rfl] at S2
  by_cases hz : val zs = 0
  · skip
    have FO := hd (fun a a' ca cb w h1 h2 h3 => mFracOfN (b := bf) (xs := xs) (ys := ys) hz a a' ca cb w h1 h2 h3)
    have hzl : (zs.length : Int) = 0 := by
      have c := natOk_canon (mulB_in hx).2.1
      rw [hz, natL_zero] at c
      rw [← c]; rfl
    clear hx hy hz hfh D1
    generalize natL (val xs * val zs) = pl at *
    generalize natL (val ys * val zs) = ql at *
    go_wp2_with fail
    refine (S1.out _ _ _ _ _ _ _ X.inI Z.inI).mono ?_
    rintro e w2 ⟨⟨avP, cvP, rfl, P⟩, hb2⟩
    clear KFa KFb KFc KFd
    replace X := X.later hb2
    replace Y := Y.later hb2
    replace Z := Z.later hb2
    replace KF := KF.old hb2
    replace hB := old_trans hB hb2
    clear hb2
    obtain ⟨KFa, ⟨KFb, KFc, KFd⟩, -⟩ := id KF
    go_wp2_with fail
    refine (S2.out _ _ _ _ _ _ _ Y.inI Z.inI).mono ?_
    rintro e w3 ⟨⟨avQ, cvQ, rfl, Q⟩, hb3⟩
    clear KFa KFb KFc KFd
    replace X := X.later hb3
    replace Y := Y.later hb3
    replace Z := Z.later hb3
    replace P := P.later hb3
    replace KF := KF.old hb3
    replace hB := old_trans hB hb3
    clear hb3
    obtain ⟨KFa, ⟨KFb, KFc, KFd⟩, -⟩ := id KF
    go_wp2_with fail
    refine (FO.out _ _ _ _ _ P.inI Q.inI (TT.out _ hB)).mono ?_
    rintro e w4 ⟨⟨avG, cvG, avH, cvH, rfl⟩, hb4⟩
    clear KFa KFb KFc KFd
    replace X := X.later hb4
    replace Y := Y.later hb4
    replace Z := Z.later hb4
    replace P := P.later hb4
    replace Q := Q.later hb4
    replace KF := KF.old hb4
    replace hB := old_trans hB hb4
    clear hb4
    obtain ⟨KFa, ⟨KFb, KFc, KFd⟩, -⟩ := id KF
    clear KFa KFb KFc KFd
    have KG_ := Cel3.new w4 (.bool false) (.slice avG 0 cvG) (.slice avH 0 cvH) 25
    have halKG : Below w4.heap.size w4 (w4.alloc (.cells #[.bool false, .slice avG 0 cvG, .slice avH 0 cvH] 25)) := old_alloc (Below.refl _ _) _
    replace X := X.later halKG
    replace Y := Y.later halKG
    replace Z := Z.later halKG
    replace P := P.later halKG
    replace Q := Q.later halKG
    replace KF := KF.old halKG
    replace hB := old_trans hB halKG
    clear halKG
    have KG := KG_
    clear KG_
    obtain ⟨KFa, ⟨KFb, KFc, KFd⟩, -⟩ := id KF
    obtain ⟨KGa, ⟨KGb, KGc, KGd⟩, -⟩ := id KG
    go_wp2
    go_ret
    exact ⟨rfl, hB⟩
  · skip
    have FO := hd (fun a a' ca cb w h1 h2 h3 => mFracOf hfh.out hx hy hz a a' ca cb w h1 h2 h3)
    have FK := hd (fun a a' la lb ca cb w h1 h2 h3 => mFracOk hfh.out a a' la lb ca cb w h1 h2 h3)
    have PF := hd (fun a b a' b' la lb ca cb ca' cb' w h1 h2 h3 h4 => lPwFrac bf a b a' b' la lb ca cb ca' cb' xs ys w h1 h2 h3 h4)
    have hzl : ((zs.length : Int) == 0) = false := beq_eq_false_iff_ne.2 (fun e => hz (by
      obtain rfl : zs = [] := List.length_eq_zero_iff.1 (by omega)
      rfl))
    clear hx hy hz hfh D1
    generalize natL (val xs * val zs) = pl at *
    generalize natL (val ys * val zs) = ql at *
    go_wp2_with fail
    refine (S1.out _ _ _ _ _ _ _ X.inI Z.inI).mono ?_
    rintro e w2 ⟨⟨avP, cvP, rfl, P⟩, hb2⟩
    clear KFa KFb KFc KFd
    replace X := X.later hb2
    replace Y := Y.later hb2
    replace Z := Z.later hb2
    replace KF := KF.old hb2
    replace hB := old_trans hB hb2
    clear hb2
    obtain ⟨KFa, ⟨KFb, KFc, KFd⟩, -⟩ := id KF
    go_wp2_with fail
    refine (S2.out _ _ _ _ _ _ _ Y.inI Z.inI).mono ?_
    rintro e w3 ⟨⟨avQ, cvQ, rfl, Q⟩, hb3⟩
    clear KFa KFb KFc KFd
    replace X := X.later hb3
    replace Y := Y.later hb3
    replace Z := Z.later hb3
    replace P := P.later hb3
    replace KF := KF.old hb3
    replace hB := old_trans hB hb3
    clear hb3
    obtain ⟨KFa, ⟨KFb, KFc, KFd⟩, -⟩ := id KF
    go_wp2_with fail
    refine (FO.out _ _ _ _ _ P.inI Q.inI (TT.out _ hB)).mono ?_
    rintro e w4 ⟨⟨avG, cvG, avH, cvH, rfl, G, H⟩, hb4⟩
    clear KFa KFb KFc KFd
    replace X := X.later hb4
    replace Y := Y.later hb4
    replace Z := Z.later hb4
    replace P := P.later hb4
    replace Q := Q.later hb4
    replace KF := KF.old hb4
    replace hB := old_trans hB hb4
    clear hb4
    obtain ⟨KFa, ⟨KFb, KFc, KFd⟩, -⟩ := id KF
    clear P Q
    clear KFa KFb KFc KFd
    have KG_ := Cel3.new w4 (.bool bf) (.slice avG xs.length cvG) (.slice avH ys.length cvH) 25
    have halKG : Below w4.heap.size w4 (w4.alloc (.cells #[.bool bf, .slice avG xs.length cvG, .slice avH ys.length cvH] 25)) := old_alloc (Below.refl _ _) _
    replace X := X.later halKG
    replace Y := Y.later halKG
    replace Z := Z.later halKG
    replace G := G.later halKG
    replace H := H.later halKG
    replace KF := KF.old halKG
    replace hB := old_trans hB halKG
    clear halKG
    have KG := KG_
    clear KG_
    obtain ⟨KFa, ⟨KFb, KFc, KFd⟩, -⟩ := id KF
    obtain ⟨KGa, ⟨KGb, KGc, KGd⟩, -⟩ := id KG
    go_wp2_with fail
    refine (FK.out _ _ _ _ _ _ _ X.inI Y.inI (TT.out _ hB)).mono ?_
    rintro e w5 ⟨rfl, hb5⟩
    clear KFa KFb KFc KFd KGa KGb KGc KGd
    replace X := X.later hb5
    replace Y := Y.later hb5
    replace Z := Z.later hb5
    replace G := G.later hb5
    replace H := H.later hb5
    replace KF := KF.old hb5
    replace KG := KG.old hb5
    replace hB := old_trans hB hb5
    clear hb5
    obtain ⟨KFa, ⟨KFb, KFc, KFd⟩, -⟩ := id KF
    obtain ⟨KGa, ⟨KGb, KGc, KGd⟩, -⟩ := id KG
    go_wp2_with fail
    refine (PF.out _ _ _ _ _ _ _ _ _ _ _ X.inI Y.inI G.inI H.inI).mono ?_
    rintro e w6 ⟨rfl, hb6⟩
    clear KFa KFb KFc KFd KGa KGb KGc KGd
    replace X := X.later hb6
    replace Y := Y.later hb6
    replace Z := Z.later hb6
    replace G := G.later hb6
    replace H := H.later hb6
    replace KF := KF.old hb6
    replace KG := KG.old hb6
    replace hB := old_trans hB hb6
    clear hb6
    obtain ⟨KFa, ⟨KFb, KFc, KFd⟩, -⟩ := id KF
    obtain ⟨KGa, ⟨KGb, KGc, KGd⟩, -⟩ := id KG
    go_wp2
    go_ret
    exact ⟨rfl, hB⟩

set_option maxRecDepth 100000 in
theorem FnFracMake_lifted (os : Os) (started : os.Started) (H : Type) (enc : TypeId × Value → H) :
    ReturnsInHanded {} Tryd.checked os 3 .any (fun w args => (Rows.fnFracMakeSpec.pre enc Tryd.prog Tryd.f3 [] false w args ∧ laidMetH Tryd.prog LHL w) ∧ sizedMet enc Tryd.prog Tryd.f3 (OpenSpec.ofChange Rows.fnFracMakeSpec) false w args)
      (Rows.fnFracMakeSpec.post enc Tryd.prog Tryd.f3 false true false false) := by
  refine returnsInHanded_of_change_and (C := Tryd.checked) (X := fun w _ => laidMetH Tryd.prog LHL w) (fun _ _ _ hh h => h.of_heap hh) LH_own started (by kernel_rfl) Tryd.func3
    (ChangeSpec.witness_shaped (enc := enc) (C := Tryd.checked) (os := os) (X := fun w _ => laidMetH Tryd.prog LHL w) false (World.doorLaid Tryd.prog LH_fuel os) #[.slice none 0 0, .slice none 0 0] 8 rfl (LH_shaped os _) (by kernel_rfl) (by kernel_rfl) (by kernel_rfl) (LH_met os _)) ?_
  intro W base args ds gs before hval0 hW _ _ hL _
  have hval : ∀ (j : Nat) t v, Tryd.f3.params[j]? = some t → args[j]? = some v → Value.okWide Tryd.prog W .any base t v := hval0
  have hW' := hW
  obtain ⟨p, q, hA0, hV, rfl, hfz, hnd⟩ := hW
  have hA : DataW.TrodAll enc Tryd.prog W 0 (fun _ => true) true Tryd.f3.params.toList args.toList ds p := hA0
  rw [Tryd.params3] at hA hval
  obtain ⟨v0, vs0, d0, ds0, p0, q0, hargs, rfl, rfl, h0, r0⟩ := trodAll_cons hA
  obtain ⟨v1, vs1, d1, ds1, p1, q1, rfl, rfl, rfl, h1, r1⟩ := trodAll_cons r0
  obtain ⟨rfl, rfl, rfl⟩ := trodAll_nil r1
  obtain rfl : args = #[v0, v1] := by cases args; simp_all
  obtain ⟨rfl, rfl⟩ := trodVars_none hV
  have k0 := h0
  have lt0 : ∀ x ∈ p0, x.block < W.heap.size := by obtain ⟨m, hm⟩ := k0; exact DataW.trod_lt m _ _ _ hm
  obtain ⟨a0, len0, cap0, rfl, wb0⟩ := open_bytes (hval 0 22 v0 rfl rfl) h0
  have k1 := h1
  have lt1 : ∀ x ∈ p1, x.block < W.heap.size := by obtain ⟨m, hm⟩ := k1; exact DataW.trod_lt m _ _ _ hm
  obtain ⟨a1, len1, cap1, rfl, wb1⟩ := open_bytes (hval 1 22 v1 rfl rfl) h1
  clear hA0 hval0
  refine (FnFracMake_walk a0 len0 cap0 a1 len1 cap1 W wb0 wb1 (both_of hL)).mono fun e W' ⟨he, bel⟩ => ?_
  subst he
  exact ⟨_, rfl, _, _, _, [], _, [], hW', trodAll_mk1 (shut_bool Tryd.underlying4 _), (trodAll_cons_mk (Below.trod jf1 (by kernel_rfl) (of_decide_eq_true (by kernel_rfl)) k0 bel lt0) (trodAll_cons_mk (Below.trod jf1 (by kernel_rfl) (of_decide_eq_true (by kernel_rfl)) k1 bel lt1) trodAll_mk0)), rfl, bel.frame _, fun h => by cases h⟩

theorem FnFracMake_k0 : (Rows.fnFracMakeRow.wf (OpenSpec.ofChange Rows.fnFracMakeSpec)) = true := by kernel_rfl
theorem FnFracMake_k3 : (Tryd.f3.params.all (Tryd.prog.readableRec ·)) = true := by kernel_rfl
theorem FnFracMake_k4 : (namedTie Tryd.prog Rows.fnFracMakeRow.named Rows.fnFracMakeSpec.vars) = true := by kernel_rfl
theorem FnFracMake_k5 : ((Rows.fnFracMakeRow.stops == [])) = true := by kernel_rfl
theorem FnFracMake_k7 : ((Rows.fnFracMakeRow.knobs == [])) = true := by kernel_rfl
theorem FnFracMake_k9 : ((Rows.fnFracMakeRow.inPlace == Tryd.prog.inPlace 3)) = true := by kernel_rfl
theorem FnFracMake_k10 : ((Rows.fnFracMakeRow.unfollowed == Tryd.prog.unfollowed 3)) = true := by kernel_rfl
theorem FnFracMake_k11 : ((Rows.fnFracMakeRow.recurses == Tryd.prog.recurses 3)) = true := by kernel_rfl
theorem FnFracMake_k12 : ((Rows.fnFracMakeRow.named == Tryd.prog.varsNamed 3)) = true := by kernel_rfl
theorem FnFracMake_k13 : ((Rows.fnFracMakeRow.maps == (Tryd.f3.params.toList ++ Rows.fnFracMakeSpec.plain.varTypes Tryd.prog).any (Tryd.prog.mapsRec ·))) = true := by kernel_rfl
theorem FnFracMake_k14 : ((Rows.fnFracMakeRow.ifaces == (Tryd.f3.params.toList ++ Rows.fnFracMakeSpec.plain.varTypes Tryd.prog).any (Tryd.prog.ifacesRec ·))) = true := by kernel_rfl
theorem FnFracMake_k15 : ((Rows.fnFracMakeRow.mapsOut == Tryd.prog.mapsAmong Tryd.f3.resultTypes.toList)) = true := by kernel_rfl
theorem FnFracMake_k16 : ((Rows.fnFracMakeRow.loops == (Tryd.f3.params.toList ++ Rows.fnFracMakeSpec.plain.varTypes Tryd.prog).any (Tryd.prog.loopsFrom ·))) = true := by kernel_rfl
theorem FnFracMake_k17 : ((Rows.fnFracMakeRow.wideKeys == (Tryd.f3.params.toList ++ Rows.fnFracMakeSpec.plain.varTypes Tryd.prog ++ Tryd.f3.resultTypes.toList).any (Tryd.prog.wideKeysFrom ·))) = true := by kernel_rfl
theorem FnFracMake_k18 : (Rows.fnFracMakeSpec.vars.all (Tryd.prog.varReadable ·)) = true := by kernel_rfl
theorem FnFracMake_k19 : (Tryd.f3.resultTypes.all (fun t => Tryd.prog.readableRec t && decide (t < Tryd.prog.types.size))) = true := by kernel_rfl
theorem FnFracMake_k20 : ((Rows.fnFracMakeRow.ifacesOut == Tryd.f3.resultTypes.toList.any (Tryd.prog.ifacesRec ·))) = true := by kernel_rfl
theorem FnFracMake_k21 : ((Rows.fnFracMakeRow.loopsOut == Tryd.f3.resultTypes.toList.any (Tryd.prog.loopsFrom ·))) = true := by kernel_rfl
theorem FnFracMake_k23 : (Rows.fnFracMakeRow.shortTexts.isNone) = true := by kernel_rfl
theorem FnFracMake_k28 : ((Rows.fnFracMakeRow.kinds == (if Rows.fnFracMakeRow.domain.isEmpty then [] else Tryd.f3.params.toList.map fun t => match Tryd.prog.underlying t with | some (.int k) => some k | _ => none))) = true := by kernel_rfl
theorem FnFracMake_k29 : ((Rows.fnFracMakeRow.pinned == Rows.fnFracMakeRow.pinnedBy)) = true := by kernel_rfl
theorem FnFracMake_k30 : ((Rows.fnFracMakeRow.veiled == (Tryd.f3.params.toList ++ Rows.fnFracMakeSpec.plain.varTypes Tryd.prog ++ Tryd.f3.resultTypes.toList).any (Tryd.prog.veiledRec ·))) = true := by kernel_rfl
theorem FnFracMake_k31 : (Rows.fnFracMakeRow.veiledFits Tryd.prog Tryd.f3.params.toList (Tryd.f3.params.toList ++ Rows.fnFracMakeSpec.plain.varTypes Tryd.prog ++ Tryd.f3.resultTypes.toList)) = true := by kernel_rfl
set_option maxRecDepth 100000 in
theorem FnFracMake_closed : joinedFacts Tryd.prog 3 Tryd.f3 Rows.fnFracMakeSpec Rows.fnFracMakeRow = true := (and2 (and2 (and2 (and2 (and2 (and2 (and2 (and2 (and2 (and2 (and2 (and2 (and2 (and2 (and2 (and2 (and2 (and2 (and2 (and2 (and2 (and2 (and2 (and2 (and2 (and2 (and2 (and2 (and2 (and2 (and2 FnFracMake_k0 jf1) jf2) FnFracMake_k3) FnFracMake_k4) FnFracMake_k5) jf6) FnFracMake_k7) jf8) FnFracMake_k9) FnFracMake_k10) FnFracMake_k11) FnFracMake_k12) FnFracMake_k13) FnFracMake_k14) FnFracMake_k15) FnFracMake_k16) FnFracMake_k17) FnFracMake_k18) FnFracMake_k19) FnFracMake_k20) FnFracMake_k21) jf22) FnFracMake_k23) jf24) jf25) jf26) jf27) FnFracMake_k28) FnFracMake_k29) FnFracMake_k30) FnFracMake_k31)
theorem FnFracMake_row : Rows.FnFracMakeSaid :=
  OpenClaim.holds_of_wide 3 Tryd.f3 rfl rfl rfl rfl rfl rfl rfl ⟨rfl, rfl, rfl, rfl, rfl⟩ rfl rfl rfl rfl rfl (by kernel_rfl) Tryd.func3 FnFracMake_closed
    (of_decide_eq_true (by kernel_rfl)) (by unfold Func.isWrapper; first | (rw [if_pos (by decide +kernel)]; kernel_rfl) | (rw [if_neg (by decide +kernel)]; exact ⟨rfl, rfl⟩))
    (fun os started H enc _ => FnFracMake_lifted os started H enc)

theorem FnFracMake_proved : Rows.FnFracMakeCardSaid :=
  Claim7.holds_tied_plain_at .later [] [.data, .data, .handle] true (true, "7367b1972b2987b42abd2f526ac2833b3b2f7db15fdaa18e90304feb65f9311f") true
    FnFracMake_row (fun _ h => by cases h) (by kernel_rfl) (fun _ h => by cases h) fnFracMake_row_tie rfl ⟨rfl, rfl⟩ (by kernel_rfl) rfl
    (fun f fn hf hfn => by
      obtain rfl : f = 3 := Option.some.inj ((show Tryd.prog.funcNamed "loop.example/pinfold/laws.FnFracMake" = some 3 by kernel_rfl).symm.trans hf) |>.symm
      obtain rfl : fn = Tryd.f3 := (Option.some.inj (Tryd.func3.symm.trans hfn)).symm
      exact ⟨by kernel_rfl, fun j t ht => by
        rw [Tryd.params3] at ht
        have hm : t ∈ [22, 22] := by simpa using Array.mem_of_getElem? ht
        have hall : ([22, 22].all fun u => !Tryd.prog.wantsStandIn u) = true := by kernel_rfl
        exact (show Tryd.prog.wantsStandIn t = false by simpa using List.all_eq_true.1 hall t hm)⟩)
    (by kernel_rfl)
end Go.Proofs.YtekhokemekaeoaaDoor
