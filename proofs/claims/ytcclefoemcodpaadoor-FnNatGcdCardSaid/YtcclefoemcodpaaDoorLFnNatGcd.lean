/- For every code of bytes, of the two lists drawn from it: the program's NatGcd answers as the specification's, the same with both changed round; it divides both without a rest, and the quotients have no divisor but 1 in common. The law answers true; nothing that was there is written. Condition: the library's table holds what its text lays (the card ties it). -/
import Derived.Test.YtcclefoemcodpaaDoorRows
import Derived.Test.YtcclefoemcodpaaDoorTie
import Derived.Test.YtcclefoemcodpaaDoorCards
import Derived.WalkKit
import Derived.ProofKit
import Derived.OpenShut
import Derived.Below
import Derived.Carry
import Derived.Test.YtcclefoemcodpaaDoorN0
import Derived.Test.YtcclefoemcodpaaDoorLT
import Derived.Test.YtcclefoemcodpaaDoorUR
import Derived.Test.YtcclefoemcodpaaDoorUM
import Derived.Test.YtcclefoemcodpaaDoorBJ
namespace Go.Proofs.YtcclefoemcodpaaDoor
open Go.ChangeShapes Go.WideShapes Go.ChangeAt Go.RowKit
set_option linter.unusedVariables false

set_option maxRecDepth 100000 in
set_option maxHeartbeats 16000000 in
theorem FnNatGcd_walk (a0 : Option Addr) (len0 cap0 : Nat) (w : World) (wb0 : IsCode w a0 len0 cap0) (hT : Tab w) :
    Calls Tryd.prog 3 #[.slice a0 len0 cap0] w fun e w' => e = .returned (.bool true) ∧ Below w.heap.size w w' := by
  have hlen0 := wb0.2.1
  have hle0 := wb0.1
  by_cases c0 : (len0 : Int) ≤ 1048576
  case neg =>
    have c0' : (1048576 : Int) < (len0 : Int) := by omega
    go_enter Tryd.func3, Tryd.ntmps3
    go_wp2
    go_ret
    exact ⟨rfl, (by repeat (first | exact Below.refl _ _ | refine Below.drew ?_ | refine old_alloc ?_ _ | refine old_trans ?_ (by assumption)))⟩
  have D0 := hd (drawNatGcd w a0 len0 cap0 wb0)
  clear wb0 hlen0 hle0
  go_enter Tryd.func3, Tryd.ntmps3
  go_wp2_with fail
  refine D0.out.mono ?_
  rintro e w0 ⟨⟨avA, cvA, xs, avB, cvB, ys, rfl, A, B, -, -⟩, hB⟩
  clear D0 c0
  have PS := hd (fun a a' len cap cap' xs w h h' => lPwSame a a' len cap cap' xs w h h')
  have TT := hd (fun (w' : World) (h : Below w.heap.size w w') => hT.old h)
  clear hT
  cases hx : natOk xs
  · skip
    have hgf : gcdB xs ys = false := by unfold gcdB; rw [hx]; rfl
    have hgg : gcdB ys xs = false := by unfold gcdB; rw [hx]; cases natOk ys <;> rfl
    have GD := hd (fun a b la lb ca cb w h1 h2 hT => imGcdN hgf a b la lb ca cb w h1 h2 hT)
    have GE := hd (fun a b la lb ca cb w h1 h2 hT => imGcdN hgg a b la lb ca cb w h1 h2 hT)
    have SG := hd (fun a b la lb ca cb w h1 h2 => smGcdN hgf a b la lb ca cb w h1 h2)
    clear hgf hgg
    go_wp2_with fail
    refine (GD.out _ _ _ _ _ _ _ A.inI B.inI (TT.out _ hB)).mono ?_
    rintro e w1 ⟨⟨avG, cvG, rfl, G⟩, hb1⟩
    replace A := A.later hb1
    replace B := B.later hb1
    replace hB := old_trans hB hb1
    clear hb1
    go_wp2_with fail
    refine (GE.out _ _ _ _ _ _ _ B.inI A.inI (TT.out _ hB)).mono ?_
    rintro e w2 ⟨⟨avH, cvH, rfl, H⟩, hb2⟩
    replace A := A.later hb2
    replace B := B.later hb2
    replace G := G.later hb2
    replace hB := old_trans hB hb2
    clear hb2
    go_wp2_with fail
    refine (SG.out _ _ _ _ _ _ _ A.inI B.inI).mono ?_
    rintro e w3 ⟨⟨avW, cvW, rfl, W⟩, hb3⟩
    replace A := A.later hb3
    replace B := B.later hb3
    replace G := G.later hb3
    replace H := H.later hb3
    replace hB := old_trans hB hb3
    clear hb3
    go_wp2_with fail
    refine (PS.out _ _ _ _ _ _ _ G.inI W.inI).mono ?_
    rintro e w4 ⟨rfl, hb4⟩
    replace A := A.later hb4
    replace B := B.later hb4
    replace G := G.later hb4
    replace H := H.later hb4
    replace W := W.later hb4
    replace hB := old_trans hB hb4
    clear hb4
    go_wp2_with fail
    refine (PS.out _ _ _ _ _ _ _ G.inI H.inI).mono ?_
    rintro e w5 ⟨rfl, hb5⟩
    replace A := A.later hb5
    replace B := B.later hb5
    replace G := G.later hb5
    replace H := H.later hb5
    replace W := W.later hb5
    replace hB := old_trans hB hb5
    clear hb5
    go_wp2
    go_ret
    exact ⟨rfl, hB⟩
  cases hy : natOk ys
  · skip
    have hgf : gcdB xs ys = false := by unfold gcdB; rw [hx, hy]; rfl
    have hgg : gcdB ys xs = false := by unfold gcdB; rw [hy]; rfl
    have GD := hd (fun a b la lb ca cb w h1 h2 hT => imGcdN hgf a b la lb ca cb w h1 h2 hT)
    have GE := hd (fun a b la lb ca cb w h1 h2 hT => imGcdN hgg a b la lb ca cb w h1 h2 hT)
    have SG := hd (fun a b la lb ca cb w h1 h2 => smGcdN hgf a b la lb ca cb w h1 h2)
    clear hgf hgg
    go_wp2_with fail
    refine (GD.out _ _ _ _ _ _ _ A.inI B.inI (TT.out _ hB)).mono ?_
    rintro e w1 ⟨⟨avG, cvG, rfl, G⟩, hb1⟩
    replace A := A.later hb1
    replace B := B.later hb1
    replace hB := old_trans hB hb1
    clear hb1
    go_wp2_with fail
    refine (GE.out _ _ _ _ _ _ _ B.inI A.inI (TT.out _ hB)).mono ?_
    rintro e w2 ⟨⟨avH, cvH, rfl, H⟩, hb2⟩
    replace A := A.later hb2
    replace B := B.later hb2
    replace G := G.later hb2
    replace hB := old_trans hB hb2
    clear hb2
    go_wp2_with fail
    refine (SG.out _ _ _ _ _ _ _ A.inI B.inI).mono ?_
    rintro e w3 ⟨⟨avW, cvW, rfl, W⟩, hb3⟩
    replace A := A.later hb3
    replace B := B.later hb3
    replace G := G.later hb3
    replace H := H.later hb3
    replace hB := old_trans hB hb3
    clear hb3
    go_wp2_with fail
    refine (PS.out _ _ _ _ _ _ _ G.inI W.inI).mono ?_
    rintro e w4 ⟨rfl, hb4⟩
    replace A := A.later hb4
    replace B := B.later hb4
    replace G := G.later hb4
    replace H := H.later hb4
    replace W := W.later hb4
    replace hB := old_trans hB hb4
    clear hb4
    go_wp2_with fail
    refine (PS.out _ _ _ _ _ _ _ G.inI H.inI).mono ?_
    rintro e w5 ⟨rfl, hb5⟩
    replace A := A.later hb5
    replace B := B.later hb5
    replace G := G.later hb5
    replace H := H.later hb5
    replace W := W.later hb5
    replace hB := old_trans hB hb5
    clear hb5
    go_wp2
    go_ret
    exact ⟨rfl, hB⟩
  obtain ⟨X, rfl, lx⟩ := okX hx
  obtain ⟨Y, rfl, ly⟩ := okX hy
  clear hx hy
  by_cases h0 : X = 0 ∧ Y = 0
  · skip
    obtain ⟨rfl, rfl⟩ := h0
    have GD := hd (fun a b ca cb w h1 h2 hT => imGcd (X := 0) (Y := 0) (Z := 0) rfl lx ly a b ca cb w h1 h2 hT)
    have GE := hd (fun a b ca cb w h1 h2 hT => imGcd (X := 0) (Y := 0) (Z := 0) rfl lx ly a b ca cb w h1 h2 hT)
    have SG := hd (fun a b ca cb w h1 h2 => smGcd (X := 0) (Y := 0) (Z := 0) rfl lx ly a b ca cb w h1 h2)
    rw [natL_zero] at *
    clear lx ly
    go_wp2_with fail
    refine (GD.out _ _ _ _ _ A.inI B.inI (TT.out _ hB)).mono ?_
    rintro e w1 ⟨⟨avG, cvG, rfl, G⟩, hb1⟩
    replace A := A.later hb1
    replace B := B.later hb1
    replace hB := old_trans hB hb1
    clear hb1
    go_wp2_with fail
    refine (GE.out _ _ _ _ _ B.inI A.inI (TT.out _ hB)).mono ?_
    rintro e w2 ⟨⟨avH, cvH, rfl, H⟩, hb2⟩
    replace A := A.later hb2
    replace B := B.later hb2
    replace G := G.later hb2
    replace hB := old_trans hB hb2
    clear hb2
    go_wp2_with fail
    refine (SG.out _ _ _ _ _ A.inI B.inI).mono ?_
    rintro e w3 ⟨⟨avW, cvW, rfl, W⟩, hb3⟩
    replace A := A.later hb3
    replace B := B.later hb3
    replace G := G.later hb3
    replace H := H.later hb3
    replace hB := old_trans hB hb3
    clear hb3
    go_wp2_with fail
    refine (PS.out _ _ _ _ _ _ _ G.inI W.inI).mono ?_
    rintro e w4 ⟨rfl, hb4⟩
    replace A := A.later hb4
    replace B := B.later hb4
    replace G := G.later hb4
    replace H := H.later hb4
    replace W := W.later hb4
    replace hB := old_trans hB hb4
    clear hb4
    go_wp2_with fail
    refine (PS.out _ _ _ _ _ _ _ G.inI H.inI).mono ?_
    rintro e w5 ⟨rfl, hb5⟩
    replace A := A.later hb5
    replace B := B.later hb5
    replace G := G.later hb5
    replace H := H.later hb5
    replace W := W.later hb5
    replace hB := old_trans hB hb5
    clear hb5
    go_wp2
    go_ret
    exact ⟨rfl, hB⟩
  have hg0 : Nat.gcd X Y ≠ 0 := fun e => h0 (Nat.gcd_eq_zero_iff.1 e)
  have hcas : (((natL X).length : Int) == 0) = false ∨ ((((natL X).length : Int) == 0) = true ∧ (((natL Y).length : Int) == 0) = false) := by
    by_cases c : X = 0
    · have hy0 : Y ≠ 0 := fun e => h0 ⟨c, e⟩
      have := natL_ne hy0
      exact .inr ⟨by rw [c, natL_zero]; rfl, beq_eq_false_iff_ne.2 (by omega)⟩
    · have := natL_ne c
      exact .inl (beq_eq_false_iff_ne.2 (by omega))
  have hdx : Nat.gcd X Y ∣ X := Nat.gcd_dvd_left X Y
  have hdy : Nat.gcd X Y ∣ Y := Nat.gcd_dvd_right X Y
  have lg : (natL (Nat.gcd X Y)).length ≤ 256 := by
    rcases Nat.eq_zero_or_pos X with c | c
    · rw [c, Nat.gcd_zero_left]; exact ly
    · exact Nat.le_trans (natL_le (Nat.le_of_dvd c hdx)) lx
  have GD := hd (fun a b ca cb w h1 h2 hT => imGcd (X := X) (Y := Y) rfl lx ly a b ca cb w h1 h2 hT)
  have GE := hd (fun a b ca cb w h1 h2 hT => imGcd (X := Y) (Y := X) (Nat.gcd_comm Y X) ly lx a b ca cb w h1 h2 hT)
  have SG := hd (fun a b ca cb w h1 h2 => smGcd (X := X) (Y := Y) rfl lx ly a b ca cb w h1 h2)
  have D1 := hd (fun a b ca cb w h1 h2 => imDiv (X := X) (Y := Nat.gcd X Y) rfl (Nat.mod_eq_zero_of_dvd hdx) hg0 lx lg a b ca cb w h1 h2)
  have D2 := hd (fun a b ca cb w h1 h2 => imDiv (X := Y) (Y := Nat.gcd X Y) rfl (Nat.mod_eq_zero_of_dvd hdy) hg0 ly lg a b ca cb w h1 h2)
  have lq1 : (natL (X / Nat.gcd X Y)).length ≤ 256 := Nat.le_trans (natL_le (Nat.div_le_self _ _)) lx
  have lq2 : (natL (Y / Nat.gcd X Y)).length ≤ 256 := Nat.le_trans (natL_le (Nat.div_le_self _ _)) ly
  have GF := hd (fun a b ca cb w h1 h2 hT => imGcd (gcd_cop hg0) lq1 lq2 a b ca cb w h1 h2 hT)
  have hone := hd (fun w => one_oi w 3)
  simp only [one_natL, List.length_singleton] at GF hone
  simp only [natL_zero, List.length_nil] at D1 D2
  clear hg0 hdx hdy lg lq1 lq2 lx ly h0
  generalize natL (X / Nat.gcd X Y) = pl at *
  generalize natL (Y / Nat.gcd X Y) = ql at *
  generalize natL (Nat.gcd X Y) = gl at *
  generalize natL X = xl at *
  generalize natL Y = yl at *
  rcases hcas with hc | ⟨hc, hc'⟩
  · skip
    go_wp2_with fail
    refine (GD.out _ _ _ _ _ A.inI B.inI (TT.out _ hB)).mono ?_
    rintro e w1 ⟨⟨avG, cvG, rfl, G⟩, hb1⟩
    replace A := A.later hb1
    replace B := B.later hb1
    replace hB := old_trans hB hb1
    clear hb1
    go_wp2_with fail
    refine (GE.out _ _ _ _ _ B.inI A.inI (TT.out _ hB)).mono ?_
    rintro e w2 ⟨⟨avH, cvH, rfl, H⟩, hb2⟩
    replace A := A.later hb2
    replace B := B.later hb2
    replace G := G.later hb2
    replace hB := old_trans hB hb2
    clear hb2
    go_wp2_with fail
    refine (SG.out _ _ _ _ _ A.inI B.inI).mono ?_
    rintro e w3 ⟨⟨avW, cvW, rfl, W⟩, hb3⟩
    replace A := A.later hb3
    replace B := B.later hb3
    replace G := G.later hb3
    replace H := H.later hb3
    replace hB := old_trans hB hb3
    clear hb3
    go_wp2_with fail
    refine (PS.out _ _ _ _ _ _ _ G.inI W.inI).mono ?_
    rintro e w4 ⟨rfl, hb4⟩
    replace A := A.later hb4
    replace B := B.later hb4
    replace G := G.later hb4
    replace H := H.later hb4
    replace W := W.later hb4
    replace hB := old_trans hB hb4
    clear hb4
    go_wp2_with fail
    refine (PS.out _ _ _ _ _ _ _ G.inI H.inI).mono ?_
    rintro e w5 ⟨rfl, hb5⟩
    replace A := A.later hb5
    replace B := B.later hb5
    replace G := G.later hb5
    replace H := H.later hb5
    replace W := W.later hb5
    replace hB := old_trans hB hb5
    clear hb5
    clear H W
    go_wp2_with fail
    refine (D1.out _ _ _ _ _ A.inI G.inI).mono ?_
    rintro e w6 ⟨⟨avP, cvP, avR, cvR, rfl, P, R⟩, hb6⟩
    replace A := A.later hb6
    replace B := B.later hb6
    replace G := G.later hb6
    replace hB := old_trans hB hb6
    clear hb6
    go_wp2_with fail
    refine (D2.out _ _ _ _ _ B.inI G.inI).mono ?_
    rintro e w7 ⟨⟨avQ, cvQ, avS, cvS, rfl, Q, S⟩, hb7⟩
    replace A := A.later hb7
    replace B := B.later hb7
    replace G := G.later hb7
    replace P := P.later hb7
    replace hB := old_trans hB hb7
    clear hb7
    clear R S
    go_wp2_with fail
    refine (GF.out _ _ _ _ _ P.inI Q.inI (TT.out _ hB)).mono ?_
    rintro e w8 ⟨⟨avO, cvO, rfl, O⟩, hb8⟩
    replace A := A.later hb8
    replace B := B.later hb8
    replace G := G.later hb8
    replace P := P.later hb8
    replace Q := Q.later hb8
    replace hB := old_trans hB hb8
    clear hb8
    have al : Below w8.heap.size w8 (w8.alloc (.cells #[.int .i64 1] 3)) := old_alloc (Below.refl _ _) _
    have ON := hone.out w8
    replace O := O.later al
    replace hB := old_trans hB al
    clear al A B G P Q
    go_wp2_with fail
    refine (PS.out _ _ _ _ _ _ _ O.inI ON.inI).mono ?_
    rintro e w9 ⟨rfl, hb9⟩
    replace O := O.later hb9
    replace hB := old_trans hB hb9
    clear hb9
    go_wp2
    go_ret
    exact ⟨rfl, hB⟩
  · skip
    go_wp2_with fail
    refine (GD.out _ _ _ _ _ A.inI B.inI (TT.out _ hB)).mono ?_
    rintro e w1 ⟨⟨avG, cvG, rfl, G⟩, hb1⟩
    replace A := A.later hb1
    replace B := B.later hb1
    replace hB := old_trans hB hb1
    clear hb1
    go_wp2_with fail
    refine (GE.out _ _ _ _ _ B.inI A.inI (TT.out _ hB)).mono ?_
    rintro e w2 ⟨⟨avH, cvH, rfl, H⟩, hb2⟩
    replace A := A.later hb2
    replace B := B.later hb2
    replace G := G.later hb2
    replace hB := old_trans hB hb2
    clear hb2
    go_wp2_with fail
    refine (SG.out _ _ _ _ _ A.inI B.inI).mono ?_
    rintro e w3 ⟨⟨avW, cvW, rfl, W⟩, hb3⟩
    replace A := A.later hb3
    replace B := B.later hb3
    replace G := G.later hb3
    replace H := H.later hb3
    replace hB := old_trans hB hb3
    clear hb3
    go_wp2_with fail
    refine (PS.out _ _ _ _ _ _ _ G.inI W.inI).mono ?_
    rintro e w4 ⟨rfl, hb4⟩
    replace A := A.later hb4
    replace B := B.later hb4
    replace G := G.later hb4
    replace H := H.later hb4
    replace W := W.later hb4
    replace hB := old_trans hB hb4
    clear hb4
    go_wp2_with fail
    refine (PS.out _ _ _ _ _ _ _ G.inI H.inI).mono ?_
    rintro e w5 ⟨rfl, hb5⟩
    replace A := A.later hb5
    replace B := B.later hb5
    replace G := G.later hb5
    replace H := H.later hb5
    replace W := W.later hb5
    replace hB := old_trans hB hb5
    clear hb5
    clear H W
    go_wp2_with fail
    refine (D1.out _ _ _ _ _ A.inI G.inI).mono ?_
    rintro e w6 ⟨⟨avP, cvP, avR, cvR, rfl, P, R⟩, hb6⟩
    replace A := A.later hb6
    replace B := B.later hb6
    replace G := G.later hb6
    replace hB := old_trans hB hb6
    clear hb6
    go_wp2_with fail
    refine (D2.out _ _ _ _ _ B.inI G.inI).mono ?_
    rintro e w7 ⟨⟨avQ, cvQ, avS, cvS, rfl, Q, S⟩, hb7⟩
    replace A := A.later hb7
    replace B := B.later hb7
    replace G := G.later hb7
    replace P := P.later hb7
    replace hB := old_trans hB hb7
    clear hb7
    clear R S
    go_wp2_with fail
    refine (GF.out _ _ _ _ _ P.inI Q.inI (TT.out _ hB)).mono ?_
    rintro e w8 ⟨⟨avO, cvO, rfl, O⟩, hb8⟩
    replace A := A.later hb8
    replace B := B.later hb8
    replace G := G.later hb8
    replace P := P.later hb8
    replace Q := Q.later hb8
    replace hB := old_trans hB hb8
    clear hb8
    have al : Below w8.heap.size w8 (w8.alloc (.cells #[.int .i64 1] 3)) := old_alloc (Below.refl _ _) _
    have ON := hone.out w8
    replace O := O.later al
    replace hB := old_trans hB al
    clear al A B G P Q
    go_wp2_with fail
    refine (PS.out _ _ _ _ _ _ _ O.inI ON.inI).mono ?_
    rintro e w9 ⟨rfl, hb9⟩
    replace O := O.later hb9
    replace hB := old_trans hB hb9
    clear hb9
    go_wp2
    go_ret
    exact ⟨rfl, hB⟩

set_option maxRecDepth 100000 in
theorem FnNatGcd_lifted (os : Os) (started : os.Started) (H : Type) (enc : TypeId × Value → H) :
    ReturnsInHanded {} Tryd.checked os 3 .any (fun w args => (Rows.fnNatGcdSpec.pre enc Tryd.prog Tryd.f3 [] false w args ∧ laidMetH Tryd.prog LTL w) ∧ sizedMet enc Tryd.prog Tryd.f3 (OpenSpec.ofChange Rows.fnNatGcdSpec) false w args)
      (Rows.fnNatGcdSpec.post enc Tryd.prog Tryd.f3 false true false false) := by
  refine returnsInHanded_of_change_and (C := Tryd.checked) (X := fun w _ => laidMetH Tryd.prog LTL w) (fun _ _ _ hh h => h.of_heap hh) LT_own started (by kernel_rfl) Tryd.func3
    (ChangeSpec.witness_shaped (enc := enc) (C := Tryd.checked) (os := os) (X := fun w _ => laidMetH Tryd.prog LTL w) false (World.doorLaid Tryd.prog LT_fuel os) #[.slice none 0 0] 8 rfl (LT_shaped os _) (by kernel_rfl) (by kernel_rfl) (by kernel_rfl) (LT_met os _)) ?_
  intro W base args ds gs before hval0 hW _ _ hL _
  have hval : ∀ (j : Nat) t v, Tryd.f3.params[j]? = some t → args[j]? = some v → Value.okWide Tryd.prog W .any base t v := hval0
  have hW' := hW
  obtain ⟨p, q, hA0, hV, rfl, hfz, hnd⟩ := hW
  have hA : DataW.TrodAll enc Tryd.prog W 0 (fun _ => true) true Tryd.f3.params.toList args.toList ds p := hA0
  rw [Tryd.params3] at hA hval
  obtain ⟨v0, vs0, d0, ds0, p0, q0, hargs, rfl, rfl, h0, r0⟩ := trodAll_cons hA
  obtain ⟨rfl, rfl, rfl⟩ := trodAll_nil r0
  obtain rfl : args = #[v0] := by cases args; simp_all
  obtain ⟨rfl, rfl⟩ := trodVars_none hV
  have k0 := h0
  have lt0 : ∀ x ∈ p0, x.block < W.heap.size := by obtain ⟨m, hm⟩ := k0; exact DataW.trod_lt m _ _ _ hm
  obtain ⟨a0, len0, cap0, rfl, wb0⟩ := open_bytes (hval 0 22 v0 rfl rfl) h0
  clear hA0 hval0
  refine (FnNatGcd_walk a0 len0 cap0 W wb0 (tab_of hL)).mono fun e W' ⟨he, bel⟩ => ?_
  subst he
  exact ⟨_, rfl, _, _, _, [], _, [], hW', trodAll_mk1 (shut_bool Tryd.underlying4 _), (trodAll_cons_mk (Below.trod jf1 (by kernel_rfl) (of_decide_eq_true (by kernel_rfl)) k0 bel lt0) trodAll_mk0), rfl, bel.frame _, fun h => by cases h⟩

theorem FnNatGcd_k0 : (Rows.fnNatGcdRow.wf (OpenSpec.ofChange Rows.fnNatGcdSpec)) = true := by kernel_rfl
theorem FnNatGcd_k3 : (Tryd.f3.params.all (Tryd.prog.readableRec ·)) = true := by kernel_rfl
theorem FnNatGcd_k4 : (namedTie Tryd.prog Rows.fnNatGcdRow.named Rows.fnNatGcdSpec.vars) = true := by kernel_rfl
theorem FnNatGcd_k5 : ((Rows.fnNatGcdRow.stops == [])) = true := by kernel_rfl
theorem FnNatGcd_k7 : ((Rows.fnNatGcdRow.knobs == [])) = true := by kernel_rfl
theorem FnNatGcd_k9 : ((Rows.fnNatGcdRow.inPlace == Tryd.prog.inPlace 3)) = true := by kernel_rfl
theorem FnNatGcd_k10 : ((Rows.fnNatGcdRow.unfollowed == Tryd.prog.unfollowed 3)) = true := by kernel_rfl
theorem FnNatGcd_k11 : ((Rows.fnNatGcdRow.recurses == Tryd.prog.recurses 3)) = true := by kernel_rfl
theorem FnNatGcd_k12 : ((Rows.fnNatGcdRow.named == Tryd.prog.varsNamed 3)) = true := by kernel_rfl
theorem FnNatGcd_k13 : ((Rows.fnNatGcdRow.maps == (Tryd.f3.params.toList ++ Rows.fnNatGcdSpec.plain.varTypes Tryd.prog).any (Tryd.prog.mapsRec ·))) = true := by kernel_rfl
theorem FnNatGcd_k14 : ((Rows.fnNatGcdRow.ifaces == (Tryd.f3.params.toList ++ Rows.fnNatGcdSpec.plain.varTypes Tryd.prog).any (Tryd.prog.ifacesRec ·))) = true := by kernel_rfl
theorem FnNatGcd_k15 : ((Rows.fnNatGcdRow.mapsOut == Tryd.prog.mapsAmong Tryd.f3.resultTypes.toList)) = true := by kernel_rfl
theorem FnNatGcd_k16 : ((Rows.fnNatGcdRow.loops == (Tryd.f3.params.toList ++ Rows.fnNatGcdSpec.plain.varTypes Tryd.prog).any (Tryd.prog.loopsFrom ·))) = true := by kernel_rfl
theorem FnNatGcd_k17 : ((Rows.fnNatGcdRow.wideKeys == (Tryd.f3.params.toList ++ Rows.fnNatGcdSpec.plain.varTypes Tryd.prog ++ Tryd.f3.resultTypes.toList).any (Tryd.prog.wideKeysFrom ·))) = true := by kernel_rfl
theorem FnNatGcd_k18 : (Rows.fnNatGcdSpec.vars.all (Tryd.prog.varReadable ·)) = true := by kernel_rfl
theorem FnNatGcd_k19 : (Tryd.f3.resultTypes.all (fun t => Tryd.prog.readableRec t && decide (t < Tryd.prog.types.size))) = true := by kernel_rfl
theorem FnNatGcd_k20 : ((Rows.fnNatGcdRow.ifacesOut == Tryd.f3.resultTypes.toList.any (Tryd.prog.ifacesRec ·))) = true := by kernel_rfl
theorem FnNatGcd_k21 : ((Rows.fnNatGcdRow.loopsOut == Tryd.f3.resultTypes.toList.any (Tryd.prog.loopsFrom ·))) = true := by kernel_rfl
theorem FnNatGcd_k23 : (Rows.fnNatGcdRow.shortTexts.isNone) = true := by kernel_rfl
theorem FnNatGcd_k28 : ((Rows.fnNatGcdRow.kinds == (if Rows.fnNatGcdRow.domain.isEmpty then [] else Tryd.f3.params.toList.map fun t => match Tryd.prog.underlying t with | some (.int k) => some k | _ => none))) = true := by kernel_rfl
theorem FnNatGcd_k29 : ((Rows.fnNatGcdRow.pinned == Rows.fnNatGcdRow.pinnedBy)) = true := by kernel_rfl
theorem FnNatGcd_k30 : ((Rows.fnNatGcdRow.veiled == (Tryd.f3.params.toList ++ Rows.fnNatGcdSpec.plain.varTypes Tryd.prog ++ Tryd.f3.resultTypes.toList).any (Tryd.prog.veiledRec ·))) = true := by kernel_rfl
theorem FnNatGcd_k31 : (Rows.fnNatGcdRow.veiledFits Tryd.prog Tryd.f3.params.toList (Tryd.f3.params.toList ++ Rows.fnNatGcdSpec.plain.varTypes Tryd.prog ++ Tryd.f3.resultTypes.toList)) = true := by kernel_rfl
set_option maxRecDepth 100000 in
theorem FnNatGcd_closed : joinedFacts Tryd.prog 3 Tryd.f3 Rows.fnNatGcdSpec Rows.fnNatGcdRow = true := (and2 (and2 (and2 (and2 (and2 (and2 (and2 (and2 (and2 (and2 (and2 (and2 (and2 (and2 (and2 (and2 (and2 (and2 (and2 (and2 (and2 (and2 (and2 (and2 (and2 (and2 (and2 (and2 (and2 (and2 (and2 FnNatGcd_k0 jf1) jf2) FnNatGcd_k3) FnNatGcd_k4) FnNatGcd_k5) jf6) FnNatGcd_k7) jf8) FnNatGcd_k9) FnNatGcd_k10) FnNatGcd_k11) FnNatGcd_k12) FnNatGcd_k13) FnNatGcd_k14) FnNatGcd_k15) FnNatGcd_k16) FnNatGcd_k17) FnNatGcd_k18) FnNatGcd_k19) FnNatGcd_k20) FnNatGcd_k21) jf22) FnNatGcd_k23) jf24) jf25) jf26) jf27) FnNatGcd_k28) FnNatGcd_k29) FnNatGcd_k30) FnNatGcd_k31)
theorem FnNatGcd_row : Rows.FnNatGcdSaid :=
  OpenClaim.holds_of_wide 3 Tryd.f3 rfl rfl rfl rfl rfl rfl rfl ⟨rfl, rfl, rfl, rfl, rfl⟩ rfl rfl rfl rfl rfl (by kernel_rfl) Tryd.func3 FnNatGcd_closed
    (of_decide_eq_true (by kernel_rfl)) (by unfold Func.isWrapper; first | (rw [if_pos (by decide +kernel)]; kernel_rfl) | (rw [if_neg (by decide +kernel)]; exact ⟨rfl, rfl⟩))
    (fun os started H enc _ => FnNatGcd_lifted os started H enc)

theorem FnNatGcd_proved : Rows.FnNatGcdCardSaid :=
  Claim7.holds_tied_plain_at .later [] [.data, .data] true (true, "815836fdf5263b1e091690dd95880f613a583bcdbcf3d368c4b89e48652227fe") false
    FnNatGcd_row (fun _ h => by cases h) (by kernel_rfl) (fun _ h => by cases h) fnNatGcd_row_tie rfl ⟨rfl, rfl⟩ (by kernel_rfl) rfl
    (fun f fn hf hfn => by
      obtain rfl : f = 3 := Option.some.inj ((show Tryd.prog.funcNamed "loop.example/pinfold/laws.FnNatGcd" = some 3 by kernel_rfl).symm.trans hf) |>.symm
      obtain rfl : fn = Tryd.f3 := (Option.some.inj (Tryd.func3.symm.trans hfn)).symm
      exact ⟨by kernel_rfl, fun j t ht => by
        rw [Tryd.params3] at ht
        have hm : t ∈ [22] := by simpa using Array.mem_of_getElem? ht
        have hall : ([22].all fun u => !Tryd.prog.wantsStandIn u) = true := by kernel_rfl
        exact (show Tryd.prog.wantsStandIn t = false by simpa using List.all_eq_true.1 hall t hm)⟩)
    (by kernel_rfl)
end Go.Proofs.YtcclefoemcodpaaDoor
