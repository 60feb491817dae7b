/- For every code of bytes, of the two lists drawn from it: the program's NatDiv tells as the specification's whether there is a quotient; quotient times divisor and rest are the first one again, the rest is below the divisor; and what is added comes back by the difference. The law answers true; nothing that was there is written. No condition. -/
import Derived.Test.YtglbbhkfodkljaaRows
import Derived.WalkKit
import Derived.ProofKit
import Derived.OpenShut
import Derived.Below
import Derived.Carry
import Derived.Test.YtglbbhkfodkljaaN0
import Derived.Test.YtglbbhkfodkljaaUL
import Derived.Test.YtglbbhkfodkljaaUM
import Derived.Test.YtglbbhkfodkljaaBJ
namespace Go.Proofs.Ytglbbhkfodkljaa
open Go.ChangeShapes Go.WideShapes Go.ChangeAt Go.RowKit
set_option linter.unusedVariables false

theorem FnNatDiv_own : ownKnob Try.prog.godebug = none := by kernel_rfl

set_option maxRecDepth 100000 in
set_option maxHeartbeats 16000000 in
theorem FnNatDiv_walk (a0 : Option Addr) (len0 cap0 : Nat) (w : World) (wb0 : IsCode w a0 len0 cap0):
    Calls Try.prog 3 #[.slice a0 len0 cap0] w fun e w' => e = .returned (.bool true) ∧ Below w.heap.size w w' := by
  have hlen0 := wb0.2.1
  have hle0 := wb0.1
  by_cases c0 : (len0 : Int) ≤ 1048576
  case neg =>
    have c0' : (1048576 : Int) < (len0 : Int) := by omega
    go_enter Try.func3, Try.ntmps3
    go_wp2
    go_ret
    exact ⟨rfl, (by repeat (first | exact Below.refl _ _ | refine Below.drew ?_ | refine old_alloc ?_ _ | refine old_trans ?_ (by assumption)))⟩
  have D0 := hd (drawNatDiv w a0 len0 cap0 wb0)
  clear wb0 hlen0 hle0
  go_enter Try.func3, Try.ntmps3
  go_wp2_with fail
  refine D0.out.mono ?_
  rintro e w0 ⟨⟨avA, cvA, xs, avB, cvB, ys, rfl, A, B, -, -⟩, hB⟩
  clear D0 c0
  have PS := hd (fun a a' len cap cap' xs w h h' => lPwSame a a' len cap cap' xs w h h')
  cases hx : natOk xs
  · skip
    have hdf : divB xs ys = false := by unfold divB; rw [hx]; rfl
    have haf : addB xs ys = false := by unfold addB; rw [hx]; rfl
    have DV := hd (fun a b la lb ca cb w h1 h2 => imDivN hdf a b la lb ca cb w h1 h2)
    have SV := hd (fun a b la lb ca cb w h1 h2 => smDivN hdf a b la lb ca cb w h1 h2)
    have AD := hd (fun a b la lb ca cb w h1 h2 => imAddN haf a b la lb ca cb w h1 h2)
    have SA := hd (fun a b la lb ca cb w h1 h2 => smAddN haf a b la lb ca cb w h1 h2)
    clear hdf haf PS
    go_wp2_with fail
    refine (DV.out _ _ _ _ _ _ _ A.inI B.inI).mono ?_
    rintro e w1 ⟨⟨_, _, _, _, rfl⟩, hb1⟩
    replace A := A.later hb1
    replace B := B.later hb1
    replace hB := old_trans hB hb1
    clear hb1
    go_wp2_with fail
    refine (SV.out _ _ _ _ _ _ _ A.inI B.inI).mono ?_
    rintro e w2 ⟨⟨_, _, _, _, rfl⟩, hb2⟩
    replace A := A.later hb2
    replace B := B.later hb2
    replace hB := old_trans hB hb2
    clear hb2
    go_wp2_with fail
    refine (AD.out _ _ _ _ _ _ _ A.inI B.inI).mono ?_
    rintro e w3 ⟨⟨_, _, rfl, -⟩, hb3⟩
    replace A := A.later hb3
    replace B := B.later hb3
    replace hB := old_trans hB hb3
    clear hb3
    go_wp2_with fail
    refine (SA.out _ _ _ _ _ _ _ A.inI B.inI).mono ?_
    rintro e w4 ⟨⟨_, _, rfl, -⟩, hb4⟩
    replace A := A.later hb4
    replace B := B.later hb4
    replace hB := old_trans hB hb4
    clear hb4
    go_wp2
    go_ret
    exact ⟨rfl, hB⟩
  cases hy : natOk ys
  · skip
    have hdf : divB xs ys = false := by unfold divB; rw [hx, hy]; rfl
    have haf : addB xs ys = false := by unfold addB; rw [hx, hy]; rfl
    have DV := hd (fun a b la lb ca cb w h1 h2 => imDivN hdf a b la lb ca cb w h1 h2)
    have SV := hd (fun a b la lb ca cb w h1 h2 => smDivN hdf a b la lb ca cb w h1 h2)
    have AD := hd (fun a b la lb ca cb w h1 h2 => imAddN haf a b la lb ca cb w h1 h2)
    have SA := hd (fun a b la lb ca cb w h1 h2 => smAddN haf a b la lb ca cb w h1 h2)
    clear hdf haf PS
    go_wp2_with fail
    refine (DV.out _ _ _ _ _ _ _ A.inI B.inI).mono ?_
    rintro e w1 ⟨⟨_, _, _, _, rfl⟩, hb1⟩
    replace A := A.later hb1
    replace B := B.later hb1
    replace hB := old_trans hB hb1
    clear hb1
    go_wp2_with fail
    refine (SV.out _ _ _ _ _ _ _ A.inI B.inI).mono ?_
    rintro e w2 ⟨⟨_, _, _, _, rfl⟩, hb2⟩
    replace A := A.later hb2
    replace B := B.later hb2
    replace hB := old_trans hB hb2
    clear hb2
    go_wp2_with fail
    refine (AD.out _ _ _ _ _ _ _ A.inI B.inI).mono ?_
    rintro e w3 ⟨⟨_, _, rfl, -⟩, hb3⟩
    replace A := A.later hb3
    replace B := B.later hb3
    replace hB := old_trans hB hb3
    clear hb3
    go_wp2_with fail
    refine (SA.out _ _ _ _ _ _ _ A.inI B.inI).mono ?_
    rintro e w4 ⟨⟨_, _, rfl, -⟩, hb4⟩
    replace A := A.later hb4
    replace B := B.later hb4
    replace hB := old_trans hB hb4
    clear hb4
    go_wp2
    go_ret
    exact ⟨rfl, hB⟩
  obtain ⟨X, rfl, lx⟩ := okX hx
  obtain ⟨Y, rfl, ly⟩ := okX hy
  clear hx hy
  by_cases h0 : Y = 0
  · have lz : (natL (X + Y)).length ≤ 256 := by rw [h0]; exact lx
    have hdf : divB (natL X) (natL Y) = false := by
      unfold divB
      rw [okL lx, okL ly, h0, natL_zero]
      rfl
    have DV := hd (fun a b la lb ca cb w h1 h2 => imDivN hdf a b la lb ca cb w h1 h2)
    have SV := hd (fun a b la lb ca cb w h1 h2 => smDivN hdf a b la lb ca cb w h1 h2)
    have AD := hd (fun a b ca cb w h1 h2 => imAdd (X := X) (Y := Y) rfl lx ly lz a b ca cb w h1 h2)
    have SA := hd (fun a b ca cb w h1 h2 => smAdd (X := X) (Y := Y) rfl lx ly lz a b ca cb w h1 h2)
    have SU := hd (fun a b ca cb w h1 h2 => imSub (X := X + Y) (Y := Y) (Z := X) (by omega) (by omega) lz ly a b ca cb w h1 h2)
    obtain ⟨c, hc, hc0⟩ := cmp_ge (show X ≤ X + Y by omega)
    have C2 := hd (fun a b ca cb w h1 h2 => imCmp hc lz lx a b ca cb w h1 h2)
    clear lx ly lz h0 hdf hc
    generalize natL (X + Y) = sl at *
    generalize natL X = xl at *
    generalize natL Y = yl at *
    go_wp2_with fail
    refine (DV.out _ _ _ _ _ _ _ A.inI B.inI).mono ?_
    rintro e w1 ⟨⟨_, _, _, _, rfl⟩, hb1⟩
    replace A := A.later hb1
    replace B := B.later hb1
    replace hB := old_trans hB hb1
    clear hb1
    go_wp2_with fail
    refine (SV.out _ _ _ _ _ _ _ A.inI B.inI).mono ?_
    rintro e w2 ⟨⟨_, _, _, _, rfl⟩, hb2⟩
    replace A := A.later hb2
    replace B := B.later hb2
    replace hB := old_trans hB hb2
    clear hb2
    go_wp2_with fail
    refine (AD.out _ _ _ _ _ A.inI B.inI).mono ?_
    rintro e w3 ⟨⟨avS, cvS, rfl, S⟩, hb3⟩
    replace A := A.later hb3
    replace B := B.later hb3
    replace hB := old_trans hB hb3
    clear hb3
    go_wp2_with fail
    refine (SA.out _ _ _ _ _ A.inI B.inI).mono ?_
    rintro e w4 ⟨⟨avT, cvT, rfl, T⟩, hb4⟩
    replace A := A.later hb4
    replace B := B.later hb4
    replace S := S.later hb4
    replace hB := old_trans hB hb4
    clear hb4
    clear T
    go_wp2_with fail
    refine (SU.out _ _ _ _ _ S.inI B.inI).mono ?_
    rintro e w5 ⟨⟨avD, cvD, rfl, D⟩, hb5⟩
    replace A := A.later hb5
    replace B := B.later hb5
    replace S := S.later hb5
    replace hB := old_trans hB hb5
    clear hb5
    go_wp2_with fail
    refine (PS.out _ _ _ _ _ _ _ D.inI A.inI).mono ?_
    rintro e w6 ⟨rfl, hb6⟩
    replace A := A.later hb6
    replace B := B.later hb6
    replace S := S.later hb6
    replace D := D.later hb6
    replace hB := old_trans hB hb6
    clear hb6
    go_wp2_with fail
    refine (C2.out _ _ _ _ _ S.inI A.inI).mono ?_
    rintro e w7 ⟨rfl, hb7⟩
    replace A := A.later hb7
    replace B := B.later hb7
    replace S := S.later hb7
    replace D := D.later hb7
    replace hB := old_trans hB hb7
    clear hb7
    go_wp2
    go_ret
    exact ⟨rfl, hB⟩
  by_cases lz : (natL (X + Y)).length ≤ 256
  · skip
    have hQ : X / Y * Y ≤ X := Nat.div_mul_le_self X Y
    have hQR : X / Y * Y + X % Y = X := by rw [Nat.mul_comm]; exact Nat.div_add_mod X Y
    have lq : (natL (X / Y)).length ≤ 256 := Nat.le_trans (natL_le (Nat.div_le_self X Y)) lx
    have lr : (natL (X % Y)).length ≤ 256 := Nat.le_trans (natL_le (Nat.mod_le X Y)) lx
    have lp : (natL (X / Y * Y)).length ≤ 256 := Nat.le_trans (natL_le hQ) lx
    have DV := hd (fun a b ca cb w h1 h2 => imDiv (X := X) (Y := Y) rfl rfl h0 lx ly a b ca cb w h1 h2)
    have SV := hd (fun a b ca cb w h1 h2 => smDiv (X := X) (Y := Y) rfl rfl h0 lx ly a b ca cb w h1 h2)
    have ML := hd (fun a b ca cb w h1 h2 => imMul (X := X / Y) (Y := Y) rfl lq ly lp a b ca cb w h1 h2)
    have A1 := hd (fun a b ca cb w h1 h2 => imAdd hQR lp lr lx a b ca cb w h1 h2)
    have C1 := hd (fun a b ca cb w h1 h2 => imCmp (cmpI_lt (Nat.mod_lt X (Nat.pos_of_ne_zero h0))) lr ly a b ca cb w h1 h2)
    have AD := hd (fun a b ca cb w h1 h2 => imAdd (X := X) (Y := Y) rfl lx ly lz a b ca cb w h1 h2)
    have SA := hd (fun a b ca cb w h1 h2 => smAdd (X := X) (Y := Y) rfl lx ly lz a b ca cb w h1 h2)
    have SU := hd (fun a b ca cb w h1 h2 => imSub (X := X + Y) (Y := Y) (Z := X) (by omega) (by omega) lz ly a b ca cb w h1 h2)
    obtain ⟨c, hc, hc0⟩ := cmp_ge (show X ≤ X + Y by omega)
    have C2 := hd (fun a b ca cb w h1 h2 => imCmp hc lz lx a b ca cb w h1 h2)
    clear lx ly lz h0 hQ hQR lq lr lp hc
    generalize natL (X / Y * Y) = pl at *
    generalize natL (X / Y) = ql at *
    generalize natL (X % Y) = rl at *
    generalize natL (X + Y) = sl at *
    generalize natL X = xl at *
    generalize natL Y = yl at *
    go_wp2_with fail
    refine (DV.out _ _ _ _ _ A.inI B.inI).mono ?_
    rintro e w1 ⟨⟨avQ, cvQ, avR, cvR, rfl, Q, R⟩, hb1⟩
    replace A := A.later hb1
    replace B := B.later hb1
    replace hB := old_trans hB hb1
    clear hb1
    go_wp2_with fail
    refine (SV.out _ _ _ _ _ A.inI B.inI).mono ?_
    rintro e w2 ⟨⟨_, _, _, _, rfl, -, -⟩, hb2⟩
    replace A := A.later hb2
    replace B := B.later hb2
    replace Q := Q.later hb2
    replace R := R.later hb2
    replace hB := old_trans hB hb2
    clear hb2
    go_wp2_with fail
    refine (ML.out _ _ _ _ _ Q.inI B.inI).mono ?_
    rintro e w3 ⟨⟨avP, cvP, rfl, P⟩, hb3⟩
    replace A := A.later hb3
    replace B := B.later hb3
    replace Q := Q.later hb3
    replace R := R.later hb3
    replace hB := old_trans hB hb3
    clear hb3
    go_wp2_with fail
    refine (A1.out _ _ _ _ _ P.inI R.inI).mono ?_
    rintro e w4 ⟨⟨avS1, cvS1, rfl, S1⟩, hb4⟩
    replace A := A.later hb4
    replace B := B.later hb4
    replace Q := Q.later hb4
    replace R := R.later hb4
    replace P := P.later hb4
    replace hB := old_trans hB hb4
    clear hb4
    go_wp2_with fail
    refine (PS.out _ _ _ _ _ _ _ S1.inI A.inI).mono ?_
    rintro e w5 ⟨rfl, hb5⟩
    replace A := A.later hb5
    replace B := B.later hb5
    replace Q := Q.later hb5
    replace R := R.later hb5
    replace P := P.later hb5
    replace S1 := S1.later hb5
    replace hB := old_trans hB hb5
    clear hb5
    go_wp2_with fail
    refine (C1.out _ _ _ _ _ R.inI B.inI).mono ?_
    rintro e w6 ⟨rfl, hb6⟩
    replace A := A.later hb6
    replace B := B.later hb6
    replace Q := Q.later hb6
    replace R := R.later hb6
    replace P := P.later hb6
    replace S1 := S1.later hb6
    replace hB := old_trans hB hb6
    clear hb6
    clear Q P S1 R
    go_wp2_with fail
    refine (AD.out _ _ _ _ _ A.inI B.inI).mono ?_
    rintro e w7 ⟨⟨avS, cvS, rfl, S⟩, hb7⟩
    replace A := A.later hb7
    replace B := B.later hb7
    replace hB := old_trans hB hb7
    clear hb7
    go_wp2_with fail
    refine (SA.out _ _ _ _ _ A.inI B.inI).mono ?_
    rintro e w8 ⟨⟨avT, cvT, rfl, T⟩, hb8⟩
    replace A := A.later hb8
    replace B := B.later hb8
    replace S := S.later hb8
    replace hB := old_trans hB hb8
    clear hb8
    clear T
    go_wp2_with fail
    refine (SU.out _ _ _ _ _ S.inI B.inI).mono ?_
    rintro e w9 ⟨⟨avD, cvD, rfl, D⟩, hb9⟩
    replace A := A.later hb9
    replace B := B.later hb9
    replace S := S.later hb9
    replace hB := old_trans hB hb9
    clear hb9
    go_wp2_with fail
    refine (PS.out _ _ _ _ _ _ _ D.inI A.inI).mono ?_
    rintro e w10 ⟨rfl, hb10⟩
    replace A := A.later hb10
    replace B := B.later hb10
    replace S := S.later hb10
    replace D := D.later hb10
    replace hB := old_trans hB hb10
    clear hb10
    go_wp2_with fail
    refine (C2.out _ _ _ _ _ S.inI A.inI).mono ?_
    rintro e w11 ⟨rfl, hb11⟩
    replace A := A.later hb11
    replace B := B.later hb11
    replace S := S.later hb11
    replace D := D.later hb11
    replace hB := old_trans hB hb11
    clear hb11
    go_wp2
    go_ret
    exact ⟨rfl, hB⟩
  · skip
    have hQ : X / Y * Y ≤ X := Nat.div_mul_le_self X Y
    have hQR : X / Y * Y + X % Y = X := by rw [Nat.mul_comm]; exact Nat.div_add_mod X Y
    have lq : (natL (X / Y)).length ≤ 256 := Nat.le_trans (natL_le (Nat.div_le_self X Y)) lx
    have lr : (natL (X % Y)).length ≤ 256 := Nat.le_trans (natL_le (Nat.mod_le X Y)) lx
    have lp : (natL (X / Y * Y)).length ≤ 256 := Nat.le_trans (natL_le hQ) lx
    have DV := hd (fun a b ca cb w h1 h2 => imDiv (X := X) (Y := Y) rfl rfl h0 lx ly a b ca cb w h1 h2)
    have SV := hd (fun a b ca cb w h1 h2 => smDiv (X := X) (Y := Y) rfl rfl h0 lx ly a b ca cb w h1 h2)
    have ML := hd (fun a b ca cb w h1 h2 => imMul (X := X / Y) (Y := Y) rfl lq ly lp a b ca cb w h1 h2)
    have A1 := hd (fun a b ca cb w h1 h2 => imAdd hQR lp lr lx a b ca cb w h1 h2)
    have C1 := hd (fun a b ca cb w h1 h2 => imCmp (cmpI_lt (Nat.mod_lt X (Nat.pos_of_ne_zero h0))) lr ly a b ca cb w h1 h2)
    have haf : addB (natL X) (natL Y) = false := by
      unfold addB
      rw [okL lx, okL ly, val_natL, val_natL]
      exact fits_no lz
    have AD := hd (fun a b la lb ca cb w h1 h2 => imAddN haf a b la lb ca cb w h1 h2)
    have SA := hd (fun a b la lb ca cb w h1 h2 => smAddN haf a b la lb ca cb w h1 h2)
    clear lx ly lz h0 hQ hQR lq lr lp haf
    generalize natL (X / Y * Y) = pl at *
    generalize natL (X / Y) = ql at *
    generalize natL (X % Y) = rl at *
    generalize natL X = xl at *
    generalize natL Y = yl at *
    go_wp2_with fail
    refine (DV.out _ _ _ _ _ A.inI B.inI).mono ?_
    rintro e w1 ⟨⟨avQ, cvQ, avR, cvR, rfl, Q, R⟩, hb1⟩
    replace A := A.later hb1
    replace B := B.later hb1
    replace hB := old_trans hB hb1
    clear hb1
    go_wp2_with fail
    refine (SV.out _ _ _ _ _ A.inI B.inI).mono ?_
    rintro e w2 ⟨⟨_, _, _, _, rfl, -, -⟩, hb2⟩
    replace A := A.later hb2
    replace B := B.later hb2
    replace Q := Q.later hb2
    replace R := R.later hb2
    replace hB := old_trans hB hb2
    clear hb2
    go_wp2_with fail
    refine (ML.out _ _ _ _ _ Q.inI B.inI).mono ?_
    rintro e w3 ⟨⟨avP, cvP, rfl, P⟩, hb3⟩
    replace A := A.later hb3
    replace B := B.later hb3
    replace Q := Q.later hb3
    replace R := R.later hb3
    replace hB := old_trans hB hb3
    clear hb3
    go_wp2_with fail
    refine (A1.out _ _ _ _ _ P.inI R.inI).mono ?_
    rintro e w4 ⟨⟨avS1, cvS1, rfl, S1⟩, hb4⟩
    replace A := A.later hb4
    replace B := B.later hb4
    replace Q := Q.later hb4
    replace R := R.later hb4
    replace P := P.later hb4
    replace hB := old_trans hB hb4
    clear hb4
    go_wp2_with fail
    refine (PS.out _ _ _ _ _ _ _ S1.inI A.inI).mono ?_
    rintro e w5 ⟨rfl, hb5⟩
    replace A := A.later hb5
    replace B := B.later hb5
    replace Q := Q.later hb5
    replace R := R.later hb5
    replace P := P.later hb5
    replace S1 := S1.later hb5
    replace hB := old_trans hB hb5
    clear hb5
    go_wp2_with fail
    refine (C1.out _ _ _ _ _ R.inI B.inI).mono ?_
    rintro e w6 ⟨rfl, hb6⟩
    replace A := A.later hb6
    replace B := B.later hb6
    replace Q := Q.later hb6
    replace R := R.later hb6
    replace P := P.later hb6
    replace S1 := S1.later hb6
    replace hB := old_trans hB hb6
    clear hb6
    clear Q P S1 R
    go_wp2_with fail
    refine (AD.out _ _ _ _ _ _ _ A.inI B.inI).mono ?_
    rintro e w7 ⟨⟨_, _, rfl, -⟩, hb7⟩
    replace A := A.later hb7
    replace B := B.later hb7
    replace hB := old_trans hB hb7
    clear hb7
    go_wp2_with fail
    refine (SA.out _ _ _ _ _ _ _ A.inI B.inI).mono ?_
    rintro e w8 ⟨⟨_, _, rfl, -⟩, hb8⟩
    replace A := A.later hb8
    replace B := B.later hb8
    replace hB := old_trans hB hb8
    clear hb8
    go_wp2
    go_ret
    exact ⟨rfl, hB⟩

set_option maxRecDepth 100000 in
theorem FnNatDiv_lifted (os : Os) (started : os.Started) (H : Type) (enc : TypeId × Value → H) :
    ReturnsInHanded {} Try.checked os 3 .any (Rows.fnNatDivSpec.pre6 enc Try.prog Try.f3 Rows.fnNatDivRow.domain false) (Rows.fnNatDivSpec.post enc Try.prog Try.f3 false true false false) := by
  refine returnsInHanded_of_change (C := Try.checked) FnNatDiv_own started (by kernel_rfl) Try.func3
    (ChangeSpec.witness6 (enc := enc) (C := Try.checked) false ⟨#[], #[.slice none 0 0], []⟩ 8 (by kernel_rfl) (by kernel_rfl) (by kernel_rfl) (by kernel_rfl)) ?_
  intro W base args ds gs before hval0 hW hcnd _
  have hval : ∀ (j : Nat) t v, Try.f3.params[j]? = some t → args[j]? = some v → Value.okWide Try.prog W .any base t v := hval0
  have hW' := hW
  obtain ⟨p, q, hA0, hV, rfl, hfz, hnd⟩ := hW
  have hA : DataW.TrodAll enc Try.prog W 0 (fun _ => true) true Try.f3.params.toList args.toList ds p := hA0
  rw [Try.params3] at hA hval
  obtain ⟨v0, vs0, d0, ds0, p0, q0, hargs, rfl, rfl, h0, r0⟩ := trodAll_cons hA
  obtain ⟨rfl, rfl, rfl⟩ := trodAll_nil r0
  obtain rfl : args = #[v0] := by cases args; simp_all
  obtain ⟨rfl, rfl⟩ := trodVars_none hV
  have k0 := h0
  have lt0 : ∀ x ∈ p0, x.block < W.heap.size := by obtain ⟨m, hm⟩ := k0; exact DataW.trod_lt m _ _ _ hm
  obtain ⟨a0, len0, cap0, rfl, wb0⟩ := open_bytes (hval 0 22 v0 rfl rfl) h0
  clear hA0 hval0
  refine (FnNatDiv_walk a0 len0 cap0 W wb0).mono fun e W' ⟨he, bel⟩ => ?_
  subst he
  exact ⟨_, rfl, _, _, _, [], _, [], hW', trodAll_mk1 (shut_bool Try.underlying4 _), (trodAll_cons_mk (Below.trod jf1 (by kernel_rfl) (of_decide_eq_true (by kernel_rfl)) k0 bel lt0) trodAll_mk0), rfl, bel.frame _, fun h => by cases h⟩

theorem FnNatDiv_k0 : (Rows.fnNatDivRow.wf (OpenSpec.ofChange Rows.fnNatDivSpec)) = true := by kernel_rfl
theorem FnNatDiv_k3 : (Try.f3.params.all (Try.prog.readableRec ·)) = true := by kernel_rfl
theorem FnNatDiv_k4 : (namedTie Try.prog Rows.fnNatDivRow.named Rows.fnNatDivSpec.vars) = true := by kernel_rfl
theorem FnNatDiv_k5 : ((Rows.fnNatDivRow.stops == [])) = true := by kernel_rfl
theorem FnNatDiv_k7 : ((Rows.fnNatDivRow.knobs == [])) = true := by kernel_rfl
theorem FnNatDiv_k9 : ((Rows.fnNatDivRow.inPlace == Try.prog.inPlace 3)) = true := by kernel_rfl
theorem FnNatDiv_k10 : ((Rows.fnNatDivRow.unfollowed == Try.prog.unfollowed 3)) = true := by kernel_rfl
theorem FnNatDiv_k11 : ((Rows.fnNatDivRow.recurses == Try.prog.recurses 3)) = true := by kernel_rfl
theorem FnNatDiv_k12 : ((Rows.fnNatDivRow.named == Try.prog.varsNamed 3)) = true := by kernel_rfl
theorem FnNatDiv_k13 : ((Rows.fnNatDivRow.maps == (Try.f3.params.toList ++ Rows.fnNatDivSpec.plain.varTypes Try.prog).any (Try.prog.mapsRec ·))) = true := by kernel_rfl
theorem FnNatDiv_k14 : ((Rows.fnNatDivRow.ifaces == (Try.f3.params.toList ++ Rows.fnNatDivSpec.plain.varTypes Try.prog).any (Try.prog.ifacesRec ·))) = true := by kernel_rfl
theorem FnNatDiv_k15 : ((Rows.fnNatDivRow.mapsOut == Try.prog.mapsAmong Try.f3.resultTypes.toList)) = true := by kernel_rfl
theorem FnNatDiv_k16 : ((Rows.fnNatDivRow.loops == (Try.f3.params.toList ++ Rows.fnNatDivSpec.plain.varTypes Try.prog).any (Try.prog.loopsFrom ·))) = true := by kernel_rfl
theorem FnNatDiv_k17 : ((Rows.fnNatDivRow.wideKeys == (Try.f3.params.toList ++ Rows.fnNatDivSpec.plain.varTypes Try.prog ++ Try.f3.resultTypes.toList).any (Try.prog.wideKeysFrom ·))) = true := by kernel_rfl
theorem FnNatDiv_k18 : (Rows.fnNatDivSpec.vars.all (Try.prog.varReadable ·)) = true := by kernel_rfl
theorem FnNatDiv_k19 : (Try.f3.resultTypes.all (fun t => Try.prog.readableRec t && decide (t < Try.prog.types.size))) = true := by kernel_rfl
theorem FnNatDiv_k20 : ((Rows.fnNatDivRow.ifacesOut == Try.f3.resultTypes.toList.any (Try.prog.ifacesRec ·))) = true := by kernel_rfl
theorem FnNatDiv_k21 : ((Rows.fnNatDivRow.loopsOut == Try.f3.resultTypes.toList.any (Try.prog.loopsFrom ·))) = true := by kernel_rfl
theorem FnNatDiv_k23 : (Rows.fnNatDivRow.shortTexts.isNone) = true := by kernel_rfl
theorem FnNatDiv_k28 : ((Rows.fnNatDivRow.kinds == (if Rows.fnNatDivRow.domain.isEmpty then [] else Try.f3.params.toList.map fun t => match Try.prog.underlying t with | some (.int k) => some k | _ => none))) = true := by kernel_rfl
theorem FnNatDiv_k29 : ((Rows.fnNatDivRow.pinned == Rows.fnNatDivRow.pinnedBy)) = true := by kernel_rfl
theorem FnNatDiv_k30 : ((Rows.fnNatDivRow.veiled == (Try.f3.params.toList ++ Rows.fnNatDivSpec.plain.varTypes Try.prog ++ Try.f3.resultTypes.toList).any (Try.prog.veiledRec ·))) = true := by kernel_rfl
theorem FnNatDiv_k31 : (Rows.fnNatDivRow.veiledFits Try.prog Try.f3.params.toList (Try.f3.params.toList ++ Rows.fnNatDivSpec.plain.varTypes Try.prog ++ Try.f3.resultTypes.toList)) = true := by kernel_rfl
set_option maxRecDepth 100000 in
theorem FnNatDiv_closed : joinedFacts Try.prog 3 Try.f3 Rows.fnNatDivSpec Rows.fnNatDivRow = true := (and2 (and2 (and2 (and2 (and2 (and2 (and2 (and2 (and2 (and2 (and2 (and2 (and2 (and2 (and2 (and2 (and2 (and2 (and2 (and2 (and2 (and2 (and2 (and2 (and2 (and2 (and2 (and2 (and2 (and2 (and2 FnNatDiv_k0 jf1) jf2) FnNatDiv_k3) FnNatDiv_k4) FnNatDiv_k5) jf6) FnNatDiv_k7) jf8) FnNatDiv_k9) FnNatDiv_k10) FnNatDiv_k11) FnNatDiv_k12) FnNatDiv_k13) FnNatDiv_k14) FnNatDiv_k15) FnNatDiv_k16) FnNatDiv_k17) FnNatDiv_k18) FnNatDiv_k19) FnNatDiv_k20) FnNatDiv_k21) jf22) FnNatDiv_k23) jf24) jf25) jf26) jf27) FnNatDiv_k28) FnNatDiv_k29) FnNatDiv_k30) FnNatDiv_k31)
theorem FnNatDiv_over : Rows.fnNatDivRow.holds Try.pinned (OpenSpec.ofChange Rows.fnNatDivSpec) :=
  OpenClaim.holds_of_wide 3 Try.f3 rfl rfl rfl rfl rfl rfl rfl ⟨rfl, rfl, rfl, rfl, rfl⟩ rfl rfl rfl rfl rfl (by kernel_rfl) Try.func3 FnNatDiv_closed
    (of_decide_eq_true (by kernel_rfl)) (by unfold Func.isWrapper; first | (rw [if_pos (by decide +kernel)]; kernel_rfl) | (rw [if_neg (by decide +kernel)]; exact ⟨rfl, rfl⟩))
    (fun os started H enc _ => FnNatDiv_lifted os started H enc)

theorem FnNatDiv_proved : Rows.FnNatDivSaid := FnNatDiv_over
end Go.Proofs.Ytglbbhkfodkljaa
