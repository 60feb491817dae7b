/- For every code of bytes, of the list and the shift drawn from it: the program's NatShift tells as the specification's whether there is a shifted number; shifted up it comes back, is as many bits longer, and is the product with a power of 2; shifted down it is as many bits shorter, or 0. The law answers true; nothing that was there is written. No condition. -/
import Derived.Test.YtglbbhkfodkljaaRows
import Derived.WalkKit
import Derived.ProofKit
import Derived.OpenShut
import Derived.Below
import Derived.Carry
import Derived.Test.YtglbbhkfodkljaaN0
import Derived.Test.YtglbbhkfodkljaaUU
import Derived.Test.YtglbbhkfodkljaaUM
import Derived.Test.YtglbbhkfodkljaaBJ
namespace Go.Proofs.Ytglbbhkfodkljaa
open Go.ChangeShapes Go.WideShapes Go.ChangeAt Go.RowKit
set_option linter.unusedVariables false

theorem FnNatShift_own : ownKnob Try.prog.godebug = none := by kernel_rfl

set_option maxRecDepth 100000 in
set_option maxHeartbeats 16000000 in
theorem FnNatShift_walk (a0 : Option Addr) (len0 cap0 : Nat) (w : World) (wb0 : IsCode w a0 len0 cap0):
    Calls Try.prog 4 #[.slice a0 len0 cap0] w fun e w' => e = .returned (.bool true) ∧ Below w.heap.size w w' := by
  have hlen0 := wb0.2.1
  have hle0 := wb0.1
  by_cases c0 : (len0 : Int) ≤ 1048576
  case neg =>
    have c0' : (1048576 : Int) < (len0 : Int) := by omega
    go_enter Try.func4, Try.ntmps4
    go_wp2
    go_ret
    exact ⟨rfl, (by repeat (first | exact Below.refl _ _ | refine Below.drew ?_ | refine old_alloc ?_ _ | refine old_trans ?_ (by assumption)))⟩
  have D0 := hd (drawNatShift w a0 len0 cap0 wb0)
  clear wb0 hlen0 hle0
  go_enter Try.func4, Try.ntmps4
  go_wp2_with fail
  refine D0.out.mono ?_
  rintro e w0 ⟨⟨avA, cvA, xs, k, rfl, A, -, hk⟩, hB⟩
  clear D0 c0
  have PS := hd (fun a a' len cap cap' xs w h h' => lPwSame a a' len cap cap' xs w h h')
  have hkk : -9223372036854775808 ≤ k ∧ k ≤ 9223372036854775807 := by omega
  cases hs : shiftB xs k
  · skip
    have I := hd (fun a la ca w h1 => imShiftN hkk hs a la ca w h1)
    have S := hd (fun a la ca w h1 => smShiftN hkk hs a la ca w h1)
    clear PS hs hkk hk
    go_wp2_with fail
    refine (I.out _ _ _ _ A.inI).mono ?_
    rintro e w1 ⟨⟨_, _, rfl, -⟩, hb1⟩
    replace A := A.later hb1
    replace hB := old_trans hB hb1
    clear hb1
    go_wp2_with fail
    refine (S.out _ _ _ _ A.inI).mono ?_
    rintro e w2 ⟨⟨_, _, rfl, -⟩, hb2⟩
    replace A := A.later hb2
    replace hB := old_trans hB hb2
    clear hb2
    go_wp2
    go_ret
    exact ⟨rfl, hB⟩
  have q := shiftB_in hs
  obtain ⟨X, rfl, lx⟩ := okX q.1
  rw [val_natL] at q
  have k0 := q.2.1.1
  have k1 := q.2.1.2
  have lz := q.2.2
  clear q hs hk hkk
  by_cases hneg : k < 0
  · obtain ⟨j, hj⟩ := Int.eq_ofNat_of_zero_le (show 0 ≤ -k by omega)
    obtain rfl : k = -(j : Int) := by omega
    clear hj
    have hj0 : 0 < j := by omega
    rw [shV_neg hj0] at lz
    have I := hd (fun a ca w h1 => imShift (X := X) (shV_neg hj0) k0 k1 lx lz a ca w h1)
    have S := hd (fun a ca w h1 => smShift (X := X) (shV_neg hj0) k0 k1 lx lz a ca w h1)
    by_cases hX : X = 0
    · skip
      subst hX
      rw [Nat.zero_div] at I S
      have hzl : ((natL 0).length : Int) = 0 := by rw [natL_zero]; rfl
      clear lx lz PS k0 k1 hj0
      generalize natL 0 = zl at *
      generalize -(j : Int) = kk at *
      go_wp2_with fail
      refine (I.out _ _ _ A.inI).mono ?_
      rintro e w1 ⟨⟨avS, cvS, rfl, S1⟩, hb1⟩
      replace A := A.later hb1
      replace hB := old_trans hB hb1
      clear hb1
      go_wp2_with fail
      refine (S.out _ _ _ A.inI).mono ?_
      rintro e w2 ⟨⟨_, _, rfl, -⟩, hb2⟩
      replace A := A.later hb2
      replace S1 := S1.later hb2
      replace hB := old_trans hB hb2
      clear hb2
      go_wp2
      go_ret
      exact ⟨rfl, hB⟩
    have hxl := natL_ne hX
    have hxl' : (((natL X).length : Int) == 0) = false := beq_eq_false_iff_ne.2 (by omega)
    have BA := hd (fun a ca w h1 => imBits (nbits_natL hX lx) a ca w h1)
    by_cases hq : X / 2 ^ j = 0
    · skip
      have hsm := log2_small hq hX
      have BS := hd (fun a ca w h1 => imBits nbits_zero a ca w h1)
      rw [hq] at I S
      have hle : (X.log2 : Int) + 1 ≤ (j : Int) := by omega
      have hwn : IntKind.wrap .i64 (-(-(j : Int))) = (j : Int) := by rw [IntKind.wrap_i64]; omega
      clear hsm hq lx lz hX hxl PS
      simp only [natL_zero, List.length_nil] at I S BS
      generalize (X.log2 : Int) + 1 = bx at *
      generalize natL X = xl at *
      go_wp2_with fail
      refine (I.out _ _ _ A.inI).mono ?_
      rintro e w1 ⟨⟨avS, cvS, rfl, S1⟩, hb1⟩
      replace A := A.later hb1
      replace hB := old_trans hB hb1
      clear hb1
      go_wp2_with fail
      refine (S.out _ _ _ A.inI).mono ?_
      rintro e w2 ⟨⟨_, _, rfl, -⟩, hb2⟩
      replace A := A.later hb2
      replace S1 := S1.later hb2
      replace hB := old_trans hB hb2
      clear hb2
      go_wp2_with fail
      refine (BS.out _ _ _ S1.inI).mono ?_
      rintro e w9 ⟨rfl, rfl⟩
      go_wp2_with fail
      refine (BA.out _ _ _ A.inI).mono ?_
      rintro e w9 ⟨rfl, rfl⟩
      go_wp2
      go_ret
      exact ⟨rfl, hB⟩
    have hsr := log2_shr hq
    have hsl := natL_ne hq
    have BS := hd (fun a ca w h1 => imBits (nbits_natL hq lz) a ca w h1)
    obtain ⟨bs, hbs⟩ : ∃ bs, ((X / 2 ^ j).log2 : Int) + 1 = bs := ⟨_, rfl⟩
    obtain ⟨bx, hbx⟩ : ∃ bx, (X.log2 : Int) + 1 = bx := ⟨_, rfl⟩
    rw [hbs] at BS
    rw [hbx] at BA
    have hb0 : (bs == 0) = false := by simp; omega
    have hba : bx + -(j : Int) = bs := by omega
    have hbw : IntKind.wrap .i64 bs = bs := by
      have h1 := nbits_natL hq lz
      have h2 := (bits_low (okL lz) hsl).2
      have hn : nbits (natL (X / 2 ^ j)) = bitsN (natL (X / 2 ^ j)) := by (unfold nbits; rw [okL lz]; rfl)
      rw [IntKind.wrap_i64]
      omega
    clear hsr hq lx lz hX hxl hsl PS hbs hbx
    generalize natL (X / 2 ^ j) = sl at *
    generalize natL X = xl at *
    go_wp2_with fail
    refine (I.out _ _ _ A.inI).mono ?_
    rintro e w1 ⟨⟨avS, cvS, rfl, S1⟩, hb1⟩
    replace A := A.later hb1
    replace hB := old_trans hB hb1
    clear hb1
    go_wp2_with fail
    refine (S.out _ _ _ A.inI).mono ?_
    rintro e w2 ⟨⟨_, _, rfl, -⟩, hb2⟩
    replace A := A.later hb2
    replace S1 := S1.later hb2
    replace hB := old_trans hB hb2
    clear hb2
    go_wp2_with fail
    refine (BS.out _ _ _ S1.inI).mono ?_
    rintro e w9 ⟨rfl, rfl⟩
    go_wp2_with fail
    refine (BS.out _ _ _ S1.inI).mono ?_
    rintro e w9 ⟨rfl, rfl⟩
    go_wp2_with fail
    refine (BA.out _ _ _ A.inI).mono ?_
    rintro e w9 ⟨rfl, rfl⟩
    go_wp2
    go_ret
    exact ⟨rfl, hB⟩
  obtain ⟨j, rfl⟩ := Int.eq_ofNat_of_zero_le (show 0 ≤ k by omega)
  have hng : ¬ ((j : Int) < 0) := hneg
  rw [shV_pos] at lz
  have I := hd (fun a ca w h1 => imShift (X := X) (k := (j : Int)) shV_pos k0 k1 lx lz a ca w h1)
  have S := hd (fun a ca w h1 => smShift (X := X) (k := (j : Int)) shV_pos k0 k1 lx lz a ca w h1)
  have I2 := hd (fun a ca w h1 => imShift (X := X * 2 ^ j) (k := -(j : Int)) shV_back (by omega) (by omega) lz lx a ca w h1)
  have hwn : IntKind.wrap .i64 (-(j : Int)) = -(j : Int) := by rw [IntKind.wrap_i64]; omega
  by_cases hX : X = 0
  · skip
    by_cases hbig : (64 : Int) < (j : Int)
    · skip
      subst hX
      rw [Nat.zero_mul] at I S I2 lz
      have hzl : ((natL 0).length : Int) = 0 := by rw [natL_zero]; rfl
      generalize natL 0 = zl at *
      clear lx lz hneg
      go_wp2_with fail
      refine (I.out _ _ _ A.inI).mono ?_
      rintro e w1 ⟨⟨avS, cvS, rfl, S1⟩, hb1⟩
      replace A := A.later hb1
      replace hB := old_trans hB hb1
      clear hb1
      go_wp2_with fail
      refine (S.out _ _ _ A.inI).mono ?_
      rintro e w2 ⟨⟨_, _, rfl, -⟩, hb2⟩
      replace A := A.later hb2
      replace S1 := S1.later hb2
      replace hB := old_trans hB hb2
      clear hb2
      go_wp2_with fail
      refine (I2.out _ _ _ S1.inI).mono ?_
      rintro e w3 ⟨⟨avK, cvK, rfl, K⟩, hb3⟩
      replace A := A.later hb3
      replace S1 := S1.later hb3
      replace hB := old_trans hB hb3
      clear hb3
      go_wp2_with fail
      refine (PS.out _ _ _ _ _ _ _ K.inI A.inI).mono ?_
      rintro e w4 ⟨rfl, hb4⟩
      replace A := A.later hb4
      replace S1 := S1.later hb4
      replace K := K.later hb4
      replace hB := old_trans hB hb4
      clear hb4
      clear K
      go_wp2
      go_ret
      exact ⟨rfl, hB⟩
    · skip
      have hj64 : j ≤ 64 := by omega
      have l2 : (natL 2).length ≤ 256 := by rw [two_len]; omega
      have PW := hd (fun a ca w h1 => imPow (X := 2) (m := j) rfl hj64 l2 (pow2_len hj64) a ca w h1)
      have ML := hd (fun a b ca cb w h1 h2 => imMul (X := X) (Y := 2 ^ j) rfl lx (pow2_len hj64) lz a b ca cb w h1 h2)
      have htwo := hd (fun w => two_in w 3)
      simp only [two_len] at PW
      clear l2 hj64
      subst hX
      rw [Nat.zero_mul] at I S I2 lz
      rw [Nat.zero_mul] at ML
      have hzl : ((natL 0).length : Int) = 0 := by rw [natL_zero]; rfl
      generalize natL 0 = zl at *
      clear lx lz hneg
      generalize natL (2 ^ j) = pl at *
      generalize natL 2 = tl at *
      go_wp2_with fail
      refine (I.out _ _ _ A.inI).mono ?_
      rintro e w1 ⟨⟨avS, cvS, rfl, S1⟩, hb1⟩
      replace A := A.later hb1
      replace hB := old_trans hB hb1
      clear hb1
      go_wp2_with fail
      refine (S.out _ _ _ A.inI).mono ?_
      rintro e w2 ⟨⟨_, _, rfl, -⟩, hb2⟩
      replace A := A.later hb2
      replace S1 := S1.later hb2
      replace hB := old_trans hB hb2
      clear hb2
      go_wp2_with fail
      refine (I2.out _ _ _ S1.inI).mono ?_
      rintro e w3 ⟨⟨avK, cvK, rfl, K⟩, hb3⟩
      replace A := A.later hb3
      replace S1 := S1.later hb3
      replace hB := old_trans hB hb3
      clear hb3
      go_wp2_with fail
      refine (PS.out _ _ _ _ _ _ _ K.inI A.inI).mono ?_
      rintro e w4 ⟨rfl, hb4⟩
      replace A := A.later hb4
      replace S1 := S1.later hb4
      replace K := K.later hb4
      replace hB := old_trans hB hb4
      clear hb4
      clear K
      have al : Below w4.heap.size w4 (w4.alloc (.cells #[.int .i64 2] 3)) := old_alloc (Below.refl _ _) _
      have T3 := htwo.out w4
      replace A := A.later al
      replace S1 := S1.later al
      replace hB := old_trans hB al
      clear al
      go_wp2_with fail
      refine (PW.out _ _ _ T3).mono ?_
      rintro e w5 ⟨⟨avP, cvP, rfl, P⟩, hb5⟩
      replace A := A.later hb5
      replace S1 := S1.later hb5
      replace hB := old_trans hB hb5
      clear hb5
      go_wp2_with fail
      refine (ML.out _ _ _ _ _ A.inI P.inI).mono ?_
      rintro e w6 ⟨⟨avM, cvM, rfl, M⟩, hb6⟩
      replace A := A.later hb6
      replace S1 := S1.later hb6
      replace P := P.later hb6
      replace hB := old_trans hB hb6
      clear hb6
      go_wp2_with fail
      refine (PS.out _ _ _ _ _ _ _ M.inI S1.inI).mono ?_
      rintro e w7 ⟨rfl, hb7⟩
      replace A := A.later hb7
      replace S1 := S1.later hb7
      replace P := P.later hb7
      replace M := M.later hb7
      replace hB := old_trans hB hb7
      clear hb7
      go_wp2
      go_ret
      exact ⟨rfl, hB⟩
  have hxl := natL_ne hX
  have hxl' : (0 : Int) < ((natL X).length : Int) := by omega
  have hsl := log2_shl (j := j) hX
  have hS0 : X * 2 ^ j ≠ 0 := Nat.mul_ne_zero hX (Nat.pos_iff_ne_zero.mp (Nat.pow_pos (by omega)))
  obtain ⟨bx, hbx⟩ : ∃ bx, (X.log2 : Int) + 1 = bx := ⟨_, rfl⟩
  have BA := hd (fun a ca w h1 => imBits ((nbits_natL hX lx).trans hbx) a ca w h1)
  have BS := hd (fun a ca w h1 => imBits ((nbits_natL hS0 lz).trans (show ((X * 2 ^ j).log2 : Int) + 1 = bx + (j : Int) by omega)) a ca w h1)
  have hbw : IntKind.wrap .i64 (bx + (j : Int)) = bx + (j : Int) := by
    have h1 := nbits_natL hS0 lz
    have h2 := (bits_low (okL lz) (natL_ne hS0)).2
    have hn : nbits (natL (X * 2 ^ j)) = bitsN (natL (X * 2 ^ j)) := by (unfold nbits; rw [okL lz]; rfl)
    rw [IntKind.wrap_i64]
    omega
  clear hsl hS0 hbx hxl
  by_cases hbig : (64 : Int) < (j : Int)
  · skip
    clear lx lz hneg hX
    generalize natL (X * 2 ^ j) = sl at *
    generalize natL X = xl at *
    go_wp2_with fail
    refine (I.out _ _ _ A.inI).mono ?_
    rintro e w1 ⟨⟨avS, cvS, rfl, S1⟩, hb1⟩
    replace A := A.later hb1
    replace hB := old_trans hB hb1
    clear hb1
    go_wp2_with fail
    refine (S.out _ _ _ A.inI).mono ?_
    rintro e w2 ⟨⟨_, _, rfl, -⟩, hb2⟩
    replace A := A.later hb2
    replace S1 := S1.later hb2
    replace hB := old_trans hB hb2
    clear hb2
    go_wp2_with fail
    refine (I2.out _ _ _ S1.inI).mono ?_
    rintro e w3 ⟨⟨avK, cvK, rfl, K⟩, hb3⟩
    replace A := A.later hb3
    replace S1 := S1.later hb3
    replace hB := old_trans hB hb3
    clear hb3
    go_wp2_with fail
    refine (PS.out _ _ _ _ _ _ _ K.inI A.inI).mono ?_
    rintro e w4 ⟨rfl, hb4⟩
    replace A := A.later hb4
    replace S1 := S1.later hb4
    replace K := K.later hb4
    replace hB := old_trans hB hb4
    clear hb4
    go_wp2_with fail
    refine (BS.out _ _ _ S1.inI).mono ?_
    rintro e w9 ⟨rfl, rfl⟩
    go_wp2_with fail
    refine (BA.out _ _ _ A.inI).mono ?_
    rintro e w9 ⟨rfl, rfl⟩
    clear K
    go_wp2
    go_ret
    exact ⟨rfl, hB⟩
  · skip
    have hj64 : j ≤ 64 := by omega
    have l2 : (natL 2).length ≤ 256 := by rw [two_len]; omega
    have PW := hd (fun a ca w h1 => imPow (X := 2) (m := j) rfl hj64 l2 (pow2_len hj64) a ca w h1)
    have ML := hd (fun a b ca cb w h1 h2 => imMul (X := X) (Y := 2 ^ j) rfl lx (pow2_len hj64) lz a b ca cb w h1 h2)
    have htwo := hd (fun w => two_in w 3)
    simp only [two_len] at PW
    clear l2 hj64
    clear lx lz hneg hX
    generalize natL (2 ^ j) = pl at *
    generalize natL 2 = tl at *
    generalize natL (X * 2 ^ j) = sl at *
    generalize natL X = xl at *
    go_wp2_with fail
    refine (I.out _ _ _ A.inI).mono ?_
    rintro e w1 ⟨⟨avS, cvS, rfl, S1⟩, hb1⟩
    replace A := A.later hb1
    replace hB := old_trans hB hb1
    clear hb1
    go_wp2_with fail
    refine (S.out _ _ _ A.inI).mono ?_
    rintro e w2 ⟨⟨_, _, rfl, -⟩, hb2⟩
    replace A := A.later hb2
    replace S1 := S1.later hb2
    replace hB := old_trans hB hb2
    clear hb2
    go_wp2_with fail
    refine (I2.out _ _ _ S1.inI).mono ?_
    rintro e w3 ⟨⟨avK, cvK, rfl, K⟩, hb3⟩
    replace A := A.later hb3
    replace S1 := S1.later hb3
    replace hB := old_trans hB hb3
    clear hb3
    go_wp2_with fail
    refine (PS.out _ _ _ _ _ _ _ K.inI A.inI).mono ?_
    rintro e w4 ⟨rfl, hb4⟩
    replace A := A.later hb4
    replace S1 := S1.later hb4
    replace K := K.later hb4
    replace hB := old_trans hB hb4
    clear hb4
    go_wp2_with fail
    refine (BS.out _ _ _ S1.inI).mono ?_
    rintro e w9 ⟨rfl, rfl⟩
    go_wp2_with fail
    refine (BA.out _ _ _ A.inI).mono ?_
    rintro e w9 ⟨rfl, rfl⟩
    clear K
    have al : Below w9.heap.size w9 (w9.alloc (.cells #[.int .i64 2] 3)) := old_alloc (Below.refl _ _) _
    have T3 := htwo.out w9
    replace A := A.later al
    replace S1 := S1.later al
    replace hB := old_trans hB al
    clear al
    go_wp2_with fail
    refine (PW.out _ _ _ T3).mono ?_
    rintro e w5 ⟨⟨avP, cvP, rfl, P⟩, hb5⟩
    replace A := A.later hb5
    replace S1 := S1.later hb5
    replace hB := old_trans hB hb5
    clear hb5
    go_wp2_with fail
    refine (ML.out _ _ _ _ _ A.inI P.inI).mono ?_
    rintro e w6 ⟨⟨avM, cvM, rfl, M⟩, hb6⟩
    replace A := A.later hb6
    replace S1 := S1.later hb6
    replace P := P.later hb6
    replace hB := old_trans hB hb6
    clear hb6
    go_wp2_with fail
    refine (PS.out _ _ _ _ _ _ _ M.inI S1.inI).mono ?_
    rintro e w7 ⟨rfl, hb7⟩
    replace A := A.later hb7
    replace S1 := S1.later hb7
    replace P := P.later hb7
    replace M := M.later hb7
    replace hB := old_trans hB hb7
    clear hb7
    go_wp2
    go_ret
    exact ⟨rfl, hB⟩

set_option maxRecDepth 100000 in
theorem FnNatShift_lifted (os : Os) (started : os.Started) (H : Type) (enc : TypeId × Value → H) :
    ReturnsInHanded {} Try.checked os 4 .any (Rows.fnNatShiftSpec.pre6 enc Try.prog Try.f4 Rows.fnNatShiftRow.domain false) (Rows.fnNatShiftSpec.post enc Try.prog Try.f4 false true false false) := by
  refine returnsInHanded_of_change (C := Try.checked) FnNatShift_own started (by kernel_rfl) Try.func4
    (ChangeSpec.witness6 (enc := enc) (C := Try.checked) false ⟨#[], #[.slice none 0 0], []⟩ 8 (by kernel_rfl) (by kernel_rfl) (by kernel_rfl) (by kernel_rfl)) ?_
  intro W base args ds gs before hval0 hW hcnd _
  have hval : ∀ (j : Nat) t v, Try.f4.params[j]? = some t → args[j]? = some v → Value.okWide Try.prog W .any base t v := hval0
  have hW' := hW
  obtain ⟨p, q, hA0, hV, rfl, hfz, hnd⟩ := hW
  have hA : DataW.TrodAll enc Try.prog W 0 (fun _ => true) true Try.f4.params.toList args.toList ds p := hA0
  rw [Try.params4] at hA hval
  obtain ⟨v0, vs0, d0, ds0, p0, q0, hargs, rfl, rfl, h0, r0⟩ := trodAll_cons hA
  obtain ⟨rfl, rfl, rfl⟩ := trodAll_nil r0
  obtain rfl : args = #[v0] := by cases args; simp_all
  obtain ⟨rfl, rfl⟩ := trodVars_none hV
  have k0 := h0
  have lt0 : ∀ x ∈ p0, x.block < W.heap.size := by obtain ⟨m, hm⟩ := k0; exact DataW.trod_lt m _ _ _ hm
  obtain ⟨a0, len0, cap0, rfl, wb0⟩ := open_bytes (hval 0 22 v0 rfl rfl) h0
  clear hA0 hval0
  refine (FnNatShift_walk a0 len0 cap0 W wb0).mono fun e W' ⟨he, bel⟩ => ?_
  subst he
  exact ⟨_, rfl, _, _, _, [], _, [], hW', trodAll_mk1 (shut_bool Try.underlying4 _), (trodAll_cons_mk (Below.trod jf1 (by kernel_rfl) (of_decide_eq_true (by kernel_rfl)) k0 bel lt0) trodAll_mk0), rfl, bel.frame _, fun h => by cases h⟩

theorem FnNatShift_k0 : (Rows.fnNatShiftRow.wf (OpenSpec.ofChange Rows.fnNatShiftSpec)) = true := by kernel_rfl
theorem FnNatShift_k3 : (Try.f4.params.all (Try.prog.readableRec ·)) = true := by kernel_rfl
theorem FnNatShift_k4 : (namedTie Try.prog Rows.fnNatShiftRow.named Rows.fnNatShiftSpec.vars) = true := by kernel_rfl
theorem FnNatShift_k5 : ((Rows.fnNatShiftRow.stops == [])) = true := by kernel_rfl
theorem FnNatShift_k7 : ((Rows.fnNatShiftRow.knobs == [])) = true := by kernel_rfl
theorem FnNatShift_k9 : ((Rows.fnNatShiftRow.inPlace == Try.prog.inPlace 4)) = true := by kernel_rfl
theorem FnNatShift_k10 : ((Rows.fnNatShiftRow.unfollowed == Try.prog.unfollowed 4)) = true := by kernel_rfl
theorem FnNatShift_k11 : ((Rows.fnNatShiftRow.recurses == Try.prog.recurses 4)) = true := by kernel_rfl
theorem FnNatShift_k12 : ((Rows.fnNatShiftRow.named == Try.prog.varsNamed 4)) = true := by kernel_rfl
theorem FnNatShift_k13 : ((Rows.fnNatShiftRow.maps == (Try.f4.params.toList ++ Rows.fnNatShiftSpec.plain.varTypes Try.prog).any (Try.prog.mapsRec ·))) = true := by kernel_rfl
theorem FnNatShift_k14 : ((Rows.fnNatShiftRow.ifaces == (Try.f4.params.toList ++ Rows.fnNatShiftSpec.plain.varTypes Try.prog).any (Try.prog.ifacesRec ·))) = true := by kernel_rfl
theorem FnNatShift_k15 : ((Rows.fnNatShiftRow.mapsOut == Try.prog.mapsAmong Try.f4.resultTypes.toList)) = true := by kernel_rfl
theorem FnNatShift_k16 : ((Rows.fnNatShiftRow.loops == (Try.f4.params.toList ++ Rows.fnNatShiftSpec.plain.varTypes Try.prog).any (Try.prog.loopsFrom ·))) = true := by kernel_rfl
theorem FnNatShift_k17 : ((Rows.fnNatShiftRow.wideKeys == (Try.f4.params.toList ++ Rows.fnNatShiftSpec.plain.varTypes Try.prog ++ Try.f4.resultTypes.toList).any (Try.prog.wideKeysFrom ·))) = true := by kernel_rfl
theorem FnNatShift_k18 : (Rows.fnNatShiftSpec.vars.all (Try.prog.varReadable ·)) = true := by kernel_rfl
theorem FnNatShift_k19 : (Try.f4.resultTypes.all (fun t => Try.prog.readableRec t && decide (t < Try.prog.types.size))) = true := by kernel_rfl
theorem FnNatShift_k20 : ((Rows.fnNatShiftRow.ifacesOut == Try.f4.resultTypes.toList.any (Try.prog.ifacesRec ·))) = true := by kernel_rfl
theorem FnNatShift_k21 : ((Rows.fnNatShiftRow.loopsOut == Try.f4.resultTypes.toList.any (Try.prog.loopsFrom ·))) = true := by kernel_rfl
theorem FnNatShift_k23 : (Rows.fnNatShiftRow.shortTexts.isNone) = true := by kernel_rfl
theorem FnNatShift_k28 : ((Rows.fnNatShiftRow.kinds == (if Rows.fnNatShiftRow.domain.isEmpty then [] else Try.f4.params.toList.map fun t => match Try.prog.underlying t with | some (.int k) => some k | _ => none))) = true := by kernel_rfl
theorem FnNatShift_k29 : ((Rows.fnNatShiftRow.pinned == Rows.fnNatShiftRow.pinnedBy)) = true := by kernel_rfl
theorem FnNatShift_k30 : ((Rows.fnNatShiftRow.veiled == (Try.f4.params.toList ++ Rows.fnNatShiftSpec.plain.varTypes Try.prog ++ Try.f4.resultTypes.toList).any (Try.prog.veiledRec ·))) = true := by kernel_rfl
theorem FnNatShift_k31 : (Rows.fnNatShiftRow.veiledFits Try.prog Try.f4.params.toList (Try.f4.params.toList ++ Rows.fnNatShiftSpec.plain.varTypes Try.prog ++ Try.f4.resultTypes.toList)) = true := by kernel_rfl
set_option maxRecDepth 100000 in
theorem FnNatShift_closed : joinedFacts Try.prog 4 Try.f4 Rows.fnNatShiftSpec Rows.fnNatShiftRow = true := (and2 (and2 (and2 (and2 (and2 (and2 (and2 (and2 (and2 (and2 (and2 (and2 (and2 (and2 (and2 (and2 (and2 (and2 (and2 (and2 (and2 (and2 (and2 (and2 (and2 (and2 (and2 (and2 (and2 (and2 (and2 FnNatShift_k0 jf1) jf2) FnNatShift_k3) FnNatShift_k4) FnNatShift_k5) jf6) FnNatShift_k7) jf8) FnNatShift_k9) FnNatShift_k10) FnNatShift_k11) FnNatShift_k12) FnNatShift_k13) FnNatShift_k14) FnNatShift_k15) FnNatShift_k16) FnNatShift_k17) FnNatShift_k18) FnNatShift_k19) FnNatShift_k20) FnNatShift_k21) jf22) FnNatShift_k23) jf24) jf25) jf26) jf27) FnNatShift_k28) FnNatShift_k29) FnNatShift_k30) FnNatShift_k31)
theorem FnNatShift_over : Rows.fnNatShiftRow.holds Try.pinned (OpenSpec.ofChange Rows.fnNatShiftSpec) :=
  OpenClaim.holds_of_wide 4 Try.f4 rfl rfl rfl rfl rfl rfl rfl ⟨rfl, rfl, rfl, rfl, rfl⟩ rfl rfl rfl rfl rfl (by kernel_rfl) Try.func4 FnNatShift_closed
    (of_decide_eq_true (by kernel_rfl)) (by unfold Func.isWrapper; first | (rw [if_pos (by decide +kernel)]; kernel_rfl) | (rw [if_neg (by decide +kernel)]; exact ⟨rfl, rfl⟩))
    (fun os started H enc _ => FnNatShift_lifted os started H enc)

theorem FnNatShift_proved : Rows.FnNatShiftSaid := FnNatShift_over
end Go.Proofs.Ytglbbhkfodkljaa
