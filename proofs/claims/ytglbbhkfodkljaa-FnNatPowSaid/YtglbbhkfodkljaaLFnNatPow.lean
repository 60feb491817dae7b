/- For every two codes of bytes, of the list and the powers drawn from them: the program's NatPow tells as the specification's whether there is a power, and a power of a sum is the product of the powers. The law answers true; nothing that was there is written. No condition. -/
import Derived.Test.YtglbbhkfodkljaaRows
import Derived.WalkKit
import Derived.ProofKit
import Derived.OpenShut
import Derived.Below
import Derived.Carry
import Derived.Test.YtglbbhkfodkljaaN0
import Derived.Test.YtglbbhkfodkljaaUL
import Derived.Test.YtglbbhkfodkljaaUM
import Derived.Test.YtglbbhkfodkljaaUN
import Derived.Test.YtglbbhkfodkljaaBJ
namespace Go.Proofs.Ytglbbhkfodkljaa
open Go.ChangeShapes Go.WideShapes Go.ChangeAt Go.RowKit
set_option linter.unusedVariables false

theorem FnNatPow_own : ownKnob Try.prog.godebug = none := by kernel_rfl

set_option maxRecDepth 100000 in
set_option maxHeartbeats 16000000 in
theorem FnNatPow_walk (a0 : Option Addr) (len0 cap0 : Nat) (a1 : Option Addr) (len1 cap1 : Nat) (w : World) (wb0 : IsCode w a0 len0 cap0) (wb1 : IsCode w a1 len1 cap1):
    Calls Try.prog 5 #[.slice a0 len0 cap0, .slice a1 len1 cap1] w fun e w' => e = .returned (.bool true) ∧ Below w.heap.size w w' := by
  have hlen0 := wb0.2.1
  have hlen1 := wb1.2.1
  have hle0 := wb0.1
  have hle1 := wb1.1
  by_cases c0 : (len0 : Int) ≤ 1048576
  case neg =>
    have c0' : (1048576 : Int) < (len0 : Int) := by omega
    go_enter Try.func5, Try.ntmps5
    go_wp2
    go_ret
    exact ⟨rfl, (by repeat (first | exact Below.refl _ _ | refine Below.drew ?_ | refine old_alloc ?_ _ | refine old_trans ?_ (by assumption)))⟩
  by_cases c1 : (len1 : Int) ≤ 1048576
  case neg =>
    have c1' : (1048576 : Int) < (len1 : Int) := by omega
    go_enter Try.func5, Try.ntmps5
    go_wp2
    go_ret
    exact ⟨rfl, (by repeat (first | exact Below.refl _ _ | refine Below.drew ?_ | refine old_alloc ?_ _ | refine old_trans ?_ (by assumption)))⟩
  have D0 := hd (drawNatPow w a0 len0 cap0 wb0)
  have D1 := hd (fun w' (h : Below w.heap.size w w') => drawNatPow w' a1 len1 cap1 (wb1.old h))
  clear wb0 wb1 hlen0 hlen1 hle0 hle1
  go_enter Try.func5, Try.ntmps5
  go_wp2_with fail
  refine D0.out.mono ?_
  rintro e w0 ⟨⟨avA, cvA, xs, m, rfl, A, -, m0, m1⟩, hB⟩
  go_wp2_with fail
  refine (D1.out _ hB).mono ?_
  rintro e w00 ⟨⟨avZ, cvZ, zs, n, rfl, -, -, n0, n1⟩, hb0⟩
  replace A := A.later hb0
  replace hB := old_trans hB hb0
  clear D0 D1 c0 c1 hb0
  have PS := hd (fun a a' len cap cap' xs w h h' => lPwSame a a' len cap cap' xs w h h')
  cases hu : powB xs m
  · skip
    have U := hd (fun a la ca w h1 => imPowN hu a la ca w h1)
    have S := hd (fun a la ca w h1 => smPowN hu a la ca w h1)
    have V := hd (fun a la ca w h1 => iNatPow a la ca xs n w h1)
    clear PS hu
    generalize powB xs n = vb at *
    generalize resN vb (val xs ^ n.toNat) = yl at *
    go_wp2_with fail
    refine (U.out _ _ _ _ A.inI).mono ?_
    rintro e w1 ⟨⟨_, _, rfl, -⟩, hb1⟩
    replace A := A.later hb1
    replace hB := old_trans hB hb1
    clear hb1
    go_wp2_with fail
    refine (V.out _ _ _ _ A.inI).mono ?_
    rintro e w2 ⟨⟨avY, cvY, rfl, -⟩, hb2⟩
    replace A := A.later hb2
    replace hB := old_trans hB hb2
    clear hb2
    go_wp2_with fail
    refine (S.out _ _ _ _ A.inI).mono ?_
    rintro e w3 ⟨⟨_, _, rfl, -⟩, hb3⟩
    replace A := A.later hb3
    replace hB := old_trans hB hb3
    clear hb3
    go_wp2
    go_ret
    exact ⟨rfl, hB⟩
  have hm := powB_rng' hu
  obtain ⟨i, rfl⟩ := Int.eq_ofNat_of_zero_le hm.1
  have hx := powB_ok hu
  have lu := of_decide_eq_true (powB_fits hu)
  obtain ⟨X, rfl, lx⟩ := okX hx
  rw [val_natL, Int.toNat_natCast] at lu
  have U := hd (fun a ca w h1 => imPow (X := X) (m := i) rfl (by omega) lx lu a ca w h1)
  have S := hd (fun a ca w h1 => smPow (X := X) (m := i) rfl (by omega) lx lu a ca w h1)
  cases hv : powB (natL X) n
  · skip
    have V := hd (fun a la ca w h1 => imPowN hv a la ca w h1)
    clear PS hu hv hx lu lx
    generalize natL (X ^ i) = xl at *
    generalize natL X = al at *
    go_wp2_with fail
    refine (U.out _ _ _ A.inI).mono ?_
    rintro e w1 ⟨⟨avX, cvX, rfl, XX⟩, hb1⟩
    replace A := A.later hb1
    replace hB := old_trans hB hb1
    clear hb1
    go_wp2_with fail
    refine (V.out _ _ _ _ A.inI).mono ?_
    rintro e w2 ⟨⟨_, _, rfl, -⟩, hb2⟩
    replace A := A.later hb2
    replace hB := old_trans hB hb2
    clear hb2
    go_wp2_with fail
    refine (S.out _ _ _ A.inI).mono ?_
    rintro e w3 ⟨⟨_, _, rfl, -⟩, hb3⟩
    replace A := A.later hb3
    replace hB := old_trans hB hb3
    clear hb3
    go_wp2
    go_ret
    exact ⟨rfl, hB⟩
  have hn := powB_rng' hv
  obtain ⟨j, rfl⟩ := Int.eq_ofNat_of_zero_le hn.1
  have lv := of_decide_eq_true (powB_fits hv)
  rw [val_natL, Int.toNat_natCast] at lv
  have V := hd (fun a ca w h1 => imPow (X := X) (m := j) rfl (by omega) lx lv a ca w h1)
  clear hu hv hx
  have hw : IntKind.wrap .i64 ((i : Int) + (j : Int)) = (i : Int) + (j : Int) := by rw [IntKind.wrap_i64]; omega
  have hpa := hd (Nat.pow_add X i j)
  by_cases hs : (64 : Int) < (i : Int) + (j : Int)
  · skip
    clear PS lu lv lx hpa
    generalize natL (X ^ i) = xl at *
    generalize natL (X ^ j) = yl at *
    generalize natL X = al at *
    go_wp2_with fail
    refine (U.out _ _ _ A.inI).mono ?_
    rintro e w1 ⟨⟨avX, cvX, rfl, XX⟩, hb1⟩
    replace A := A.later hb1
    replace hB := old_trans hB hb1
    clear hb1
    go_wp2_with fail
    refine (V.out _ _ _ A.inI).mono ?_
    rintro e w2 ⟨⟨avY, cvY, rfl, YY⟩, hb2⟩
    replace A := A.later hb2
    replace XX := XX.later hb2
    replace hB := old_trans hB hb2
    clear hb2
    go_wp2_with fail
    refine (S.out _ _ _ A.inI).mono ?_
    rintro e w3 ⟨⟨_, _, rfl, -⟩, hb3⟩
    replace A := A.later hb3
    replace XX := XX.later hb3
    replace YY := YY.later hb3
    replace hB := old_trans hB hb3
    clear hb3
    go_wp2
    go_ret
    exact ⟨rfl, hB⟩
  have hs' : ¬ ((64 : Int) < (i : Int) + (j : Int)) := hs
  by_cases lz : (natL (X ^ (i + j))).length ≤ 256
  · skip
    have P := hd (fun a ca w h1 => imPow (X := X) (m := i + j) rfl (by omega) lx lz a ca w h1)
    have M := hd (fun a b ca cb w h1 h2 => imMul (X := X ^ i) (Y := X ^ j) hpa.out.symm lu lv lz a b ca cb w h1 h2)
    rw [Int.natCast_add] at P
    clear lu lv lx lz hpa hs
    generalize natL (X ^ (i + j)) = zl at *
    generalize natL (X ^ i) = xl at *
    generalize natL (X ^ j) = yl at *
    generalize natL X = al at *
    go_wp2_with fail
    refine (U.out _ _ _ A.inI).mono ?_
    rintro e w1 ⟨⟨avX, cvX, rfl, XX⟩, hb1⟩
    replace A := A.later hb1
    replace hB := old_trans hB hb1
    clear hb1
    go_wp2_with fail
    refine (V.out _ _ _ A.inI).mono ?_
    rintro e w2 ⟨⟨avY, cvY, rfl, YY⟩, hb2⟩
    replace A := A.later hb2
    replace XX := XX.later hb2
    replace hB := old_trans hB hb2
    clear hb2
    go_wp2_with fail
    refine (S.out _ _ _ A.inI).mono ?_
    rintro e w3 ⟨⟨_, _, rfl, -⟩, hb3⟩
    replace A := A.later hb3
    replace XX := XX.later hb3
    replace YY := YY.later hb3
    replace hB := old_trans hB hb3
    clear hb3
    go_wp2_with fail
    refine (P.out _ _ _ A.inI).mono ?_
    rintro e w4 ⟨⟨avP, cvP, rfl, PP⟩, hb4⟩
    replace A := A.later hb4
    replace XX := XX.later hb4
    replace YY := YY.later hb4
    replace hB := old_trans hB hb4
    clear hb4
    go_wp2_with fail
    refine (M.out _ _ _ _ _ XX.inI YY.inI).mono ?_
    rintro e w5 ⟨⟨avM, cvM, rfl, MM⟩, hb5⟩
    replace A := A.later hb5
    replace XX := XX.later hb5
    replace YY := YY.later hb5
    replace PP := PP.later hb5
    replace hB := old_trans hB hb5
    clear hb5
    go_wp2_with fail
    refine (PS.out _ _ _ _ _ _ _ PP.inI MM.inI).mono ?_
    rintro e w6 ⟨rfl, hb6⟩
    replace A := A.later hb6
    replace XX := XX.later hb6
    replace YY := YY.later hb6
    replace PP := PP.later hb6
    replace MM := MM.later hb6
    replace hB := old_trans hB hb6
    clear hb6
    go_wp2
    go_ret
    exact ⟨rfl, hB⟩
  · skip
    have hpf : powB (natL X) ((i + j : Nat) : Int) = false := by
      unfold powB
      rw [okL lx, val_natL, Int.toNat_natCast, fits_no lz]
      simp
    have hmf : mulB (natL (X ^ i)) (natL (X ^ j)) = false := by
      unfold mulB
      rw [okL lu, okL lv, val_natL, val_natL, ← hpa.out]
      exact fits_no lz
    have P := hd (fun a la ca w h1 => imPowN hpf a la ca w h1)
    have M := hd (fun a b la lb ca cb w h1 h2 => imMulN hmf a b la lb ca cb w h1 h2)
    rw [Int.natCast_add] at P
    clear lu lv lx lz hpa hs hpf hmf
    generalize natL (X ^ i) = xl at *
    generalize natL (X ^ j) = yl at *
    generalize natL X = al at *
    go_wp2_with fail
    refine (U.out _ _ _ A.inI).mono ?_
    rintro e w1 ⟨⟨avX, cvX, rfl, XX⟩, hb1⟩
    replace A := A.later hb1
    replace hB := old_trans hB hb1
    clear hb1
    go_wp2_with fail
    refine (V.out _ _ _ A.inI).mono ?_
    rintro e w2 ⟨⟨avY, cvY, rfl, YY⟩, hb2⟩
    replace A := A.later hb2
    replace XX := XX.later hb2
    replace hB := old_trans hB hb2
    clear hb2
    go_wp2_with fail
    refine (S.out _ _ _ A.inI).mono ?_
    rintro e w3 ⟨⟨_, _, rfl, -⟩, hb3⟩
    replace A := A.later hb3
    replace XX := XX.later hb3
    replace YY := YY.later hb3
    replace hB := old_trans hB hb3
    clear hb3
    go_wp2_with fail
    refine (P.out _ _ _ _ A.inI).mono ?_
    rintro e w4 ⟨⟨avP, cvP, rfl, PP⟩, hb4⟩
    replace A := A.later hb4
    replace XX := XX.later hb4
    replace YY := YY.later hb4
    replace hB := old_trans hB hb4
    clear hb4
    go_wp2_with fail
    refine (M.out _ _ _ _ _ _ _ XX.inI YY.inI).mono ?_
    rintro e w5 ⟨⟨avM, cvM, rfl, MM⟩, hb5⟩
    replace A := A.later hb5
    replace XX := XX.later hb5
    replace YY := YY.later hb5
    replace PP := PP.later hb5
    replace hB := old_trans hB hb5
    clear hb5
    go_wp2_with fail
    refine (PS.out _ _ _ _ _ _ _ PP.inI MM.inI).mono ?_
    rintro e w6 ⟨rfl, hb6⟩
    replace A := A.later hb6
    replace XX := XX.later hb6
    replace YY := YY.later hb6
    replace PP := PP.later hb6
    replace MM := MM.later hb6
    replace hB := old_trans hB hb6
    clear hb6
    go_wp2
    go_ret
    exact ⟨rfl, hB⟩

set_option maxRecDepth 100000 in
theorem FnNatPow_lifted (os : Os) (started : os.Started) (H : Type) (enc : TypeId × Value → H) :
    ReturnsInHanded {} Try.checked os 5 .any (Rows.fnNatPowSpec.pre6 enc Try.prog Try.f5 Rows.fnNatPowRow.domain false) (Rows.fnNatPowSpec.post enc Try.prog Try.f5 false true false false) := by
  refine returnsInHanded_of_change (C := Try.checked) FnNatPow_own started (by kernel_rfl) Try.func5
    (ChangeSpec.witness6 (enc := enc) (C := Try.checked) false ⟨#[], #[.slice none 0 0, .slice none 0 0], []⟩ 8 (by kernel_rfl) (by kernel_rfl) (by kernel_rfl) (by kernel_rfl)) ?_
  intro W base args ds gs before hval0 hW hcnd _
  have hval : ∀ (j : Nat) t v, Try.f5.params[j]? = some t → args[j]? = some v → Value.okWide Try.prog W .any base t v := hval0
  have hW' := hW
  obtain ⟨p, q, hA0, hV, rfl, hfz, hnd⟩ := hW
  have hA : DataW.TrodAll enc Try.prog W 0 (fun _ => true) true Try.f5.params.toList args.toList ds p := hA0
  rw [Try.params5] at hA hval
  obtain ⟨v0, vs0, d0, ds0, p0, q0, hargs, rfl, rfl, h0, r0⟩ := trodAll_cons hA
  obtain ⟨v1, vs1, d1, ds1, p1, q1, rfl, rfl, rfl, h1, r1⟩ := trodAll_cons r0
  obtain ⟨rfl, rfl, rfl⟩ := trodAll_nil r1
  obtain rfl : args = #[v0, v1] := by cases args; simp_all
  obtain ⟨rfl, rfl⟩ := trodVars_none hV
  have k0 := h0
  have lt0 : ∀ x ∈ p0, x.block < W.heap.size := by obtain ⟨m, hm⟩ := k0; exact DataW.trod_lt m _ _ _ hm
  obtain ⟨a0, len0, cap0, rfl, wb0⟩ := open_bytes (hval 0 22 v0 rfl rfl) h0
  have k1 := h1
  have lt1 : ∀ x ∈ p1, x.block < W.heap.size := by obtain ⟨m, hm⟩ := k1; exact DataW.trod_lt m _ _ _ hm
  obtain ⟨a1, len1, cap1, rfl, wb1⟩ := open_bytes (hval 1 22 v1 rfl rfl) h1
  clear hA0 hval0
  refine (FnNatPow_walk a0 len0 cap0 a1 len1 cap1 W wb0 wb1).mono fun e W' ⟨he, bel⟩ => ?_
  subst he
  exact ⟨_, rfl, _, _, _, [], _, [], hW', trodAll_mk1 (shut_bool Try.underlying4 _), (trodAll_cons_mk (Below.trod jf1 (by kernel_rfl) (of_decide_eq_true (by kernel_rfl)) k0 bel lt0) (trodAll_cons_mk (Below.trod jf1 (by kernel_rfl) (of_decide_eq_true (by kernel_rfl)) k1 bel lt1) trodAll_mk0)), rfl, bel.frame _, fun h => by cases h⟩

theorem FnNatPow_k0 : (Rows.fnNatPowRow.wf (OpenSpec.ofChange Rows.fnNatPowSpec)) = true := by kernel_rfl
theorem FnNatPow_k3 : (Try.f5.params.all (Try.prog.readableRec ·)) = true := by kernel_rfl
theorem FnNatPow_k4 : (namedTie Try.prog Rows.fnNatPowRow.named Rows.fnNatPowSpec.vars) = true := by kernel_rfl
theorem FnNatPow_k5 : ((Rows.fnNatPowRow.stops == [])) = true := by kernel_rfl
theorem FnNatPow_k7 : ((Rows.fnNatPowRow.knobs == [])) = true := by kernel_rfl
theorem FnNatPow_k9 : ((Rows.fnNatPowRow.inPlace == Try.prog.inPlace 5)) = true := by kernel_rfl
theorem FnNatPow_k10 : ((Rows.fnNatPowRow.unfollowed == Try.prog.unfollowed 5)) = true := by kernel_rfl
theorem FnNatPow_k11 : ((Rows.fnNatPowRow.recurses == Try.prog.recurses 5)) = true := by kernel_rfl
theorem FnNatPow_k12 : ((Rows.fnNatPowRow.named == Try.prog.varsNamed 5)) = true := by kernel_rfl
theorem FnNatPow_k13 : ((Rows.fnNatPowRow.maps == (Try.f5.params.toList ++ Rows.fnNatPowSpec.plain.varTypes Try.prog).any (Try.prog.mapsRec ·))) = true := by kernel_rfl
theorem FnNatPow_k14 : ((Rows.fnNatPowRow.ifaces == (Try.f5.params.toList ++ Rows.fnNatPowSpec.plain.varTypes Try.prog).any (Try.prog.ifacesRec ·))) = true := by kernel_rfl
theorem FnNatPow_k15 : ((Rows.fnNatPowRow.mapsOut == Try.prog.mapsAmong Try.f5.resultTypes.toList)) = true := by kernel_rfl
theorem FnNatPow_k16 : ((Rows.fnNatPowRow.loops == (Try.f5.params.toList ++ Rows.fnNatPowSpec.plain.varTypes Try.prog).any (Try.prog.loopsFrom ·))) = true := by kernel_rfl
theorem FnNatPow_k17 : ((Rows.fnNatPowRow.wideKeys == (Try.f5.params.toList ++ Rows.fnNatPowSpec.plain.varTypes Try.prog ++ Try.f5.resultTypes.toList).any (Try.prog.wideKeysFrom ·))) = true := by kernel_rfl
theorem FnNatPow_k18 : (Rows.fnNatPowSpec.vars.all (Try.prog.varReadable ·)) = true := by kernel_rfl
theorem FnNatPow_k19 : (Try.f5.resultTypes.all (fun t => Try.prog.readableRec t && decide (t < Try.prog.types.size))) = true := by kernel_rfl
theorem FnNatPow_k20 : ((Rows.fnNatPowRow.ifacesOut == Try.f5.resultTypes.toList.any (Try.prog.ifacesRec ·))) = true := by kernel_rfl
theorem FnNatPow_k21 : ((Rows.fnNatPowRow.loopsOut == Try.f5.resultTypes.toList.any (Try.prog.loopsFrom ·))) = true := by kernel_rfl
theorem FnNatPow_k23 : (Rows.fnNatPowRow.shortTexts.isNone) = true := by kernel_rfl
theorem FnNatPow_k28 : ((Rows.fnNatPowRow.kinds == (if Rows.fnNatPowRow.domain.isEmpty then [] else Try.f5.params.toList.map fun t => match Try.prog.underlying t with | some (.int k) => some k | _ => none))) = true := by kernel_rfl
theorem FnNatPow_k29 : ((Rows.fnNatPowRow.pinned == Rows.fnNatPowRow.pinnedBy)) = true := by kernel_rfl
theorem FnNatPow_k30 : ((Rows.fnNatPowRow.veiled == (Try.f5.params.toList ++ Rows.fnNatPowSpec.plain.varTypes Try.prog ++ Try.f5.resultTypes.toList).any (Try.prog.veiledRec ·))) = true := by kernel_rfl
theorem FnNatPow_k31 : (Rows.fnNatPowRow.veiledFits Try.prog Try.f5.params.toList (Try.f5.params.toList ++ Rows.fnNatPowSpec.plain.varTypes Try.prog ++ Try.f5.resultTypes.toList)) = true := by kernel_rfl
set_option maxRecDepth 100000 in
theorem FnNatPow_closed : joinedFacts Try.prog 5 Try.f5 Rows.fnNatPowSpec Rows.fnNatPowRow = true := (and2 (and2 (and2 (and2 (and2 (and2 (and2 (and2 (and2 (and2 (and2 (and2 (and2 (and2 (and2 (and2 (and2 (and2 (and2 (and2 (and2 (and2 (and2 (and2 (and2 (and2 (and2 (and2 (and2 (and2 (and2 FnNatPow_k0 jf1) jf2) FnNatPow_k3) FnNatPow_k4) FnNatPow_k5) jf6) FnNatPow_k7) jf8) FnNatPow_k9) FnNatPow_k10) FnNatPow_k11) FnNatPow_k12) FnNatPow_k13) FnNatPow_k14) FnNatPow_k15) FnNatPow_k16) FnNatPow_k17) FnNatPow_k18) FnNatPow_k19) FnNatPow_k20) FnNatPow_k21) jf22) FnNatPow_k23) jf24) jf25) jf26) jf27) FnNatPow_k28) FnNatPow_k29) FnNatPow_k30) FnNatPow_k31)
theorem FnNatPow_over : Rows.fnNatPowRow.holds Try.pinned (OpenSpec.ofChange Rows.fnNatPowSpec) :=
  OpenClaim.holds_of_wide 5 Try.f5 rfl rfl rfl rfl rfl rfl rfl ⟨rfl, rfl, rfl, rfl, rfl⟩ rfl rfl rfl rfl rfl (by kernel_rfl) Try.func5 FnNatPow_closed
    (of_decide_eq_true (by kernel_rfl)) (by unfold Func.isWrapper; first | (rw [if_pos (by decide +kernel)]; kernel_rfl) | (rw [if_neg (by decide +kernel)]; exact ⟨rfl, rfl⟩))
    (fun os started H enc _ => FnNatPow_lifted os started H enc)

theorem FnNatPow_proved : Rows.FnNatPowSaid := FnNatPow_over
end Go.Proofs.Ytglbbhkfodkljaa
