/- For every code of bytes, of the list drawn from it: the program's NatRoot tells as the specification whether it is a number; the square of the root is not above it, equal just if the root is told exact, and the square of the next number is above it. The law answers true; nothing that was there is written. No condition. -/
import Derived.Test.YthgdfijlnaaplaaRows
import Derived.WalkKit
import Derived.ProofKit
import Derived.OpenShut
import Derived.Below
import Derived.Carry
import Derived.Test.YthgdfijlnaaplaaN0
import Derived.Test.YthgdfijlnaaplaaUL
import Derived.Test.YthgdfijlnaaplaaUM
import Derived.Test.YthgdfijlnaaplaaUO
import Derived.Test.YthgdfijlnaaplaaBV
import Derived.Test.YthgdfijlnaaplaaUP
import Derived.Test.YthgdfijlnaaplaaBJ
namespace Go.Proofs.Ythgdfijlnaaplaa
open Go.ChangeShapes Go.WideShapes Go.ChangeAt Go.RowKit
set_option linter.unusedVariables false

theorem FnNatRoot_own : ownKnob Try.prog.godebug = none := by kernel_rfl

set_option maxRecDepth 100000 in
set_option maxHeartbeats 16000000 in
theorem FnNatRoot_walk (a0 : Option Addr) (len0 cap0 : Nat) (w : World) (wb0 : IsCode w a0 len0 cap0):
    Calls Try.prog 3 #[.slice a0 len0 cap0] w fun e w' => e = .returned (.bool true) ∧ Below w.heap.size w w' := by
  have hlen0 := wb0.2.1
  have hle0 := wb0.1
  by_cases c0 : (len0 : Int) ≤ 1048576
  case neg =>
    have c0' : (1048576 : Int) < (len0 : Int) := by omega
    go_enter Try.func3, Try.ntmps3
    go_wp2
    go_ret
    exact ⟨rfl, (by repeat (first | exact Below.refl _ _ | refine Below.drew ?_ | refine old_alloc ?_ _ | refine old_trans ?_ (by assumption)))⟩
  have D0 := hd (drawNatRoot w a0 len0 cap0 wb0)
  clear wb0 hlen0 hle0
  go_enter Try.func3, Try.ntmps3
  go_wp2_with fail
  refine D0.out.mono ?_
  rintro e w0 ⟨⟨avA, cvA, xs, rfl, A, -⟩, hB⟩
  clear D0 c0
  obtain ⟨r, hr⟩ := root_is (val xs)
  cases hx : natOk xs
  · skip
    have NR := hd (fun a la ca w h1 => iNatRoot a la ca xs r hr w h1)
    have NO := hd (fun a la ca w h1 => sNatOk a la ca xs w h1)
    rw [hx] at NR NO
    generalize resN false r = rl at *
    generalize rootX xs r = ex at *
    clear hx hr
    go_wp2_with fail
    refine (NR.out _ _ _ _ A.inI).mono ?_
    rintro e w1 ⟨⟨_, _, rfl, -⟩, hb1⟩
    replace A := A.later hb1
    replace hB := old_trans hB hb1
    clear hb1
    go_wp2_with fail
    refine (NO.out _ _ _ _ A.inI).mono ?_
    rintro e w9 ⟨rfl, rfl⟩
    go_wp2
    go_ret
    exact ⟨rfl, hB⟩
  have NR := hd (fun a la ca w h1 => iNatRoot a la ca xs r hr w h1)
  have NO := hd (fun a la ca w h1 => sNatOk a la ca xs w h1)
  have e1 : rootX xs r = decide (r * r = val xs) := by unfold rootX; rw [hx]; rfl
  rw [e1, hx, show resN true r = natL r from rfl] at NR
  rw [hx] at NO
  obtain ⟨X, rfl, lx⟩ := okX hx
  rw [val_natL] at hr NR
  have hrr : r * r ≤ X := hr.1
  have hr2 : X < (r + 1) * (r + 1) := hr.2
  have lr : (natL r).length ≤ 256 := Nat.le_trans (natL_le (Nat.le_trans sq_ge hrr)) lx
  have lr1 : (natL (r + 1)).length ≤ 256 := up_len hrr lx
  have ls : (natL (r * r)).length ≤ 256 := Nat.le_trans (natL_le hrr) lx
  have l1 : (natL 1).length ≤ 256 := by rw [one_len]; omega
  have M1 := hd (fun a b ca cb w h1 h2 => imMul (X := r) (Y := r) rfl lr lr ls a b ca cb w h1 h2)
  have A1 := hd (fun a b ca cb w h1 h2 => imAdd (X := r) (Y := 1) rfl lr l1 lr1 a b ca cb w h1 h2)
  obtain ⟨c, hc, hc1, hc0⟩ : ∃ c : Int, cmpI (r * r) X = c ∧ (c == 1) = false ∧ (c == 0) = decide (r * r = X) := by
    rcases Nat.lt_or_ge (r * r) X with g | g
    · exact ⟨-1, cmpI_lt g, by decide, by rw [decide_eq_false (by omega)]; decide⟩
    · have e : r * r = X := by omega
      exact ⟨0, by rw [e]; exact cmpI_eq _, by decide, by rw [decide_eq_true e]; decide⟩
  have C1 := hd (fun a b ca cb w h1 h2 => imCmp hc ls lx a b ca cb w h1 h2)
  rw [one_len] at A1
  have hone := hd (fun w => one_oi w 3)
  clear e1 hx hr hc hrr
  generalize decide (r * r = X) = ex at *
  by_cases lt : (natL ((r + 1) * (r + 1))).length ≤ 256
  · skip
    have M2 := hd (fun a b ca cb w h1 h2 => imMul (X := r + 1) (Y := r + 1) rfl lr1 lr1 lt a b ca cb w h1 h2)
    have C2 := hd (fun a b ca cb w h1 h2 => imCmp (cmpI_gt hr2) lt lx a b ca cb w h1 h2)
    clear lx lr lr1 ls l1 lt hr2
    generalize natL ((r + 1) * (r + 1)) = tl at *
    generalize natL (r + 1) = ul at *
    generalize natL (r * r) = sl at *
    generalize natL r = rl at *
    generalize natL X = xl at *
    go_wp2_with fail
    refine (NR.out _ _ _ _ A.inI).mono ?_
    rintro e w1 ⟨⟨avR, cvR, rfl, R⟩, hb1⟩
    replace A := A.later hb1
    replace hB := old_trans hB hb1
    clear hb1
    go_wp2_with fail
    refine (NO.out _ _ _ _ A.inI).mono ?_
    rintro e w9 ⟨rfl, rfl⟩
    go_wp2_with fail
    refine (M1.out _ _ _ _ _ R.inI R.inI).mono ?_
    rintro e w2 ⟨⟨avS, cvS, rfl, S⟩, hb2⟩
    replace A := A.later hb2
    replace R := R.later hb2
    replace hB := old_trans hB hb2
    clear hb2
    go_wp2_with fail
    refine (C1.out _ _ _ _ _ S.inI A.inI).mono ?_
    rintro e w3 ⟨rfl, hb3⟩
    replace A := A.later hb3
    replace R := R.later hb3
    replace S := S.later hb3
    replace hB := old_trans hB hb3
    clear hb3
    go_wp2_with fail
    refine (C1.out _ _ _ _ _ S.inI A.inI).mono ?_
    rintro e w4 ⟨rfl, hb4⟩
    replace A := A.later hb4
    replace R := R.later hb4
    replace S := S.later hb4
    replace hB := old_trans hB hb4
    clear hb4
    clear S
    have al : Below w4.heap.size w4 (w4.alloc (.cells #[.int .i64 1] 3)) := old_alloc (Below.refl _ _) _
    have ON := hone.out w4
    replace A := A.later al
    replace R := R.later al
    replace hB := old_trans hB al
    clear al
    go_wp2_with fail
    refine (A1.out _ _ _ _ _ R.inI ON.inI1).mono ?_
    rintro e w5 ⟨⟨avU, cvU, rfl, U⟩, hb5⟩
    replace A := A.later hb5
    replace R := R.later hb5
    replace hB := old_trans hB hb5
    clear hb5
    go_wp2_with fail
    refine (M2.out _ _ _ _ _ U.inI U.inI).mono ?_
    rintro e w6 ⟨⟨avT, cvT, rfl, T⟩, hb6⟩
    replace A := A.later hb6
    replace R := R.later hb6
    replace U := U.later hb6
    replace hB := old_trans hB hb6
    clear hb6
    go_wp2_with fail
    refine (C2.out _ _ _ _ _ T.inI A.inI).mono ?_
    rintro e w7 ⟨rfl, hb7⟩
    replace A := A.later hb7
    replace R := R.later hb7
    replace U := U.later hb7
    replace T := T.later hb7
    replace hB := old_trans hB hb7
    clear hb7
    go_wp2
    go_ret
    exact ⟨rfl, hB⟩
  · skip
    have hmf : mulB (natL (r + 1)) (natL (r + 1)) = false := by
      unfold mulB
      rw [okL lr1, val_natL]
      exact fits_no lt
    have M2 := hd (fun a b la lb ca cb w h1 h2 => imMulN hmf a b la lb ca cb w h1 h2)
    clear hmf
    clear lx lr lr1 ls l1 lt hr2
    generalize natL (r + 1) = ul at *
    generalize natL (r * r) = sl at *
    generalize natL r = rl at *
    generalize natL X = xl at *
    go_wp2_with fail
    refine (NR.out _ _ _ _ A.inI).mono ?_
    rintro e w1 ⟨⟨avR, cvR, rfl, R⟩, hb1⟩
    replace A := A.later hb1
    replace hB := old_trans hB hb1
    clear hb1
    go_wp2_with fail
    refine (NO.out _ _ _ _ A.inI).mono ?_
    rintro e w9 ⟨rfl, rfl⟩
    go_wp2_with fail
    refine (M1.out _ _ _ _ _ R.inI R.inI).mono ?_
    rintro e w2 ⟨⟨avS, cvS, rfl, S⟩, hb2⟩
    replace A := A.later hb2
    replace R := R.later hb2
    replace hB := old_trans hB hb2
    clear hb2
    go_wp2_with fail
    refine (C1.out _ _ _ _ _ S.inI A.inI).mono ?_
    rintro e w3 ⟨rfl, hb3⟩
    replace A := A.later hb3
    replace R := R.later hb3
    replace S := S.later hb3
    replace hB := old_trans hB hb3
    clear hb3
    go_wp2_with fail
    refine (C1.out _ _ _ _ _ S.inI A.inI).mono ?_
    rintro e w4 ⟨rfl, hb4⟩
    replace A := A.later hb4
    replace R := R.later hb4
    replace S := S.later hb4
    replace hB := old_trans hB hb4
    clear hb4
    clear S
    have al : Below w4.heap.size w4 (w4.alloc (.cells #[.int .i64 1] 3)) := old_alloc (Below.refl _ _) _
    have ON := hone.out w4
    replace A := A.later al
    replace R := R.later al
    replace hB := old_trans hB al
    clear al
    go_wp2_with fail
    refine (A1.out _ _ _ _ _ R.inI ON.inI1).mono ?_
    rintro e w5 ⟨⟨avU, cvU, rfl, U⟩, hb5⟩
    replace A := A.later hb5
    replace R := R.later hb5
    replace hB := old_trans hB hb5
    clear hb5
    go_wp2_with fail
    refine (M2.out _ _ _ _ _ _ _ U.inI U.inI).mono ?_
    rintro e w6 ⟨⟨_, _, rfl, -⟩, hb6⟩
    replace A := A.later hb6
    replace R := R.later hb6
    replace U := U.later hb6
    replace hB := old_trans hB hb6
    clear hb6
    go_wp2
    go_ret
    exact ⟨rfl, hB⟩

set_option maxRecDepth 100000 in
theorem FnNatRoot_lifted (os : Os) (started : os.Started) (H : Type) (enc : TypeId × Value → H) :
    ReturnsInHanded {} Try.checked os 3 .any (Rows.fnNatRootSpec.pre6 enc Try.prog Try.f3 Rows.fnNatRootRow.domain false) (Rows.fnNatRootSpec.post enc Try.prog Try.f3 false true false false) := by
  refine returnsInHanded_of_change (C := Try.checked) FnNatRoot_own started (by kernel_rfl) Try.func3
    (ChangeSpec.witness6 (enc := enc) (C := Try.checked) false ⟨#[], #[.slice none 0 0], []⟩ 8 (by kernel_rfl) (by kernel_rfl) (by kernel_rfl) (by kernel_rfl)) ?_
  intro W base args ds gs before hval0 hW hcnd _
  have hval : ∀ (j : Nat) t v, Try.f3.params[j]? = some t → args[j]? = some v → Value.okWide Try.prog W .any base t v := hval0
  have hW' := hW
  obtain ⟨p, q, hA0, hV, rfl, hfz, hnd⟩ := hW
  have hA : DataW.TrodAll enc Try.prog W 0 (fun _ => true) true Try.f3.params.toList args.toList ds p := hA0
  rw [Try.params3] at hA hval
  obtain ⟨v0, vs0, d0, ds0, p0, q0, hargs, rfl, rfl, h0, r0⟩ := trodAll_cons hA
  obtain ⟨rfl, rfl, rfl⟩ := trodAll_nil r0
  obtain rfl : args = #[v0] := by cases args; simp_all
  obtain ⟨rfl, rfl⟩ := trodVars_none hV
  have k0 := h0
  have lt0 : ∀ x ∈ p0, x.block < W.heap.size := by obtain ⟨m, hm⟩ := k0; exact DataW.trod_lt m _ _ _ hm
  obtain ⟨a0, len0, cap0, rfl, wb0⟩ := open_bytes (hval 0 22 v0 rfl rfl) h0
  clear hA0 hval0
  refine (FnNatRoot_walk a0 len0 cap0 W wb0).mono fun e W' ⟨he, bel⟩ => ?_
  subst he
  exact ⟨_, rfl, _, _, _, [], _, [], hW', trodAll_mk1 (shut_bool Try.underlying4 _), (trodAll_cons_mk (Below.trod jf1 (by kernel_rfl) (of_decide_eq_true (by kernel_rfl)) k0 bel lt0) trodAll_mk0), rfl, bel.frame _, fun h => by cases h⟩

theorem FnNatRoot_k0 : (Rows.fnNatRootRow.wf (OpenSpec.ofChange Rows.fnNatRootSpec)) = true := by kernel_rfl
theorem FnNatRoot_k3 : (Try.f3.params.all (Try.prog.readableRec ·)) = true := by kernel_rfl
theorem FnNatRoot_k4 : (namedTie Try.prog Rows.fnNatRootRow.named Rows.fnNatRootSpec.vars) = true := by kernel_rfl
theorem FnNatRoot_k5 : ((Rows.fnNatRootRow.stops == [])) = true := by kernel_rfl
theorem FnNatRoot_k7 : ((Rows.fnNatRootRow.knobs == [])) = true := by kernel_rfl
theorem FnNatRoot_k9 : ((Rows.fnNatRootRow.inPlace == Try.prog.inPlace 3)) = true := by kernel_rfl
theorem FnNatRoot_k10 : ((Rows.fnNatRootRow.unfollowed == Try.prog.unfollowed 3)) = true := by kernel_rfl
theorem FnNatRoot_k11 : ((Rows.fnNatRootRow.recurses == Try.prog.recurses 3)) = true := by kernel_rfl
theorem FnNatRoot_k12 : ((Rows.fnNatRootRow.named == Try.prog.varsNamed 3)) = true := by kernel_rfl
theorem FnNatRoot_k13 : ((Rows.fnNatRootRow.maps == (Try.f3.params.toList ++ Rows.fnNatRootSpec.plain.varTypes Try.prog).any (Try.prog.mapsRec ·))) = true := by kernel_rfl
theorem FnNatRoot_k14 : ((Rows.fnNatRootRow.ifaces == (Try.f3.params.toList ++ Rows.fnNatRootSpec.plain.varTypes Try.prog).any (Try.prog.ifacesRec ·))) = true := by kernel_rfl
theorem FnNatRoot_k15 : ((Rows.fnNatRootRow.mapsOut == Try.prog.mapsAmong Try.f3.resultTypes.toList)) = true := by kernel_rfl
theorem FnNatRoot_k16 : ((Rows.fnNatRootRow.loops == (Try.f3.params.toList ++ Rows.fnNatRootSpec.plain.varTypes Try.prog).any (Try.prog.loopsFrom ·))) = true := by kernel_rfl
theorem FnNatRoot_k17 : ((Rows.fnNatRootRow.wideKeys == (Try.f3.params.toList ++ Rows.fnNatRootSpec.plain.varTypes Try.prog ++ Try.f3.resultTypes.toList).any (Try.prog.wideKeysFrom ·))) = true := by kernel_rfl
theorem FnNatRoot_k18 : (Rows.fnNatRootSpec.vars.all (Try.prog.varReadable ·)) = true := by kernel_rfl
theorem FnNatRoot_k19 : (Try.f3.resultTypes.all (fun t => Try.prog.readableRec t && decide (t < Try.prog.types.size))) = true := by kernel_rfl
theorem FnNatRoot_k20 : ((Rows.fnNatRootRow.ifacesOut == Try.f3.resultTypes.toList.any (Try.prog.ifacesRec ·))) = true := by kernel_rfl
theorem FnNatRoot_k21 : ((Rows.fnNatRootRow.loopsOut == Try.f3.resultTypes.toList.any (Try.prog.loopsFrom ·))) = true := by kernel_rfl
theorem FnNatRoot_k23 : (Rows.fnNatRootRow.shortTexts.isNone) = true := by kernel_rfl
theorem FnNatRoot_k28 : ((Rows.fnNatRootRow.kinds == (if Rows.fnNatRootRow.domain.isEmpty then [] else Try.f3.params.toList.map fun t => match Try.prog.underlying t with | some (.int k) => some k | _ => none))) = true := by kernel_rfl
theorem FnNatRoot_k29 : ((Rows.fnNatRootRow.pinned == Rows.fnNatRootRow.pinnedBy)) = true := by kernel_rfl
theorem FnNatRoot_k30 : ((Rows.fnNatRootRow.veiled == (Try.f3.params.toList ++ Rows.fnNatRootSpec.plain.varTypes Try.prog ++ Try.f3.resultTypes.toList).any (Try.prog.veiledRec ·))) = true := by kernel_rfl
theorem FnNatRoot_k31 : (Rows.fnNatRootRow.veiledFits Try.prog Try.f3.params.toList (Try.f3.params.toList ++ Rows.fnNatRootSpec.plain.varTypes Try.prog ++ Try.f3.resultTypes.toList)) = true := by kernel_rfl
set_option maxRecDepth 100000 in
theorem FnNatRoot_closed : joinedFacts Try.prog 3 Try.f3 Rows.fnNatRootSpec Rows.fnNatRootRow = true := (and2 (and2 (and2 (and2 (and2 (and2 (and2 (and2 (and2 (and2 (and2 (and2 (and2 (and2 (and2 (and2 (and2 (and2 (and2 (and2 (and2 (and2 (and2 (and2 (and2 (and2 (and2 (and2 (and2 (and2 (and2 FnNatRoot_k0 jf1) jf2) FnNatRoot_k3) FnNatRoot_k4) FnNatRoot_k5) jf6) FnNatRoot_k7) jf8) FnNatRoot_k9) FnNatRoot_k10) FnNatRoot_k11) FnNatRoot_k12) FnNatRoot_k13) FnNatRoot_k14) FnNatRoot_k15) FnNatRoot_k16) FnNatRoot_k17) FnNatRoot_k18) FnNatRoot_k19) FnNatRoot_k20) FnNatRoot_k21) jf22) FnNatRoot_k23) jf24) jf25) jf26) jf27) FnNatRoot_k28) FnNatRoot_k29) FnNatRoot_k30) FnNatRoot_k31)
theorem FnNatRoot_over : Rows.fnNatRootRow.holds Try.pinned (OpenSpec.ofChange Rows.fnNatRootSpec) :=
  OpenClaim.holds_of_wide 3 Try.f3 rfl rfl rfl rfl rfl rfl rfl ⟨rfl, rfl, rfl, rfl, rfl⟩ rfl rfl rfl rfl rfl (by kernel_rfl) Try.func3 FnNatRoot_closed
    (of_decide_eq_true (by kernel_rfl)) (by unfold Func.isWrapper; first | (rw [if_pos (by decide +kernel)]; kernel_rfl) | (rw [if_neg (by decide +kernel)]; exact ⟨rfl, rfl⟩))
    (fun os started H enc _ => FnNatRoot_lifted os started H enc)

theorem FnNatRoot_proved : Rows.FnNatRootSaid := FnNatRoot_over
end Go.Proofs.Ythgdfijlnaaplaa
