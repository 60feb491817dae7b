/- For every code of bytes the middle of the two numbers drawn from it lies between them, both halves are all steps and differ by one at most: the law answers true; nothing that was there is written. No condition. -/
import Derived.Test.YtljmmaaaeojbpaaRows
import Derived.WalkKit
import Derived.ProofKit
import Derived.OpenShut
import Derived.ShutString
import Derived.ChangeOld
import Derived.Below
import Derived.Deep.RegionHeld
import Derived.Test.YtljmmaaaeojbpaaD6
import Derived.Test.YtljmmaaaeojbpaaW7
import Derived.Test.YtljmmaaaeojbpaaJ0
import Derived.Test.YtljmmaaaeojbpaaJ1
import Derived.Test.YtljmmaaaeojbpaaJ2
import Derived.Test.YtljmmaaaeojbpaaJ3
namespace Go.Proofs.Ytljmmaaaeojbpaa
open Go.ChangeShapes Go.WideShapes Go.ChangeAt Go.RowKit
open Go.ChangeMaps (open_string shut_string)
set_option linter.unusedVariables false

theorem FnBitMiddle_own : ownKnob Try.prog.godebug = none := by kernel_rfl
theorem FnBitMiddle_laidOut : laidOutB Try.prog = true := by kernel_rfl

/-- WHAT THE WALK IS TOLD OF A SLICE OF INTEGERS THAT CAME IN: it is nil; or it leads to a row of 'cap' cells, the numbers 'zs' (the first 'len' are its elements, the rest its spare room), each fitting its kind. -/
def IsRow (k : IntKind) (w : World) (a : Option Addr) (len cap : Nat) (zs : List Int) : Prop :=
  (a = none ∧ len = 0 ∧ cap = 0 ∧ zs = []) ∨
  ∃ x, a = some x ∧ len ≤ cap ∧ cap ≤ maxLen ∧ zs.length = cap ∧ (∀ i, i < zs.length → w.cell? (x.add i) = some (.int k (zs.getD i 0))) ∧ ∀ n ∈ zs, (Lit.int k n).wf = true

theorem row_code {w : World} {a : Option Addr} {len cap : Nat} {zs : List Int} (h : IsRow .u8 w a len cap zs) : IsCode w a len cap := by
  rcases h with ⟨rfl, rfl, rfl, rfl⟩ | ⟨x, rfl, hl, hm, hz, hcell, hwz⟩
  · exact ⟨by omega, by omega, .inl rfl⟩
  · unfold maxLen at hm
    refine ⟨hl, by omega, ?_⟩
    by_cases h0 : len = 0
    · exact .inl h0
    obtain ⟨b, off, spot⟩ := x
    have hc := hcell 0 (by omega)
    have hspot : spot = none := by simpa [Addr.add] using World.cell?_spot hc
    subst hspot
    have hb := World.block_lt_of_cell? w _ hc
    refine .inr ⟨b, off, rfl, by simpa [Addr.add] using hb, fun i hi => ?_⟩
    have hci := hcell i (by omega)
    have hw : (Lit.int .u8 (zs.getD i 0)).wf = true := by
      apply hwz
      rw [List.getD_eq_getElem?_getD, List.getElem?_eq_getElem (by omega)]
      exact List.getElem_mem _
    obtain ⟨z0, z1⟩ := bounds_u8 hw
    have e : (⟨b, off, none⟩ : Addr).add i = ⟨b, off + i, none⟩ := by
      by_cases h : i = 0
      · subst h; simp [Addr.add]
      · simp [Addr.add, h]
    rw [e] at hci
    exact ⟨_, z0, z1, hci⟩

set_option maxHeartbeats 1000000 in
theorem FnBitMiddle_walk (a0 : Option Addr) (len0 cap0 : Nat) (z0 : List Int) (w : World) (w0 : IsRow .u8 w a0 len0 cap0 z0) :
    Calls Try.prog 6 #[.slice a0 len0 cap0] w fun e w' => e = .returned (.bool true) ∧ Below w.heap.size w w' := by
  have hcode := row_code w0
  by_cases c : (1048576 : Int) < (len0 : Int)
  · have t0 : decide ((1048576 : Int) < (len0 : Int)) = true := by simp; omega
    go_enter Try.func6, Try.ntmps6
    go_wp2
    go_ret
    exact ⟨rfl, (by repeat (first | exact Below.refl _ _ | refine Below.drew ?_ | refine old_alloc ?_ _ | refine old_trans ?_ (by assumption)))⟩
  have t0 : decide ((1048576 : Int) < (len0 : Int)) = false := by simp; omega
  clear w0
  go_enter Try.func6, Try.ntmps6
  go_wp2_with fail
  refine (drawMiddle w a0 len0 cap0 hcode).mono ?_
  rintro e w1 ⟨⟨lo, hi, ⟨⟨l1, l2⟩, k1, k2⟩, rfl⟩, hb1⟩
  clear hcode
  go_wp2_with fail
  refine (iMid lo hi l1 l2 k1 k2 _).mono ?_
  rintro e w2 ⟨rfl, hb2⟩
  go_wp2_with fail
  refine (iGap lo hi l1 l2 k1 k2 _).mono ?_
  rintro e w3 ⟨rfl, hb3⟩
  go_wp2_with fail
  refine (sGap lo hi l1 l2 k1 k2 _).mono ?_
  rintro e w4 ⟨rfl, hb4⟩
  by_cases c2 : hi < lo
  · have e1 : gapI lo hi = 0 := by unfold gapI; rw [if_pos c2]
    have e2 : midI lo hi = lo := by unfold midI; rw [e1]; simp
    rw [e1, e2]
    have t1 : decide (hi < lo) = true := by simpa using c2
    go_wp2
    go_ret
    exact ⟨rfl, (by repeat (first | exact Below.refl _ _ | refine Below.drew ?_ | refine old_alloc ?_ _ | refine old_trans ?_ (by assumption)))⟩
  have e1 : gapI lo hi = hi - lo := by unfold gapI; rw [if_neg c2]
  obtain ⟨m, hm⟩ : ∃ m, midI lo hi = m := ⟨_, rfl⟩
  have hm2 : m = lo + (hi - lo) / 2 := by rw [← hm]; unfold midI; rw [e1]
  rw [hm]
  have m1 : lo ≤ m := by omega
  have m2 : m ≤ hi := by omega
  have e2 : gapI lo m = m - lo := by unfold gapI; rw [if_neg (by omega)]
  have e3 : gapI m hi = hi - m := by unfold gapI; rw [if_neg (by omega)]
  obtain ⟨A, hA⟩ : ∃ A, A = m - lo := ⟨_, rfl⟩
  obtain ⟨B, hB⟩ : ∃ B, B = hi - m := ⟨_, rfl⟩
  have g1 := iGap lo m l1 l2 (by omega) (by omega)
  have g2 := iGap m hi (by omega) (by omega) k1 k2
  rw [e2, ← hA] at g1
  rw [e3, ← hB] at g2
  have eG : gapI lo hi = A + B := by rw [e1]; omega
  rw [eG]
  have a1 : 0 ≤ A := by omega
  have a2 : A ≤ B := by omega
  have a3 : B - A ≤ 1 := by omega
  have a4 : A + B ≤ 18446744073709551615 := by omega
  have G1 : Hid (∀ w, Calls Try.prog 36 #[.int .i64 lo, .int .i64 m] w fun e w' => e = .returned (.int .u64 A) ∧ Below w.heap.size w w') := g1
  have G2 : Hid (∀ w, Calls Try.prog 36 #[.int .i64 m, .int .i64 hi] w fun e w' => e = .returned (.int .u64 B) ∧ Below w.heap.size w w') := g2
  clear g1 g2 e1 e2 e3 eG hm hm2 hA hB
  go_wp2_with fail
  refine (G1.out _).mono ?_
  rintro e w5 ⟨rfl, hb5⟩
  go_wp2_with fail
  refine (G2.out _).mono ?_
  rintro e w6 ⟨rfl, hb6⟩
  go_wp2
  all_goals
    go_ret
    exact ⟨rfl, (by repeat (first | exact Below.refl _ _ | refine Below.drew ?_ | refine old_alloc ?_ _ | refine old_trans ?_ (by assumption)))⟩
set_option maxRecDepth 100000 in
theorem FnBitMiddle_lifted (os : Os) (started : os.Started) (H : Type) (enc : TypeId × Value → H) :
    ReturnsInHanded {} Try.checked os 6 .any (Rows.fnBitMiddleSpec.pre6 enc Try.prog Try.f6 Rows.fnBitMiddleRow.domain false) (Rows.fnBitMiddleSpec.post enc Try.prog Try.f6 false true false false) := by
  refine returnsInHanded_of_change (C := Try.checked) FnBitMiddle_own started (by kernel_rfl) Try.func6
    (ChangeSpec.witness6 (enc := enc) (C := Try.checked) false ⟨#[], #[.slice none 0 0], []⟩ 8 (by kernel_rfl) (by kernel_rfl) (by kernel_rfl) (by kernel_rfl)) ?_
  intro W base args ds gs before hval0 hW hcnd _
  have hval : ∀ (j : Nat) t v, Try.f6.params[j]? = some t → args[j]? = some v → Value.okWide Try.prog W .any base t v := hval0
  have hW' := hW
  obtain ⟨p, q, hA0, hV, rfl, hfz, hnd⟩ := hW
  have hA : DataW.TrodAll enc Try.prog W 0 (fun _ => true) true Try.f6.params.toList args.toList ds p := hA0
  rw [Try.params6] at hA hval
  obtain ⟨v0, vs0, d0, ds0, p0, q0, hargs, rfl, rfl, h0, r0⟩ := trodAll_cons hA
  obtain ⟨rfl, rfl, rfl⟩ := trodAll_nil r0
  obtain rfl : args = #[v0] := by cases args; simp_all
  obtain ⟨rfl, rfl⟩ := trodVars_none hV
  obtain ⟨a0, len0, cap0, rfl⟩ := okWide_slice Try.underlying22 (hval 0 22 v0 rfl rfl)
  have k0 := h0
  have lt0 : ∀ x ∈ p0, x.block < W.heap.size := by obtain ⟨m, hm⟩ := k0; exact DataW.trod_lt m _ _ _ hm
  obtain ⟨z0, w0⟩ : ∃ zs, IsRow .u8 W a0 len0 cap0 zs := by
    obtain ⟨fuel, hf⟩ := h0
    rcases open_ints Try.underlying22 Try.underlying5 (by kernel_rfl) hf with ⟨hcs, _⟩ | ⟨x, l, c, zs, hcs, _, hl, hm, hz, _, hcell, hwz⟩
    · simp [Value.cells] at hcs
      obtain ⟨rfl, rfl, rfl⟩ := hcs
      exact ⟨[], .inl ⟨rfl, rfl, rfl, rfl⟩⟩
    · simp [Value.cells] at hcs
      obtain ⟨rfl, rfl, rfl⟩ := hcs
      exact ⟨zs, .inr ⟨_, rfl, hl, hm, by simpa using hz, hcell, hwz⟩⟩
  clear hA0 hval0
  refine (FnBitMiddle_walk a0 len0 cap0 z0 W w0).mono fun e W' ⟨he, bel⟩ => ?_
  subst he
  exact ⟨_, rfl, _, _, _, [], _, [], hW', trodAll_mk1 (shut_bool Try.underlying4 _), (trodAll_cons_mk (Below.trod FnBitMiddle_laidOut (by kernel_rfl) (of_decide_eq_true (by kernel_rfl)) k0 bel lt0) trodAll_mk0), rfl, bel.frame _, fun h => by cases h⟩

theorem FnBitMiddle_k0 : (Rows.fnBitMiddleRow.wf (OpenSpec.ofChange Rows.fnBitMiddleSpec)) = true := by kernel_rfl
theorem FnBitMiddle_k3 : (Try.f6.params.all (Try.prog.readableRec ·)) = true := by kernel_rfl
theorem FnBitMiddle_k4 : (namedTie Try.prog Rows.fnBitMiddleRow.named Rows.fnBitMiddleSpec.vars) = true := by kernel_rfl
theorem FnBitMiddle_k5 : ((Rows.fnBitMiddleRow.stops == [])) = true := by kernel_rfl
theorem FnBitMiddle_k7 : ((Rows.fnBitMiddleRow.knobs == [])) = true := by kernel_rfl
theorem FnBitMiddle_k9 : ((Rows.fnBitMiddleRow.inPlace == Try.prog.inPlace 6)) = true := by kernel_rfl
theorem FnBitMiddle_k10 : ((Rows.fnBitMiddleRow.unfollowed == Try.prog.unfollowed 6)) = true := by kernel_rfl
theorem FnBitMiddle_k11 : ((Rows.fnBitMiddleRow.recurses == Try.prog.recurses 6)) = true := by kernel_rfl
theorem FnBitMiddle_k12 : ((Rows.fnBitMiddleRow.named == Try.prog.varsNamed 6)) = true := by kernel_rfl
theorem FnBitMiddle_k13 : ((Rows.fnBitMiddleRow.maps == (Try.f6.params.toList ++ Rows.fnBitMiddleSpec.plain.varTypes Try.prog).any (Try.prog.mapsRec ·))) = true := by kernel_rfl
theorem FnBitMiddle_k14 : ((Rows.fnBitMiddleRow.ifaces == (Try.f6.params.toList ++ Rows.fnBitMiddleSpec.plain.varTypes Try.prog).any (Try.prog.ifacesRec ·))) = true := by kernel_rfl
theorem FnBitMiddle_k15 : ((Rows.fnBitMiddleRow.mapsOut == Try.prog.mapsAmong Try.f6.resultTypes.toList)) = true := by kernel_rfl
theorem FnBitMiddle_k16 : ((Rows.fnBitMiddleRow.loops == (Try.f6.params.toList ++ Rows.fnBitMiddleSpec.plain.varTypes Try.prog).any (Try.prog.loopsFrom ·))) = true := by kernel_rfl
theorem FnBitMiddle_k17 : ((Rows.fnBitMiddleRow.wideKeys == (Try.f6.params.toList ++ Rows.fnBitMiddleSpec.plain.varTypes Try.prog ++ Try.f6.resultTypes.toList).any (Try.prog.wideKeysFrom ·))) = true := by kernel_rfl
theorem FnBitMiddle_k18 : (Rows.fnBitMiddleSpec.vars.all (Try.prog.varReadable ·)) = true := by kernel_rfl
theorem FnBitMiddle_k19 : (Try.f6.resultTypes.all (fun t => Try.prog.readableRec t && decide (t < Try.prog.types.size))) = true := by kernel_rfl
theorem FnBitMiddle_k20 : ((Rows.fnBitMiddleRow.ifacesOut == Try.f6.resultTypes.toList.any (Try.prog.ifacesRec ·))) = true := by kernel_rfl
theorem FnBitMiddle_k21 : ((Rows.fnBitMiddleRow.loopsOut == Try.f6.resultTypes.toList.any (Try.prog.loopsFrom ·))) = true := by kernel_rfl
theorem FnBitMiddle_k23 : (Rows.fnBitMiddleRow.shortTexts.isNone) = true := by kernel_rfl
theorem FnBitMiddle_k28 : ((Rows.fnBitMiddleRow.kinds == (if Rows.fnBitMiddleRow.domain.isEmpty then [] else Try.f6.params.toList.map fun t => match Try.prog.underlying t with | some (.int k) => some k | _ => none))) = true := by kernel_rfl
theorem FnBitMiddle_k29 : ((Rows.fnBitMiddleRow.pinned == Rows.fnBitMiddleRow.pinnedBy)) = true := by kernel_rfl
theorem FnBitMiddle_k30 : ((Rows.fnBitMiddleRow.veiled == (Try.f6.params.toList ++ Rows.fnBitMiddleSpec.plain.varTypes Try.prog ++ Try.f6.resultTypes.toList).any (Try.prog.veiledRec ·))) = true := by kernel_rfl
theorem FnBitMiddle_k31 : (Rows.fnBitMiddleRow.veiledFits Try.prog Try.f6.params.toList (Try.f6.params.toList ++ Rows.fnBitMiddleSpec.plain.varTypes Try.prog ++ Try.f6.resultTypes.toList)) = true := by kernel_rfl
theorem FnBitMiddle_closed : joinedFacts Try.prog 6 Try.f6 Rows.fnBitMiddleSpec Rows.fnBitMiddleRow = true := (and2 (and2 (and2 (and2 (and2 (and2 (and2 (and2 (and2 (and2 (and2 (and2 (and2 (and2 (and2 (and2 (and2 (and2 (and2 (and2 (and2 (and2 (and2 (and2 (and2 (and2 (and2 (and2 (and2 (and2 (and2 FnBitMiddle_k0 jf1) jf2) FnBitMiddle_k3) FnBitMiddle_k4) FnBitMiddle_k5) jf6) FnBitMiddle_k7) jf8) FnBitMiddle_k9) FnBitMiddle_k10) FnBitMiddle_k11) FnBitMiddle_k12) FnBitMiddle_k13) FnBitMiddle_k14) FnBitMiddle_k15) FnBitMiddle_k16) FnBitMiddle_k17) FnBitMiddle_k18) FnBitMiddle_k19) FnBitMiddle_k20) FnBitMiddle_k21) jf22) FnBitMiddle_k23) jf24) jf25) jf26) jf27) FnBitMiddle_k28) FnBitMiddle_k29) FnBitMiddle_k30) FnBitMiddle_k31)
theorem FnBitMiddle_over : Rows.fnBitMiddleRow.holds Try.pinned (OpenSpec.ofChange Rows.fnBitMiddleSpec) :=
  OpenClaim.holds_of_wide 6 Try.f6 rfl rfl rfl rfl rfl rfl rfl ⟨rfl, rfl, rfl, rfl, rfl⟩ rfl rfl rfl rfl rfl (by kernel_rfl) Try.func6 FnBitMiddle_closed
    (of_decide_eq_true (by kernel_rfl)) (by unfold Func.isWrapper; first | (rw [if_pos (by decide +kernel)]; kernel_rfl) | (rw [if_neg (by decide +kernel)]; exact ⟨rfl, rfl⟩))
    (fun os started H enc _ => FnBitMiddle_lifted os started H enc)

theorem FnBitMiddle_proved : Rows.FnBitMiddleSaid := FnBitMiddle_over
end Go.Proofs.Ytljmmaaaeojbpaa
