/- For every code of bytes, of the order number drawn from it the next one above comes back by the next one below and its value is above, by the parts; what is no order number has 0 for both: the law answers true; nothing that was there is written. No condition. -/
import Derived.Test.YtljmmaaaeojbpaaRows
import Derived.WalkKit
import Derived.ProofKit
import Derived.OpenShut
import Derived.ShutString
import Derived.ChangeOld
import Derived.Below
import Derived.Deep.RegionHeld
import Derived.Test.YtljmmaaaeojbpaaH1
import Derived.Test.YtljmmaaaeojbpaaW6
import Derived.Test.YtljmmaaaeojbpaaJ0
import Derived.Test.YtljmmaaaeojbpaaJ1
import Derived.Test.YtljmmaaaeojbpaaJ2
import Derived.Test.YtljmmaaaeojbpaaJ3
namespace Go.Proofs.Ytljmmaaaeojbpaa
open Go.ChangeShapes Go.WideShapes Go.ChangeAt Go.RowKit
open Go.ChangeMaps (open_string shut_string)
set_option linter.unusedVariables false

theorem FnBitSteps_own : ownKnob Try.prog.godebug = none := by kernel_rfl
theorem FnBitSteps_laidOut : laidOutB Try.prog = true := by kernel_rfl

/-- WHAT THE WALK IS TOLD OF A SLICE OF INTEGERS THAT CAME IN: it is nil; or it leads to a row of 'cap' cells, the numbers 'zs' (the first 'len' are its elements, the rest its spare room), each fitting its kind. -/
def IsRow (k : IntKind) (w : World) (a : Option Addr) (len cap : Nat) (zs : List Int) : Prop :=
  (a = none ∧ len = 0 ∧ cap = 0 ∧ zs = []) ∨
  ∃ x, a = some x ∧ len ≤ cap ∧ cap ≤ maxLen ∧ zs.length = cap ∧ (∀ i, i < zs.length → w.cell? (x.add i) = some (.int k (zs.getD i 0))) ∧ ∀ n ∈ zs, (Lit.int k n).wf = true

theorem row_code {w : World} {a : Option Addr} {len cap : Nat} {zs : List Int} (h : IsRow .u8 w a len cap zs) : IsCode w a len cap := by
  rcases h with ⟨rfl, rfl, rfl, rfl⟩ | ⟨x, rfl, hl, hm, hz, hcell, hwz⟩
  · exact ⟨by omega, by omega, .inl rfl⟩
  · unfold maxLen at hm
    refine ⟨hl, by omega, ?_⟩
    by_cases h0 : len = 0
    · exact .inl h0
    obtain ⟨b, off, spot⟩ := x
    have hc := hcell 0 (by omega)
    have hspot : spot = none := by simpa [Addr.add] using World.cell?_spot hc
    subst hspot
    have hb := World.block_lt_of_cell? w _ hc
    refine .inr ⟨b, off, rfl, by simpa [Addr.add] using hb, fun i hi => ?_⟩
    have hci := hcell i (by omega)
    have hw : (Lit.int .u8 (zs.getD i 0)).wf = true := by
      apply hwz
      rw [List.getD_eq_getElem?_getD, List.getElem?_eq_getElem (by omega)]
      exact List.getElem_mem _
    obtain ⟨z0, z1⟩ := bounds_u8 hw
    have e : (⟨b, off, none⟩ : Addr).add i = ⟨b, off + i, none⟩ := by
      by_cases h : i = 0
      · subst h; simp [Addr.add]
      · simp [Addr.add, h]
    rw [e] at hci
    exact ⟨_, z0, z1, hci⟩

set_option maxHeartbeats 1000000 in
theorem FnBitSteps_walk (a0 : Option Addr) (len0 cap0 : Nat) (z0 : List Int) (w : World) (w0 : IsRow .u8 w a0 len0 cap0 z0) :
    Calls Try.prog 4 #[.slice a0 len0 cap0] w fun e w' => e = .returned (.bool true) ∧ Below w.heap.size w w' := by
  have k0 := row_code w0
  clear w0
  by_cases l0 : (1048576 : Int) < (len0 : Int)
  · have t0 : decide ((1048576 : Int) < (len0 : Int)) = true := by simp; omega
    go_enter Try.func4, Try.ntmps4
    go_wp2
    go_ret
    exact ⟨rfl, (by repeat (first | exact Below.refl _ _ | refine Below.drew ?_ | refine old_alloc ?_ _ | refine old_trans ?_ (by assumption)))⟩
  have t0 : decide ((1048576 : Int) < (len0 : Int)) = false := by simp; omega
  go_enter Try.func4, Try.ntmps4
  go_wp2_with fail
  refine (drawUp w a0 len0 cap0 k0).mono ?_
  rintro e w1 ⟨⟨wd, n, ⟨d1, d2, d3, d4⟩, rfl⟩, hb1⟩
  clear k0 d1 d2
  by_cases c1 : wd = 32
  · subst c1
    by_cases c : -2139095040 ≤ n ∧ n ≤ 2139095040
    · obtain ⟨h1, h2⟩ := c
      by_cases ct : n = 2139095040
      · subst ct
        clear h1 h2 d3 d4
        have U1 : Hid (∀ w, Calls Try.prog 25 #[.int .i64 32, .int .i64 2139095040] w fun e w' => e = .returned (.int .i64 2139095040) ∧ Below w.heap.size w w') := by
          have h := iBitUp_32 2139095040 (by omega) (by omega)
          rw [show min (2139095040 + 1) (2139095040 : Int) = 2139095040 by omega] at h
          exact h
        have D1 : Hid (∀ w, Calls Try.prog 26 #[.int .i64 32, .int .i64 2139095040] w fun e w' => e = .returned (.int .i64 2139095039) ∧ Below w.heap.size w w') := by
          have h := iBitDown_32 2139095040 (by omega) (by omega)
          rw [show max (2139095040 - 1) (-2139095040 : Int) = 2139095039 by omega] at h
          exact h
        have U2 : Hid (∀ w, Calls Try.prog 25 #[.int .i64 32, .int .i64 2139095039] w fun e w' => e = .returned (.int .i64 2139095040) ∧ Below w.heap.size w w') := by
          have h := iBitUp_32 2139095039 (by omega) (by omega)
          rw [show min (2139095039 + 1) (2139095040 : Int) = 2139095040 by omega] at h
          exact h
        go_wp2_with fail
        refine (U1.out _).mono ?_
        rintro e w2 ⟨rfl, hb2⟩
        go_wp2_with fail
        refine (D1.out _).mono ?_
        rintro e w3 ⟨rfl, hb3⟩
        go_wp2_with fail
        refine (sBitOk_32 _ _ (by decide) (by decide)).mono ?_
        rintro e w4 ⟨rfl, hb4⟩
        go_wp2_with fail
        refine (iBitTop_32 _).mono ?_
        rintro e w5 ⟨rfl, hb5⟩
        go_wp2_with fail
        refine (U2.out _).mono ?_
        rintro e w7 ⟨rfl, hb7⟩
        go_wp2_with fail
        refine (iPart_32_top _).mono ?_
        rintro e w8 ⟨rfl, hb8⟩
        unfold partNo
        go_wp2_with fail
        have T3 := Three.new w8 (.bool false) (.int .u64 0) (.int .i64 0) 27
        refine (iPart_32_top _).mono ?_
        rintro e w9 ⟨rfl, hb9⟩
        replace T3 := T3.old hb9
        unfold partNo
        obtain ⟨x0, x1, x2, x3⟩ := T3
        go_wp2
        go_ret
        exact ⟨rfl, (by repeat (first | exact Below.refl _ _ | refine Below.drew ?_ | refine old_alloc ?_ _ | refine old_trans ?_ (by assumption)))⟩
      by_cases cb : n = -2139095040
      · subst cb
        clear ct h1 h2 d3 d4
        have U1 : Hid (∀ w, Calls Try.prog 25 #[.int .i64 32, .int .i64 (-2139095040)] w fun e w' => e = .returned (.int .i64 (-2139095039)) ∧ Below w.heap.size w w') := by
          have h := iBitUp_32 (-2139095040) (by omega) (by omega)
          rw [show min ((-2139095040) + 1) (2139095040 : Int) = (-2139095039) by omega] at h
          exact h
        have D1 : Hid (∀ w, Calls Try.prog 26 #[.int .i64 32, .int .i64 (-2139095040)] w fun e w' => e = .returned (.int .i64 (-2139095040)) ∧ Below w.heap.size w w') := by
          have h := iBitDown_32 (-2139095040) (by omega) (by omega)
          rw [show max ((-2139095040) - 1) (-2139095040 : Int) = (-2139095040) by omega] at h
          exact h
        have D2 : Hid (∀ w, Calls Try.prog 26 #[.int .i64 32, .int .i64 (-2139095039)] w fun e w' => e = .returned (.int .i64 (-2139095040)) ∧ Below w.heap.size w w') := by
          have h := iBitDown_32 (-2139095039) (by omega) (by omega)
          rw [show max ((-2139095039) - 1) (-2139095040 : Int) = (-2139095040) by omega] at h
          exact h
        go_wp2_with fail
        refine (U1.out _).mono ?_
        rintro e w2 ⟨rfl, hb2⟩
        go_wp2_with fail
        refine (D1.out _).mono ?_
        rintro e w3 ⟨rfl, hb3⟩
        go_wp2_with fail
        refine (sBitOk_32 _ _ (by decide) (by decide)).mono ?_
        rintro e w4 ⟨rfl, hb4⟩
        go_wp2_with fail
        refine (iBitTop_32 _).mono ?_
        rintro e w5 ⟨rfl, hb5⟩
        go_wp2_with fail
        refine (D2.out _).mono ?_
        rintro e w7 ⟨rfl, hb7⟩
        go_wp2_with fail
        refine (iPart_32_bot _).mono ?_
        rintro e w8 ⟨rfl, hb8⟩
        unfold partNo
        go_wp2_with fail
        have T3 := Three.new w8 (.bool false) (.int .u64 0) (.int .i64 0) 27
        refine (iPart_32 (-2139095039) (by decide) (by decide) _).mono ?_
        rintro e w9 ⟨rfl, hb9⟩
        replace T3 := T3.old hb9
        unfold partV
        obtain ⟨x0, x1, x2, x3⟩ := T3
        go_wp2
        go_ret
        exact ⟨rfl, (by repeat (first | exact Below.refl _ _ | refine Below.drew ?_ | refine old_alloc ?_ _ | refine old_trans ?_ (by assumption)))⟩
      have g1 : -2139095040 < n := by omega
      have g2 : n < 2139095040 := by omega
      clear ct cb
      have U1 : Hid (∀ w, Calls Try.prog 25 #[.int .i64 32, .int .i64 n] w fun e w' => e = .returned (.int .i64 (n + 1)) ∧ Below w.heap.size w w') := by
        have h := iBitUp_32 n (by omega) (by omega)
        rw [show min (n + 1) (2139095040 : Int) = (n + 1) by omega] at h
        exact h
      have D1 : Hid (∀ w, Calls Try.prog 26 #[.int .i64 32, .int .i64 n] w fun e w' => e = .returned (.int .i64 (n - 1)) ∧ Below w.heap.size w w') := by
        have h := iBitDown_32 n (by omega) (by omega)
        rw [show max (n - 1) (-2139095040 : Int) = (n - 1) by omega] at h
        exact h
      have D2 : Hid (∀ w, Calls Try.prog 26 #[.int .i64 32, .int .i64 (n + 1)] w fun e w' => e = .returned (.int .i64 n) ∧ Below w.heap.size w w') := by
        have h := iBitDown_32 (n + 1) (by omega) (by omega)
        rw [show max ((n + 1) - 1) (-2139095040 : Int) = n by omega] at h
        exact h
      have U2 : Hid (∀ w, Calls Try.prog 25 #[.int .i64 32, .int .i64 (n - 1)] w fun e w' => e = .returned (.int .i64 n) ∧ Below w.heap.size w w') := by
        have h := iBitUp_32 (n - 1) (by omega) (by omega)
        rw [show min ((n - 1) + 1) (2139095040 : Int) = n by omega] at h
        exact h
      have f1 : decide (n < 2139095040) = true := by simp; omega
      have f2 : decide (n + 1 ≤ n) = false := by simp; omega
      have f3 : decide (-2139095040 < n) = true := by simp; omega
      have f4 : decide (n ≤ n - 1) = false := by simp; omega
      have f5 : (n == 2139095040) = false := by simp; omega
      have f6 : (n == -2139095040) = false := by simp; omega
      go_wp2_with fail
      refine (U1.out _).mono ?_
      rintro e w2 ⟨rfl, hb2⟩
      go_wp2_with fail
      refine (D1.out _).mono ?_
      rintro e w3 ⟨rfl, hb3⟩
      go_wp2_with fail
      refine (sBitOk_32 n _ h1 h2).mono ?_
      rintro e w4 ⟨rfl, hb4⟩
      go_wp2_with fail
      refine (iBitTop_32 _).mono ?_
      rintro e w5 ⟨rfl, hb5⟩
      go_wp2_with fail
      refine (D2.out _).mono ?_
      rintro e w6 ⟨rfl, hb6⟩
      go_wp2_with fail
      refine (U2.out _).mono ?_
      rintro e w7 ⟨rfl, hb7⟩
      go_wp2_with fail
      refine (iPart_32 n g1 g2 _).mono ?_
      rintro e w8 ⟨rfl, hb8⟩
      unfold partV
      go_wp2_with fail
      have T3 := Three.new w8 (.bool (decide (n < 0))) (.int .u64 (pSize 8388608 (absI n))) (.int .i64 (pPow 8388608 (-149) (absI n))) 27
      by_cases c : n + 1 < 2139095040
      · have g3 : -2139095040 < n + 1 := by omega
        refine (iPart_32 (n + 1) g3 c _).mono ?_
        rintro e w9 ⟨rfl, hb9⟩
        replace T3 := T3.old hb9
        unfold partV
        obtain ⟨x0, x1, x2, x3⟩ := T3
        go_wp2_with fail
        refine (pbLess_32 n (n + 1) g1 g2 g3 c _).mono ?_
        rintro e w10 ⟨rfl, hb10⟩
        have f7 : decide (n < n + 1) = true := by simp; omega
        rw [f7]
        go_wp2
        go_ret
        exact ⟨rfl, (by repeat (first | exact Below.refl _ _ | refine Below.drew ?_ | refine old_alloc ?_ _ | refine old_trans ?_ (by assumption)))⟩
      · refine (iPart_32_not (n + 1) (by omega) _).mono ?_
        rintro e w9 ⟨rfl, hb9⟩
        replace T3 := T3.old hb9
        unfold partNo
        obtain ⟨x0, x1, x2, x3⟩ := T3
        go_wp2
        go_ret
        exact ⟨rfl, (by repeat (first | exact Below.refl _ _ | refine Below.drew ?_ | refine old_alloc ?_ _ | refine old_trans ?_ (by assumption)))⟩
    · go_wp2_with fail
      refine (iBitUp_32_out n c _).mono ?_
      rintro e w2 ⟨rfl, hb2⟩
      go_wp2_with fail
      refine (iBitDown_32_out n c _).mono ?_
      rintro e w3 ⟨rfl, hb3⟩
      go_wp2_with fail
      refine (sBitOk_32_out n _ c).mono ?_
      rintro e w4 ⟨rfl, hb4⟩
      go_wp2
      go_ret
      exact ⟨rfl, (by repeat (first | exact Below.refl _ _ | refine Below.drew ?_ | refine old_alloc ?_ _ | refine old_trans ?_ (by assumption)))⟩
  by_cases c2 : wd = 64
  · subst c2
    by_cases c : -9218868437227405312 ≤ n ∧ n ≤ 9218868437227405312
    · obtain ⟨h1, h2⟩ := c
      by_cases ct : n = 9218868437227405312
      · subst ct
        clear h1 h2 d3 d4
        have U1 : Hid (∀ w, Calls Try.prog 25 #[.int .i64 64, .int .i64 9218868437227405312] w fun e w' => e = .returned (.int .i64 9218868437227405312) ∧ Below w.heap.size w w') := by
          have h := iBitUp_64 9218868437227405312 (by omega) (by omega)
          rw [show min (9218868437227405312 + 1) (9218868437227405312 : Int) = 9218868437227405312 by omega] at h
          exact h
        have D1 : Hid (∀ w, Calls Try.prog 26 #[.int .i64 64, .int .i64 9218868437227405312] w fun e w' => e = .returned (.int .i64 9218868437227405311) ∧ Below w.heap.size w w') := by
          have h := iBitDown_64 9218868437227405312 (by omega) (by omega)
          rw [show max (9218868437227405312 - 1) (-9218868437227405312 : Int) = 9218868437227405311 by omega] at h
          exact h
        have U2 : Hid (∀ w, Calls Try.prog 25 #[.int .i64 64, .int .i64 9218868437227405311] w fun e w' => e = .returned (.int .i64 9218868437227405312) ∧ Below w.heap.size w w') := by
          have h := iBitUp_64 9218868437227405311 (by omega) (by omega)
          rw [show min (9218868437227405311 + 1) (9218868437227405312 : Int) = 9218868437227405312 by omega] at h
          exact h
        go_wp2_with fail
        refine (U1.out _).mono ?_
        rintro e w2 ⟨rfl, hb2⟩
        go_wp2_with fail
        refine (D1.out _).mono ?_
        rintro e w3 ⟨rfl, hb3⟩
        go_wp2_with fail
        refine (sBitOk_64 _ _ (by decide) (by decide)).mono ?_
        rintro e w4 ⟨rfl, hb4⟩
        go_wp2_with fail
        refine (iBitTop_64 _).mono ?_
        rintro e w5 ⟨rfl, hb5⟩
        go_wp2_with fail
        refine (U2.out _).mono ?_
        rintro e w7 ⟨rfl, hb7⟩
        go_wp2_with fail
        refine (iPart_64_top _).mono ?_
        rintro e w8 ⟨rfl, hb8⟩
        unfold partNo
        go_wp2_with fail
        have T3 := Three.new w8 (.bool false) (.int .u64 0) (.int .i64 0) 27
        refine (iPart_64_top _).mono ?_
        rintro e w9 ⟨rfl, hb9⟩
        replace T3 := T3.old hb9
        unfold partNo
        obtain ⟨x0, x1, x2, x3⟩ := T3
        go_wp2
        go_ret
        exact ⟨rfl, (by repeat (first | exact Below.refl _ _ | refine Below.drew ?_ | refine old_alloc ?_ _ | refine old_trans ?_ (by assumption)))⟩
      by_cases cb : n = -9218868437227405312
      · subst cb
        clear ct h1 h2 d3 d4
        have U1 : Hid (∀ w, Calls Try.prog 25 #[.int .i64 64, .int .i64 (-9218868437227405312)] w fun e w' => e = .returned (.int .i64 (-9218868437227405311)) ∧ Below w.heap.size w w') := by
          have h := iBitUp_64 (-9218868437227405312) (by omega) (by omega)
          rw [show min ((-9218868437227405312) + 1) (9218868437227405312 : Int) = (-9218868437227405311) by omega] at h
          exact h
        have D1 : Hid (∀ w, Calls Try.prog 26 #[.int .i64 64, .int .i64 (-9218868437227405312)] w fun e w' => e = .returned (.int .i64 (-9218868437227405312)) ∧ Below w.heap.size w w') := by
          have h := iBitDown_64 (-9218868437227405312) (by omega) (by omega)
          rw [show max ((-9218868437227405312) - 1) (-9218868437227405312 : Int) = (-9218868437227405312) by omega] at h
          exact h
        have D2 : Hid (∀ w, Calls Try.prog 26 #[.int .i64 64, .int .i64 (-9218868437227405311)] w fun e w' => e = .returned (.int .i64 (-9218868437227405312)) ∧ Below w.heap.size w w') := by
          have h := iBitDown_64 (-9218868437227405311) (by omega) (by omega)
          rw [show max ((-9218868437227405311) - 1) (-9218868437227405312 : Int) = (-9218868437227405312) by omega] at h
          exact h
        go_wp2_with fail
        refine (U1.out _).mono ?_
        rintro e w2 ⟨rfl, hb2⟩
        go_wp2_with fail
        refine (D1.out _).mono ?_
        rintro e w3 ⟨rfl, hb3⟩
        go_wp2_with fail
        refine (sBitOk_64 _ _ (by decide) (by decide)).mono ?_
        rintro e w4 ⟨rfl, hb4⟩
        go_wp2_with fail
        refine (iBitTop_64 _).mono ?_
        rintro e w5 ⟨rfl, hb5⟩
        go_wp2_with fail
        refine (D2.out _).mono ?_
        rintro e w7 ⟨rfl, hb7⟩
        go_wp2_with fail
        refine (iPart_64_bot _).mono ?_
        rintro e w8 ⟨rfl, hb8⟩
        unfold partNo
        go_wp2_with fail
        have T3 := Three.new w8 (.bool false) (.int .u64 0) (.int .i64 0) 27
        refine (iPart_64 (-9218868437227405311) (by decide) (by decide) _).mono ?_
        rintro e w9 ⟨rfl, hb9⟩
        replace T3 := T3.old hb9
        unfold partV
        obtain ⟨x0, x1, x2, x3⟩ := T3
        go_wp2
        go_ret
        exact ⟨rfl, (by repeat (first | exact Below.refl _ _ | refine Below.drew ?_ | refine old_alloc ?_ _ | refine old_trans ?_ (by assumption)))⟩
      have g1 : -9218868437227405312 < n := by omega
      have g2 : n < 9218868437227405312 := by omega
      clear ct cb
      have U1 : Hid (∀ w, Calls Try.prog 25 #[.int .i64 64, .int .i64 n] w fun e w' => e = .returned (.int .i64 (n + 1)) ∧ Below w.heap.size w w') := by
        have h := iBitUp_64 n (by omega) (by omega)
        rw [show min (n + 1) (9218868437227405312 : Int) = (n + 1) by omega] at h
        exact h
      have D1 : Hid (∀ w, Calls Try.prog 26 #[.int .i64 64, .int .i64 n] w fun e w' => e = .returned (.int .i64 (n - 1)) ∧ Below w.heap.size w w') := by
        have h := iBitDown_64 n (by omega) (by omega)
        rw [show max (n - 1) (-9218868437227405312 : Int) = (n - 1) by omega] at h
        exact h
      have D2 : Hid (∀ w, Calls Try.prog 26 #[.int .i64 64, .int .i64 (n + 1)] w fun e w' => e = .returned (.int .i64 n) ∧ Below w.heap.size w w') := by
        have h := iBitDown_64 (n + 1) (by omega) (by omega)
        rw [show max ((n + 1) - 1) (-9218868437227405312 : Int) = n by omega] at h
        exact h
      have U2 : Hid (∀ w, Calls Try.prog 25 #[.int .i64 64, .int .i64 (n - 1)] w fun e w' => e = .returned (.int .i64 n) ∧ Below w.heap.size w w') := by
        have h := iBitUp_64 (n - 1) (by omega) (by omega)
        rw [show min ((n - 1) + 1) (9218868437227405312 : Int) = n by omega] at h
        exact h
      have f1 : decide (n < 9218868437227405312) = true := by simp; omega
      have f2 : decide (n + 1 ≤ n) = false := by simp; omega
      have f3 : decide (-9218868437227405312 < n) = true := by simp; omega
      have f4 : decide (n ≤ n - 1) = false := by simp; omega
      have f5 : (n == 9218868437227405312) = false := by simp; omega
      have f6 : (n == -9218868437227405312) = false := by simp; omega
      go_wp2_with fail
      refine (U1.out _).mono ?_
      rintro e w2 ⟨rfl, hb2⟩
      go_wp2_with fail
      refine (D1.out _).mono ?_
      rintro e w3 ⟨rfl, hb3⟩
      go_wp2_with fail
      refine (sBitOk_64 n _ h1 h2).mono ?_
      rintro e w4 ⟨rfl, hb4⟩
      go_wp2_with fail
      refine (iBitTop_64 _).mono ?_
      rintro e w5 ⟨rfl, hb5⟩
      go_wp2_with fail
      refine (D2.out _).mono ?_
      rintro e w6 ⟨rfl, hb6⟩
      go_wp2_with fail
      refine (U2.out _).mono ?_
      rintro e w7 ⟨rfl, hb7⟩
      go_wp2_with fail
      refine (iPart_64 n g1 g2 _).mono ?_
      rintro e w8 ⟨rfl, hb8⟩
      unfold partV
      go_wp2_with fail
      have T3 := Three.new w8 (.bool (decide (n < 0))) (.int .u64 (pSize 4503599627370496 (absI n))) (.int .i64 (pPow 4503599627370496 (-1074) (absI n))) 27
      by_cases c : n + 1 < 9218868437227405312
      · have g3 : -9218868437227405312 < n + 1 := by omega
        refine (iPart_64 (n + 1) g3 c _).mono ?_
        rintro e w9 ⟨rfl, hb9⟩
        replace T3 := T3.old hb9
        unfold partV
        obtain ⟨x0, x1, x2, x3⟩ := T3
        go_wp2_with fail
        refine (pbLess_64 n (n + 1) g1 g2 g3 c _).mono ?_
        rintro e w10 ⟨rfl, hb10⟩
        have f7 : decide (n < n + 1) = true := by simp; omega
        rw [f7]
        go_wp2
        go_ret
        exact ⟨rfl, (by repeat (first | exact Below.refl _ _ | refine Below.drew ?_ | refine old_alloc ?_ _ | refine old_trans ?_ (by assumption)))⟩
      · refine (iPart_64_not (n + 1) (by omega) _).mono ?_
        rintro e w9 ⟨rfl, hb9⟩
        replace T3 := T3.old hb9
        unfold partNo
        obtain ⟨x0, x1, x2, x3⟩ := T3
        go_wp2
        go_ret
        exact ⟨rfl, (by repeat (first | exact Below.refl _ _ | refine Below.drew ?_ | refine old_alloc ?_ _ | refine old_trans ?_ (by assumption)))⟩
    · go_wp2_with fail
      refine (iBitUp_64_out n c _).mono ?_
      rintro e w2 ⟨rfl, hb2⟩
      go_wp2_with fail
      refine (iBitDown_64_out n c _).mono ?_
      rintro e w3 ⟨rfl, hb3⟩
      go_wp2_with fail
      refine (sBitOk_64_out n _ c).mono ?_
      rintro e w4 ⟨rfl, hb4⟩
      go_wp2
      go_ret
      exact ⟨rfl, (by repeat (first | exact Below.refl _ _ | refine Below.drew ?_ | refine old_alloc ?_ _ | refine old_trans ?_ (by assumption)))⟩
  go_wp2_with fail
  refine (iBitUp_no wd n c1 c2 _).mono ?_
  rintro e w2 ⟨rfl, hb2⟩
  go_wp2_with fail
  refine (iBitDown_no wd n c1 c2 _).mono ?_
  rintro e w3 ⟨rfl, hb3⟩
  go_wp2_with fail
  refine (sBitOk_no wd n _ c1 c2).mono ?_
  rintro e w4 ⟨rfl, hb4⟩
  go_wp2
  go_ret
  exact ⟨rfl, (by repeat (first | exact Below.refl _ _ | refine Below.drew ?_ | refine old_alloc ?_ _ | refine old_trans ?_ (by assumption)))⟩
set_option maxRecDepth 100000 in
theorem FnBitSteps_lifted (os : Os) (started : os.Started) (H : Type) (enc : TypeId × Value → H) :
    ReturnsInHanded {} Try.checked os 4 .any (Rows.fnBitStepsSpec.pre6 enc Try.prog Try.f4 Rows.fnBitStepsRow.domain false) (Rows.fnBitStepsSpec.post enc Try.prog Try.f4 false true false false) := by
  refine returnsInHanded_of_change (C := Try.checked) FnBitSteps_own started (by kernel_rfl) Try.func4
    (ChangeSpec.witness6 (enc := enc) (C := Try.checked) false ⟨#[], #[.slice none 0 0], []⟩ 8 (by kernel_rfl) (by kernel_rfl) (by kernel_rfl) (by kernel_rfl)) ?_
  intro W base args ds gs before hval0 hW hcnd _
  have hval : ∀ (j : Nat) t v, Try.f4.params[j]? = some t → args[j]? = some v → Value.okWide Try.prog W .any base t v := hval0
  have hW' := hW
  obtain ⟨p, q, hA0, hV, rfl, hfz, hnd⟩ := hW
  have hA : DataW.TrodAll enc Try.prog W 0 (fun _ => true) true Try.f4.params.toList args.toList ds p := hA0
  rw [Try.params4] at hA hval
  obtain ⟨v0, vs0, d0, ds0, p0, q0, hargs, rfl, rfl, h0, r0⟩ := trodAll_cons hA
  obtain ⟨rfl, rfl, rfl⟩ := trodAll_nil r0
  obtain rfl : args = #[v0] := by cases args; simp_all
  obtain ⟨rfl, rfl⟩ := trodVars_none hV
  obtain ⟨a0, len0, cap0, rfl⟩ := okWide_slice Try.underlying22 (hval 0 22 v0 rfl rfl)
  have k0 := h0
  have lt0 : ∀ x ∈ p0, x.block < W.heap.size := by obtain ⟨m, hm⟩ := k0; exact DataW.trod_lt m _ _ _ hm
  obtain ⟨z0, w0⟩ : ∃ zs, IsRow .u8 W a0 len0 cap0 zs := by
    obtain ⟨fuel, hf⟩ := h0
    rcases open_ints Try.underlying22 Try.underlying5 (by kernel_rfl) hf with ⟨hcs, _⟩ | ⟨x, l, c, zs, hcs, _, hl, hm, hz, _, hcell, hwz⟩
    · simp [Value.cells] at hcs
      obtain ⟨rfl, rfl, rfl⟩ := hcs
      exact ⟨[], .inl ⟨rfl, rfl, rfl, rfl⟩⟩
    · simp [Value.cells] at hcs
      obtain ⟨rfl, rfl, rfl⟩ := hcs
      exact ⟨zs, .inr ⟨_, rfl, hl, hm, by simpa using hz, hcell, hwz⟩⟩
  clear hA0 hval0
  refine (FnBitSteps_walk a0 len0 cap0 z0 W w0).mono fun e W' ⟨he, bel⟩ => ?_
  subst he
  exact ⟨_, rfl, _, _, _, [], _, [], hW', trodAll_mk1 (shut_bool Try.underlying4 _), (trodAll_cons_mk (Below.trod FnBitSteps_laidOut (by kernel_rfl) (of_decide_eq_true (by kernel_rfl)) k0 bel lt0) trodAll_mk0), rfl, bel.frame _, fun h => by cases h⟩

theorem FnBitSteps_k0 : (Rows.fnBitStepsRow.wf (OpenSpec.ofChange Rows.fnBitStepsSpec)) = true := by kernel_rfl
theorem FnBitSteps_k3 : (Try.f4.params.all (Try.prog.readableRec ·)) = true := by kernel_rfl
theorem FnBitSteps_k4 : (namedTie Try.prog Rows.fnBitStepsRow.named Rows.fnBitStepsSpec.vars) = true := by kernel_rfl
theorem FnBitSteps_k5 : ((Rows.fnBitStepsRow.stops == [])) = true := by kernel_rfl
theorem FnBitSteps_k7 : ((Rows.fnBitStepsRow.knobs == [])) = true := by kernel_rfl
theorem FnBitSteps_k9 : ((Rows.fnBitStepsRow.inPlace == Try.prog.inPlace 4)) = true := by kernel_rfl
theorem FnBitSteps_k10 : ((Rows.fnBitStepsRow.unfollowed == Try.prog.unfollowed 4)) = true := by kernel_rfl
theorem FnBitSteps_k11 : ((Rows.fnBitStepsRow.recurses == Try.prog.recurses 4)) = true := by kernel_rfl
theorem FnBitSteps_k12 : ((Rows.fnBitStepsRow.named == Try.prog.varsNamed 4)) = true := by kernel_rfl
theorem FnBitSteps_k13 : ((Rows.fnBitStepsRow.maps == (Try.f4.params.toList ++ Rows.fnBitStepsSpec.plain.varTypes Try.prog).any (Try.prog.mapsRec ·))) = true := by kernel_rfl
theorem FnBitSteps_k14 : ((Rows.fnBitStepsRow.ifaces == (Try.f4.params.toList ++ Rows.fnBitStepsSpec.plain.varTypes Try.prog).any (Try.prog.ifacesRec ·))) = true := by kernel_rfl
theorem FnBitSteps_k15 : ((Rows.fnBitStepsRow.mapsOut == Try.prog.mapsAmong Try.f4.resultTypes.toList)) = true := by kernel_rfl
theorem FnBitSteps_k16 : ((Rows.fnBitStepsRow.loops == (Try.f4.params.toList ++ Rows.fnBitStepsSpec.plain.varTypes Try.prog).any (Try.prog.loopsFrom ·))) = true := by kernel_rfl
theorem FnBitSteps_k17 : ((Rows.fnBitStepsRow.wideKeys == (Try.f4.params.toList ++ Rows.fnBitStepsSpec.plain.varTypes Try.prog ++ Try.f4.resultTypes.toList).any (Try.prog.wideKeysFrom ·))) = true := by kernel_rfl
theorem FnBitSteps_k18 : (Rows.fnBitStepsSpec.vars.all (Try.prog.varReadable ·)) = true := by kernel_rfl
theorem FnBitSteps_k19 : (Try.f4.resultTypes.all (fun t => Try.prog.readableRec t && decide (t < Try.prog.types.size))) = true := by kernel_rfl
theorem FnBitSteps_k20 : ((Rows.fnBitStepsRow.ifacesOut == Try.f4.resultTypes.toList.any (Try.prog.ifacesRec ·))) = true := by kernel_rfl
theorem FnBitSteps_k21 : ((Rows.fnBitStepsRow.loopsOut == Try.f4.resultTypes.toList.any (Try.prog.loopsFrom ·))) = true := by kernel_rfl
theorem FnBitSteps_k23 : (Rows.fnBitStepsRow.shortTexts.isNone) = true := by kernel_rfl
theorem FnBitSteps_k28 : ((Rows.fnBitStepsRow.kinds == (if Rows.fnBitStepsRow.domain.isEmpty then [] else Try.f4.params.toList.map fun t => match Try.prog.underlying t with | some (.int k) => some k | _ => none))) = true := by kernel_rfl
theorem FnBitSteps_k29 : ((Rows.fnBitStepsRow.pinned == Rows.fnBitStepsRow.pinnedBy)) = true := by kernel_rfl
theorem FnBitSteps_k30 : ((Rows.fnBitStepsRow.veiled == (Try.f4.params.toList ++ Rows.fnBitStepsSpec.plain.varTypes Try.prog ++ Try.f4.resultTypes.toList).any (Try.prog.veiledRec ·))) = true := by kernel_rfl
theorem FnBitSteps_k31 : (Rows.fnBitStepsRow.veiledFits Try.prog Try.f4.params.toList (Try.f4.params.toList ++ Rows.fnBitStepsSpec.plain.varTypes Try.prog ++ Try.f4.resultTypes.toList)) = true := by kernel_rfl
theorem FnBitSteps_closed : joinedFacts Try.prog 4 Try.f4 Rows.fnBitStepsSpec Rows.fnBitStepsRow = true := (and2 (and2 (and2 (and2 (and2 (and2 (and2 (and2 (and2 (and2 (and2 (and2 (and2 (and2 (and2 (and2 (and2 (and2 (and2 (and2 (and2 (and2 (and2 (and2 (and2 (and2 (and2 (and2 (and2 (and2 (and2 FnBitSteps_k0 jf1) jf2) FnBitSteps_k3) FnBitSteps_k4) FnBitSteps_k5) jf6) FnBitSteps_k7) jf8) FnBitSteps_k9) FnBitSteps_k10) FnBitSteps_k11) FnBitSteps_k12) FnBitSteps_k13) FnBitSteps_k14) FnBitSteps_k15) FnBitSteps_k16) FnBitSteps_k17) FnBitSteps_k18) FnBitSteps_k19) FnBitSteps_k20) FnBitSteps_k21) jf22) FnBitSteps_k23) jf24) jf25) jf26) jf27) FnBitSteps_k28) FnBitSteps_k29) FnBitSteps_k30) FnBitSteps_k31)
theorem FnBitSteps_over : Rows.fnBitStepsRow.holds Try.pinned (OpenSpec.ofChange Rows.fnBitStepsSpec) :=
  OpenClaim.holds_of_wide 4 Try.f4 rfl rfl rfl rfl rfl rfl rfl ⟨rfl, rfl, rfl, rfl, rfl⟩ rfl rfl rfl rfl rfl (by kernel_rfl) Try.func4 FnBitSteps_closed
    (of_decide_eq_true (by kernel_rfl)) (by unfold Func.isWrapper; first | (rw [if_pos (by decide +kernel)]; kernel_rfl) | (rw [if_neg (by decide +kernel)]; exact ⟨rfl, rfl⟩))
    (fun os started H enc _ => FnBitSteps_lifted os started H enc)

theorem FnBitSteps_proved : Rows.FnBitStepsSaid := FnBitSteps_over
end Go.Proofs.Ytljmmaaaeojbpaa
