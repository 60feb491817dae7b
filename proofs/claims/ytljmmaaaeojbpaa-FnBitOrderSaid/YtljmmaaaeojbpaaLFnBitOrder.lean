/- For every two codes of bytes, of the two order numbers drawn from them at one width the lesser one has the lesser value, by the parts: the law answers true; nothing that was there is written. No condition. -/
import Derived.Test.YtljmmaaaeojbpaaRows
import Derived.WalkKit
import Derived.ProofKit
import Derived.OpenShut
import Derived.ShutString
import Derived.ChangeOld
import Derived.Below
import Derived.Deep.RegionHeld
import Derived.Test.YtljmmaaaeojbpaaH1
import Derived.Test.YtljmmaaaeojbpaaJ0
import Derived.Test.YtljmmaaaeojbpaaJ1
import Derived.Test.YtljmmaaaeojbpaaJ2
import Derived.Test.YtljmmaaaeojbpaaJ3
namespace Go.Proofs.Ytljmmaaaeojbpaa
open Go.ChangeShapes Go.WideShapes Go.ChangeAt Go.RowKit
open Go.ChangeMaps (open_string shut_string)
set_option linter.unusedVariables false

theorem FnBitOrder_own : ownKnob Try.prog.godebug = none := by kernel_rfl
theorem FnBitOrder_laidOut : laidOutB Try.prog = true := by kernel_rfl

/-- WHAT THE WALK IS TOLD OF A SLICE OF INTEGERS THAT CAME IN: it is nil; or it leads to a row of 'cap' cells, the numbers 'zs' (the first 'len' are its elements, the rest its spare room), each fitting its kind. -/
def IsRow (k : IntKind) (w : World) (a : Option Addr) (len cap : Nat) (zs : List Int) : Prop :=
  (a = none ∧ len = 0 ∧ cap = 0 ∧ zs = []) ∨
  ∃ x, a = some x ∧ len ≤ cap ∧ cap ≤ maxLen ∧ zs.length = cap ∧ (∀ i, i < zs.length → w.cell? (x.add i) = some (.int k (zs.getD i 0))) ∧ ∀ n ∈ zs, (Lit.int k n).wf = true

theorem row_code {w : World} {a : Option Addr} {len cap : Nat} {zs : List Int} (h : IsRow .u8 w a len cap zs) : IsCode w a len cap := by
  rcases h with ⟨rfl, rfl, rfl, rfl⟩ | ⟨x, rfl, hl, hm, hz, hcell, hwz⟩
  · exact ⟨by omega, by omega, .inl rfl⟩
  · unfold maxLen at hm
    refine ⟨hl, by omega, ?_⟩
    by_cases h0 : len = 0
    · exact .inl h0
    obtain ⟨b, off, spot⟩ := x
    have hc := hcell 0 (by omega)
    have hspot : spot = none := by simpa [Addr.add] using World.cell?_spot hc
    subst hspot
    have hb := World.block_lt_of_cell? w _ hc
    refine .inr ⟨b, off, rfl, by simpa [Addr.add] using hb, fun i hi => ?_⟩
    have hci := hcell i (by omega)
    have hw : (Lit.int .u8 (zs.getD i 0)).wf = true := by
      apply hwz
      rw [List.getD_eq_getElem?_getD, List.getElem?_eq_getElem (by omega)]
      exact List.getElem_mem _
    obtain ⟨z0, z1⟩ := bounds_u8 hw
    have e : (⟨b, off, none⟩ : Addr).add i = ⟨b, off + i, none⟩ := by
      by_cases h : i = 0
      · subst h; simp [Addr.add]
      · simp [Addr.add, h]
    rw [e] at hci
    exact ⟨_, z0, z1, hci⟩

set_option maxHeartbeats 1000000 in
theorem FnBitOrder_walk (a0 : Option Addr) (len0 cap0 : Nat) (z0 : List Int) (a1 : Option Addr) (len1 cap1 : Nat) (z1 : List Int) (w : World) (w0 : IsRow .u8 w a0 len0 cap0 z0) (w1 : IsRow .u8 w a1 len1 cap1 z1) :
    Calls Try.prog 3 #[.slice a0 len0 cap0, .slice a1 len1 cap1] w fun e w' => e = .returned (.bool true) ∧ Below w.heap.size w w' := by
  have k0 := row_code w0
  have k1 := row_code w1
  clear w0 w1
  by_cases l0 : (1048576 : Int) < (len0 : Int)
  · have t0 : decide ((1048576 : Int) < (len0 : Int)) = true := by simp; omega
    go_enter Try.func3, Try.ntmps3
    go_wp2
    go_ret
    exact ⟨rfl, (by repeat (first | exact Below.refl _ _ | refine Below.drew ?_ | refine old_alloc ?_ _ | refine old_trans ?_ (by assumption)))⟩
  have t0 : decide ((1048576 : Int) < (len0 : Int)) = false := by simp; omega
  by_cases l1 : (1048576 : Int) < (len1 : Int)
  · have t1 : decide ((1048576 : Int) < (len1 : Int)) = true := by simp; omega
    go_enter Try.func3, Try.ntmps3
    go_wp2
    go_ret
    exact ⟨rfl, (by repeat (first | exact Below.refl _ _ | refine Below.drew ?_ | refine old_alloc ?_ _ | refine old_trans ?_ (by assumption)))⟩
  have t1 : decide ((1048576 : Int) < (len1 : Int)) = false := by simp; omega
  go_enter Try.func3, Try.ntmps3
  go_wp2_with fail
  refine (drawPartOf w a0 len0 cap0 k0).mono ?_
  rintro e w1 ⟨⟨wd, a, ⟨d1, d2, d3, d4⟩, rfl⟩, hb1⟩
  replace k1 := k1.old hb1
  clear k0
  go_wp2_with fail
  refine (drawPartOf w1 a1 len1 cap1 k1).mono ?_
  rintro e w2 ⟨⟨wd', b, ⟨-, -, d5, d6⟩, rfl⟩, hb2⟩
  clear k1 d1 d2
  by_cases c1 : wd = 32
  · subst c1
    by_cases ca : -2139095040 < a ∧ a < 2139095040
    · obtain ⟨a1, a2⟩ := ca
      by_cases cb : -2139095040 < b ∧ b < 2139095040
      · obtain ⟨b1, b2⟩ := cb
        go_wp2_with fail
        refine (iPart_32 a a1 a2 _).mono ?_
        rintro e w3 ⟨rfl, hb3⟩
        unfold partV
        go_wp2_with fail
        have T3 := Three.new w3 (.bool (decide (a < 0))) (.int .u64 (pSize 8388608 (absI a))) (.int .i64 (pPow 8388608 (-149) (absI a))) 27
        refine (iPart_32 b b1 b2 _).mono ?_
        rintro e w4 ⟨rfl, hb4⟩
        replace T3 := T3.old hb4
        unfold partV
        go_wp2_with fail
        replace T3 := T3.old (old_alloc (Below.refl _ _) (.cells #[.bool (decide (b < 0)), .int .u64 (pSize 8388608 (absI b)), .int .i64 (pPow 8388608 (-149) (absI b))] 27))
        have T4 := Three.new w4 (.bool (decide (b < 0))) (.int .u64 (pSize 8388608 (absI b))) (.int .i64 (pPow 8388608 (-149) (absI b))) 27
        refine (sPart_32 a a1 a2 _).mono ?_
        rintro e w5 ⟨rfl, hb5⟩
        replace T3 := T3.old hb5
        replace T4 := T4.old hb5
        unfold partV
        obtain ⟨x0, x1, x2, x3⟩ := T3
        obtain ⟨y0, y1, y2, y3⟩ := T4
        go_wp2_with fail
        refine (pbLess_32 a b a1 a2 b1 b2 _).mono ?_
        rintro e w6 ⟨rfl, hb6⟩
        go_wp2
        go_ret
        exact ⟨ret_bool (by simp), (by repeat (first | exact Below.refl _ _ | refine Below.drew ?_ | refine old_alloc ?_ _ | refine old_trans ?_ (by assumption)))⟩
      · go_wp2_with fail
        refine (iPart_32 a a1 a2 _).mono ?_
        rintro e w3 ⟨rfl, hb3⟩
        unfold partV
        go_wp2_with fail
        have T3 := Three.new w3 (.bool (decide (a < 0))) (.int .u64 (pSize 8388608 (absI a))) (.int .i64 (pPow 8388608 (-149) (absI a))) 27
        refine (iPart_32_not b cb _).mono ?_
        rintro e w4 ⟨rfl, hb4⟩
        replace T3 := T3.old hb4
        unfold partNo
        go_wp2_with fail
        replace T3 := T3.old (old_alloc (Below.refl _ _) (.cells #[.bool false, .int .u64 0, .int .i64 0] 27))
        have T4 := Three.new w4 (.bool false) (.int .u64 0) (.int .i64 0) 27
        refine (sPart_32 a a1 a2 _).mono ?_
        rintro e w5 ⟨rfl, hb5⟩
        replace T3 := T3.old hb5
        replace T4 := T4.old hb5
        unfold partV
        obtain ⟨x0, x1, x2, x3⟩ := T3
        obtain ⟨y0, y1, y2, y3⟩ := T4
        go_wp2
        go_ret
        exact ⟨rfl, (by repeat (first | exact Below.refl _ _ | refine Below.drew ?_ | refine old_alloc ?_ _ | refine old_trans ?_ (by assumption)))⟩
    · by_cases cb : -2139095040 < b ∧ b < 2139095040
      · obtain ⟨b1, b2⟩ := cb
        go_wp2_with fail
        refine (iPart_32_not a ca _).mono ?_
        rintro e w3 ⟨rfl, hb3⟩
        unfold partNo
        go_wp2_with fail
        have T3 := Three.new w3 (.bool false) (.int .u64 0) (.int .i64 0) 27
        refine (iPart_32 b b1 b2 _).mono ?_
        rintro e w4 ⟨rfl, hb4⟩
        replace T3 := T3.old hb4
        unfold partV
        go_wp2_with fail
        replace T3 := T3.old (old_alloc (Below.refl _ _) (.cells #[.bool (decide (b < 0)), .int .u64 (pSize 8388608 (absI b)), .int .i64 (pPow 8388608 (-149) (absI b))] 27))
        have T4 := Three.new w4 (.bool (decide (b < 0))) (.int .u64 (pSize 8388608 (absI b))) (.int .i64 (pPow 8388608 (-149) (absI b))) 27
        refine (sPart_32_not a ca _).mono ?_
        rintro e w5 ⟨rfl, hb5⟩
        replace T3 := T3.old hb5
        replace T4 := T4.old hb5
        unfold partNo
        obtain ⟨x0, x1, x2, x3⟩ := T3
        obtain ⟨y0, y1, y2, y3⟩ := T4
        go_wp2
        go_ret
        exact ⟨rfl, (by repeat (first | exact Below.refl _ _ | refine Below.drew ?_ | refine old_alloc ?_ _ | refine old_trans ?_ (by assumption)))⟩
      · go_wp2_with fail
        refine (iPart_32_not a ca _).mono ?_
        rintro e w3 ⟨rfl, hb3⟩
        unfold partNo
        go_wp2_with fail
        have T3 := Three.new w3 (.bool false) (.int .u64 0) (.int .i64 0) 27
        refine (iPart_32_not b cb _).mono ?_
        rintro e w4 ⟨rfl, hb4⟩
        replace T3 := T3.old hb4
        unfold partNo
        go_wp2_with fail
        replace T3 := T3.old (old_alloc (Below.refl _ _) (.cells #[.bool false, .int .u64 0, .int .i64 0] 27))
        have T4 := Three.new w4 (.bool false) (.int .u64 0) (.int .i64 0) 27
        refine (sPart_32_not a ca _).mono ?_
        rintro e w5 ⟨rfl, hb5⟩
        replace T3 := T3.old hb5
        replace T4 := T4.old hb5
        unfold partNo
        obtain ⟨x0, x1, x2, x3⟩ := T3
        obtain ⟨y0, y1, y2, y3⟩ := T4
        go_wp2
        go_ret
        exact ⟨rfl, (by repeat (first | exact Below.refl _ _ | refine Below.drew ?_ | refine old_alloc ?_ _ | refine old_trans ?_ (by assumption)))⟩
  by_cases c2 : wd = 64
  · subst c2
    by_cases ca : -9218868437227405312 < a ∧ a < 9218868437227405312
    · obtain ⟨a1, a2⟩ := ca
      by_cases cb : -9218868437227405312 < b ∧ b < 9218868437227405312
      · obtain ⟨b1, b2⟩ := cb
        go_wp2_with fail
        refine (iPart_64 a a1 a2 _).mono ?_
        rintro e w3 ⟨rfl, hb3⟩
        unfold partV
        go_wp2_with fail
        have T3 := Three.new w3 (.bool (decide (a < 0))) (.int .u64 (pSize 4503599627370496 (absI a))) (.int .i64 (pPow 4503599627370496 (-1074) (absI a))) 27
        refine (iPart_64 b b1 b2 _).mono ?_
        rintro e w4 ⟨rfl, hb4⟩
        replace T3 := T3.old hb4
        unfold partV
        go_wp2_with fail
        replace T3 := T3.old (old_alloc (Below.refl _ _) (.cells #[.bool (decide (b < 0)), .int .u64 (pSize 4503599627370496 (absI b)), .int .i64 (pPow 4503599627370496 (-1074) (absI b))] 27))
        have T4 := Three.new w4 (.bool (decide (b < 0))) (.int .u64 (pSize 4503599627370496 (absI b))) (.int .i64 (pPow 4503599627370496 (-1074) (absI b))) 27
        refine (sPart_64 a a1 a2 _).mono ?_
        rintro e w5 ⟨rfl, hb5⟩
        replace T3 := T3.old hb5
        replace T4 := T4.old hb5
        unfold partV
        obtain ⟨x0, x1, x2, x3⟩ := T3
        obtain ⟨y0, y1, y2, y3⟩ := T4
        go_wp2_with fail
        refine (pbLess_64 a b a1 a2 b1 b2 _).mono ?_
        rintro e w6 ⟨rfl, hb6⟩
        go_wp2
        go_ret
        exact ⟨ret_bool (by simp), (by repeat (first | exact Below.refl _ _ | refine Below.drew ?_ | refine old_alloc ?_ _ | refine old_trans ?_ (by assumption)))⟩
      · go_wp2_with fail
        refine (iPart_64 a a1 a2 _).mono ?_
        rintro e w3 ⟨rfl, hb3⟩
        unfold partV
        go_wp2_with fail
        have T3 := Three.new w3 (.bool (decide (a < 0))) (.int .u64 (pSize 4503599627370496 (absI a))) (.int .i64 (pPow 4503599627370496 (-1074) (absI a))) 27
        refine (iPart_64_not b cb _).mono ?_
        rintro e w4 ⟨rfl, hb4⟩
        replace T3 := T3.old hb4
        unfold partNo
        go_wp2_with fail
        replace T3 := T3.old (old_alloc (Below.refl _ _) (.cells #[.bool false, .int .u64 0, .int .i64 0] 27))
        have T4 := Three.new w4 (.bool false) (.int .u64 0) (.int .i64 0) 27
        refine (sPart_64 a a1 a2 _).mono ?_
        rintro e w5 ⟨rfl, hb5⟩
        replace T3 := T3.old hb5
        replace T4 := T4.old hb5
        unfold partV
        obtain ⟨x0, x1, x2, x3⟩ := T3
        obtain ⟨y0, y1, y2, y3⟩ := T4
        go_wp2
        go_ret
        exact ⟨rfl, (by repeat (first | exact Below.refl _ _ | refine Below.drew ?_ | refine old_alloc ?_ _ | refine old_trans ?_ (by assumption)))⟩
    · by_cases cb : -9218868437227405312 < b ∧ b < 9218868437227405312
      · obtain ⟨b1, b2⟩ := cb
        go_wp2_with fail
        refine (iPart_64_not a ca _).mono ?_
        rintro e w3 ⟨rfl, hb3⟩
        unfold partNo
        go_wp2_with fail
        have T3 := Three.new w3 (.bool false) (.int .u64 0) (.int .i64 0) 27
        refine (iPart_64 b b1 b2 _).mono ?_
        rintro e w4 ⟨rfl, hb4⟩
        replace T3 := T3.old hb4
        unfold partV
        go_wp2_with fail
        replace T3 := T3.old (old_alloc (Below.refl _ _) (.cells #[.bool (decide (b < 0)), .int .u64 (pSize 4503599627370496 (absI b)), .int .i64 (pPow 4503599627370496 (-1074) (absI b))] 27))
        have T4 := Three.new w4 (.bool (decide (b < 0))) (.int .u64 (pSize 4503599627370496 (absI b))) (.int .i64 (pPow 4503599627370496 (-1074) (absI b))) 27
        refine (sPart_64_not a ca _).mono ?_
        rintro e w5 ⟨rfl, hb5⟩
        replace T3 := T3.old hb5
        replace T4 := T4.old hb5
        unfold partNo
        obtain ⟨x0, x1, x2, x3⟩ := T3
        obtain ⟨y0, y1, y2, y3⟩ := T4
        go_wp2
        go_ret
        exact ⟨rfl, (by repeat (first | exact Below.refl _ _ | refine Below.drew ?_ | refine old_alloc ?_ _ | refine old_trans ?_ (by assumption)))⟩
      · go_wp2_with fail
        refine (iPart_64_not a ca _).mono ?_
        rintro e w3 ⟨rfl, hb3⟩
        unfold partNo
        go_wp2_with fail
        have T3 := Three.new w3 (.bool false) (.int .u64 0) (.int .i64 0) 27
        refine (iPart_64_not b cb _).mono ?_
        rintro e w4 ⟨rfl, hb4⟩
        replace T3 := T3.old hb4
        unfold partNo
        go_wp2_with fail
        replace T3 := T3.old (old_alloc (Below.refl _ _) (.cells #[.bool false, .int .u64 0, .int .i64 0] 27))
        have T4 := Three.new w4 (.bool false) (.int .u64 0) (.int .i64 0) 27
        refine (sPart_64_not a ca _).mono ?_
        rintro e w5 ⟨rfl, hb5⟩
        replace T3 := T3.old hb5
        replace T4 := T4.old hb5
        unfold partNo
        obtain ⟨x0, x1, x2, x3⟩ := T3
        obtain ⟨y0, y1, y2, y3⟩ := T4
        go_wp2
        go_ret
        exact ⟨rfl, (by repeat (first | exact Below.refl _ _ | refine Below.drew ?_ | refine old_alloc ?_ _ | refine old_trans ?_ (by assumption)))⟩
  go_wp2_with fail
  refine (iPart_no wd a c1 c2 _).mono ?_
  rintro e w3 ⟨rfl, hb3⟩
  unfold partNo
  go_wp2_with fail
  have T3 := Three.new w3 (.bool false) (.int .u64 0) (.int .i64 0) 27
  refine (iPart_no wd b c1 c2 _).mono ?_
  rintro e w4 ⟨rfl, hb4⟩
  replace T3 := T3.old hb4
  unfold partNo
  go_wp2_with fail
  replace T3 := T3.old (old_alloc (Below.refl _ _) (.cells #[.bool false, .int .u64 0, .int .i64 0] 27))
  have T4 := Three.new w4 (.bool false) (.int .u64 0) (.int .i64 0) 27
  refine (sPart_no wd a c1 c2 _).mono ?_
  rintro e w5 ⟨rfl, hb5⟩
  replace T3 := T3.old hb5
  replace T4 := T4.old hb5
  unfold partNo
  obtain ⟨x0, x1, x2, x3⟩ := T3
  obtain ⟨y0, y1, y2, y3⟩ := T4
  go_wp2
  go_ret
  exact ⟨rfl, (by repeat (first | exact Below.refl _ _ | refine Below.drew ?_ | refine old_alloc ?_ _ | refine old_trans ?_ (by assumption)))⟩
set_option maxRecDepth 100000 in
theorem FnBitOrder_lifted (os : Os) (started : os.Started) (H : Type) (enc : TypeId × Value → H) :
    ReturnsInHanded {} Try.checked os 3 .any (Rows.fnBitOrderSpec.pre6 enc Try.prog Try.f3 Rows.fnBitOrderRow.domain false) (Rows.fnBitOrderSpec.post enc Try.prog Try.f3 false true false false) := by
  refine returnsInHanded_of_change (C := Try.checked) FnBitOrder_own started (by kernel_rfl) Try.func3
    (ChangeSpec.witness6 (enc := enc) (C := Try.checked) false ⟨#[], #[.slice none 0 0, .slice none 0 0], []⟩ 8 (by kernel_rfl) (by kernel_rfl) (by kernel_rfl) (by kernel_rfl)) ?_
  intro W base args ds gs before hval0 hW hcnd _
  have hval : ∀ (j : Nat) t v, Try.f3.params[j]? = some t → args[j]? = some v → Value.okWide Try.prog W .any base t v := hval0
  have hW' := hW
  obtain ⟨p, q, hA0, hV, rfl, hfz, hnd⟩ := hW
  have hA : DataW.TrodAll enc Try.prog W 0 (fun _ => true) true Try.f3.params.toList args.toList ds p := hA0
  rw [Try.params3] at hA hval
  obtain ⟨v0, vs0, d0, ds0, p0, q0, hargs, rfl, rfl, h0, r0⟩ := trodAll_cons hA
  obtain ⟨v1, vs1, d1, ds1, p1, q1, rfl, rfl, rfl, h1, r1⟩ := trodAll_cons r0
  obtain ⟨rfl, rfl, rfl⟩ := trodAll_nil r1
  obtain rfl : args = #[v0, v1] := by cases args; simp_all
  obtain ⟨rfl, rfl⟩ := trodVars_none hV
  obtain ⟨a0, len0, cap0, rfl⟩ := okWide_slice Try.underlying22 (hval 0 22 v0 rfl rfl)
  have k0 := h0
  have lt0 : ∀ x ∈ p0, x.block < W.heap.size := by obtain ⟨m, hm⟩ := k0; exact DataW.trod_lt m _ _ _ hm
  obtain ⟨z0, w0⟩ : ∃ zs, IsRow .u8 W a0 len0 cap0 zs := by
    obtain ⟨fuel, hf⟩ := h0
    rcases open_ints Try.underlying22 Try.underlying5 (by kernel_rfl) hf with ⟨hcs, _⟩ | ⟨x, l, c, zs, hcs, _, hl, hm, hz, _, hcell, hwz⟩
    · simp [Value.cells] at hcs
      obtain ⟨rfl, rfl, rfl⟩ := hcs
      exact ⟨[], .inl ⟨rfl, rfl, rfl, rfl⟩⟩
    · simp [Value.cells] at hcs
      obtain ⟨rfl, rfl, rfl⟩ := hcs
      exact ⟨zs, .inr ⟨_, rfl, hl, hm, by simpa using hz, hcell, hwz⟩⟩
  obtain ⟨a1, len1, cap1, rfl⟩ := okWide_slice Try.underlying22 (hval 1 22 v1 rfl rfl)
  have k1 := h1
  have lt1 : ∀ x ∈ p1, x.block < W.heap.size := by obtain ⟨m, hm⟩ := k1; exact DataW.trod_lt m _ _ _ hm
  obtain ⟨z1, w1⟩ : ∃ zs, IsRow .u8 W a1 len1 cap1 zs := by
    obtain ⟨fuel, hf⟩ := h1
    rcases open_ints Try.underlying22 Try.underlying5 (by kernel_rfl) hf with ⟨hcs, _⟩ | ⟨x, l, c, zs, hcs, _, hl, hm, hz, _, hcell, hwz⟩
    · simp [Value.cells] at hcs
      obtain ⟨rfl, rfl, rfl⟩ := hcs
      exact ⟨[], .inl ⟨rfl, rfl, rfl, rfl⟩⟩
    · simp [Value.cells] at hcs
      obtain ⟨rfl, rfl, rfl⟩ := hcs
      exact ⟨zs, .inr ⟨_, rfl, hl, hm, by simpa using hz, hcell, hwz⟩⟩
  clear hA0 hval0
  refine (FnBitOrder_walk a0 len0 cap0 z0 a1 len1 cap1 z1 W w0 w1).mono fun e W' ⟨he, bel⟩ => ?_
  subst he
  exact ⟨_, rfl, _, _, _, [], _, [], hW', trodAll_mk1 (shut_bool Try.underlying4 _), (trodAll_cons_mk (Below.trod FnBitOrder_laidOut (by kernel_rfl) (of_decide_eq_true (by kernel_rfl)) k0 bel lt0) (trodAll_cons_mk (Below.trod FnBitOrder_laidOut (by kernel_rfl) (of_decide_eq_true (by kernel_rfl)) k1 bel lt1) trodAll_mk0)), rfl, bel.frame _, fun h => by cases h⟩

theorem FnBitOrder_k0 : (Rows.fnBitOrderRow.wf (OpenSpec.ofChange Rows.fnBitOrderSpec)) = true := by kernel_rfl
theorem FnBitOrder_k3 : (Try.f3.params.all (Try.prog.readableRec ·)) = true := by kernel_rfl
theorem FnBitOrder_k4 : (namedTie Try.prog Rows.fnBitOrderRow.named Rows.fnBitOrderSpec.vars) = true := by kernel_rfl
theorem FnBitOrder_k5 : ((Rows.fnBitOrderRow.stops == [])) = true := by kernel_rfl
theorem FnBitOrder_k7 : ((Rows.fnBitOrderRow.knobs == [])) = true := by kernel_rfl
theorem FnBitOrder_k9 : ((Rows.fnBitOrderRow.inPlace == Try.prog.inPlace 3)) = true := by kernel_rfl
theorem FnBitOrder_k10 : ((Rows.fnBitOrderRow.unfollowed == Try.prog.unfollowed 3)) = true := by kernel_rfl
theorem FnBitOrder_k11 : ((Rows.fnBitOrderRow.recurses == Try.prog.recurses 3)) = true := by kernel_rfl
theorem FnBitOrder_k12 : ((Rows.fnBitOrderRow.named == Try.prog.varsNamed 3)) = true := by kernel_rfl
theorem FnBitOrder_k13 : ((Rows.fnBitOrderRow.maps == (Try.f3.params.toList ++ Rows.fnBitOrderSpec.plain.varTypes Try.prog).any (Try.prog.mapsRec ·))) = true := by kernel_rfl
theorem FnBitOrder_k14 : ((Rows.fnBitOrderRow.ifaces == (Try.f3.params.toList ++ Rows.fnBitOrderSpec.plain.varTypes Try.prog).any (Try.prog.ifacesRec ·))) = true := by kernel_rfl
theorem FnBitOrder_k15 : ((Rows.fnBitOrderRow.mapsOut == Try.prog.mapsAmong Try.f3.resultTypes.toList)) = true := by kernel_rfl
theorem FnBitOrder_k16 : ((Rows.fnBitOrderRow.loops == (Try.f3.params.toList ++ Rows.fnBitOrderSpec.plain.varTypes Try.prog).any (Try.prog.loopsFrom ·))) = true := by kernel_rfl
theorem FnBitOrder_k17 : ((Rows.fnBitOrderRow.wideKeys == (Try.f3.params.toList ++ Rows.fnBitOrderSpec.plain.varTypes Try.prog ++ Try.f3.resultTypes.toList).any (Try.prog.wideKeysFrom ·))) = true := by kernel_rfl
theorem FnBitOrder_k18 : (Rows.fnBitOrderSpec.vars.all (Try.prog.varReadable ·)) = true := by kernel_rfl
theorem FnBitOrder_k19 : (Try.f3.resultTypes.all (fun t => Try.prog.readableRec t && decide (t < Try.prog.types.size))) = true := by kernel_rfl
theorem FnBitOrder_k20 : ((Rows.fnBitOrderRow.ifacesOut == Try.f3.resultTypes.toList.any (Try.prog.ifacesRec ·))) = true := by kernel_rfl
theorem FnBitOrder_k21 : ((Rows.fnBitOrderRow.loopsOut == Try.f3.resultTypes.toList.any (Try.prog.loopsFrom ·))) = true := by kernel_rfl
theorem FnBitOrder_k23 : (Rows.fnBitOrderRow.shortTexts.isNone) = true := by kernel_rfl
theorem FnBitOrder_k28 : ((Rows.fnBitOrderRow.kinds == (if Rows.fnBitOrderRow.domain.isEmpty then [] else Try.f3.params.toList.map fun t => match Try.prog.underlying t with | some (.int k) => some k | _ => none))) = true := by kernel_rfl
theorem FnBitOrder_k29 : ((Rows.fnBitOrderRow.pinned == Rows.fnBitOrderRow.pinnedBy)) = true := by kernel_rfl
theorem FnBitOrder_k30 : ((Rows.fnBitOrderRow.veiled == (Try.f3.params.toList ++ Rows.fnBitOrderSpec.plain.varTypes Try.prog ++ Try.f3.resultTypes.toList).any (Try.prog.veiledRec ·))) = true := by kernel_rfl
theorem FnBitOrder_k31 : (Rows.fnBitOrderRow.veiledFits Try.prog Try.f3.params.toList (Try.f3.params.toList ++ Rows.fnBitOrderSpec.plain.varTypes Try.prog ++ Try.f3.resultTypes.toList)) = true := by kernel_rfl
theorem FnBitOrder_closed : joinedFacts Try.prog 3 Try.f3 Rows.fnBitOrderSpec Rows.fnBitOrderRow = true := (and2 (and2 (and2 (and2 (and2 (and2 (and2 (and2 (and2 (and2 (and2 (and2 (and2 (and2 (and2 (and2 (and2 (and2 (and2 (and2 (and2 (and2 (and2 (and2 (and2 (and2 (and2 (and2 (and2 (and2 (and2 FnBitOrder_k0 jf1) jf2) FnBitOrder_k3) FnBitOrder_k4) FnBitOrder_k5) jf6) FnBitOrder_k7) jf8) FnBitOrder_k9) FnBitOrder_k10) FnBitOrder_k11) FnBitOrder_k12) FnBitOrder_k13) FnBitOrder_k14) FnBitOrder_k15) FnBitOrder_k16) FnBitOrder_k17) FnBitOrder_k18) FnBitOrder_k19) FnBitOrder_k20) FnBitOrder_k21) jf22) FnBitOrder_k23) jf24) jf25) jf26) jf27) FnBitOrder_k28) FnBitOrder_k29) FnBitOrder_k30) FnBitOrder_k31)
theorem FnBitOrder_over : Rows.fnBitOrderRow.holds Try.pinned (OpenSpec.ofChange Rows.fnBitOrderSpec) :=
  OpenClaim.holds_of_wide 3 Try.f3 rfl rfl rfl rfl rfl rfl rfl ⟨rfl, rfl, rfl, rfl, rfl⟩ rfl rfl rfl rfl rfl (by kernel_rfl) Try.func3 FnBitOrder_closed
    (of_decide_eq_true (by kernel_rfl)) (by unfold Func.isWrapper; first | (rw [if_pos (by decide +kernel)]; kernel_rfl) | (rw [if_neg (by decide +kernel)]; exact ⟨rfl, rfl⟩))
    (fun os started H enc _ => FnBitOrder_lifted os started H enc)

theorem FnBitOrder_proved : Rows.FnBitOrderSaid := FnBitOrder_over
end Go.Proofs.Ytljmmaaaeojbpaa
